package tests

import (
	"fmt"
	"math"
	"slices"
	"strings"
	"testing"

	"loop.example/cloison/impl"
)

func set(v int, val impl.Val) impl.Step {
	return impl.Step{Kind: impl.StepSet, Var: v, Val: val}
}

func tell(v, host int) impl.Step {
	return impl.Step{Kind: impl.StepTell, Var: v, Host: host}
}

func when(v int, then, not []impl.Step) impl.Step {
	return impl.Step{Kind: impl.StepIf, Var: v, Then: then, Else: not}
}

func num(a int) impl.Val {
	return impl.Val{Kind: impl.ValNum, A: a}
}

// freely is as many labels of all hosts.
func freely(vars int) []impl.Label {
	return slices.Repeat([]impl.Label{{Know: 7, Trust: 7}}, vars)
}

// plainVals is every value that is in form, of as many variables, by how it is written.
func plainVals(vars int) map[string]impl.Val {
	out := map[string]impl.Val{}
	for a := range 10 {
		out[fmt.Sprint(a)] = impl.Val{Kind: 1, A: a}
	}
	for a := range vars {
		out["abcd"[a:a+1]] = impl.Val{Kind: 2, A: a}
		for b := range vars {
			out[fmt.Sprintf("%c+%c", "abcd"[a], "abcd"[b])] = impl.Val{Kind: 3, A: a, B: b}
			out[fmt.Sprintf("%c=%c", "abcd"[a], "abcd"[b])] = impl.Val{Kind: 4, A: a, B: b}
		}
	}
	return out
}

// plainSteps is every step that is in form and has none in it, of as many variables, by how it is written.
func plainSteps(vars int) map[string]impl.Step {
	out := map[string]impl.Step{}
	vals := plainVals(vars)
	for v := range vars {
		name := "abcd"[v : v+1]
		for text, val := range vals {
			out[name+":"+text+";"] = impl.Step{Kind: 1, Var: v, Val: val}
		}
		out[name+"?()()"] = impl.Step{Kind: 2, Var: v}
		for host, text := range []string{"0", "1", "2"} {
			out[name+">"+text+";"] = impl.Step{Kind: 3, Var: v, Host: host}
		}
	}
	return out
}

// flatStep is a step without its lists, so that it may be held against another one.
type flatStep struct {
	kind, v int
	val     impl.Val
	host    int
}

func flat(s impl.Step) flatStep {
	return flatStep{s.Kind, s.Var, s.Val, s.Host}
}

func sameStep(a, b impl.Step) bool {
	return flat(a) == flat(b) && sameSteps(a.Then, b.Then) && sameSteps(a.Else, b.Else)
}

func sameSteps(a, b []impl.Step) bool {
	return slices.EqualFunc(a, b, sameStep)
}

func sameProg(a, b impl.Prog) bool {
	return slices.Equal(a.Labels, b.Labels) && sameSteps(a.Steps, b.Steps)
}

// deepCopy is the same steps in other memory.
func deepCopy(steps []impl.Step) []impl.Step {
	var out []impl.Step
	for _, s := range steps {
		s.Then, s.Else = deepCopy(s.Then), deepCopy(s.Else)
		out = append(out, s)
	}
	return out
}

// inOrder is steps as they are counted: each, then all in Then, then all in Else.
func inOrder(steps []impl.Step) []impl.Step {
	var out []impl.Step
	for _, s := range steps {
		out = slices.Concat(out, []impl.Step{s}, inOrder(s.Then), inOrder(s.Else))
	}
	return out
}

// depthOf is how deep steps are; none are 0 deep.
func depthOf(steps []impl.Step) int {
	deepest := 0
	for _, s := range steps {
		deepest = max(deepest, 1+depthOf(s.Then), 1+depthOf(s.Else))
	}
	return deepest
}

// writtenVal, writtenSteps and written are the texts that the document's tables show.
func writtenVal(v impl.Val) string {
	for text, val := range plainVals(4) {
		if val == v {
			return text
		}
	}
	return "no value"
}

func writtenSteps(steps []impl.Step) string {
	out := ""
	for _, s := range steps {
		switch s.Kind {
		case 1:
			out += fmt.Sprintf("%c:%s;", "abcd"[s.Var], writtenVal(s.Val))
		case 2:
			out += fmt.Sprintf("%c?(%s)(%s)", "abcd"[s.Var], writtenSteps(s.Then), writtenSteps(s.Else))
		case 3:
			out += fmt.Sprintf("%c>%d;", "abcd"[s.Var], s.Host)
		}
	}
	return out
}

func written(p impl.Prog) string {
	out := ""
	for _, a := range p.Labels {
		out += impl.LabelText(a) + " "
	}
	return out + "/ " + writtenSteps(p.Steps)
}

// listsOf is all lists of steps with as many steps, with all in them: every way in which they may stand beside and in each other. All are StepIf of the variable 0.
func listsOf(size int, known map[int][][]impl.Step) [][]impl.Step {
	if size == 0 {
		return [][]impl.Step{nil}
	}
	if lists, ok := known[size]; ok {
		return lists
	}
	var out [][]impl.Step
	for then := range size {
		for not := range size - then {
			for _, x := range listsOf(then, known) {
				for _, y := range listsOf(not, known) {
					for _, rest := range listsOf(size-1-then-not, known) {
						out = append(out, append([]impl.Step{{Kind: 2, Then: x, Else: y}}, rest...))
					}
				}
			}
		}
	}
	known[size] = out
	return out
}

// told is the steps made such that no two are the same: those with none in them are other kinds by turns, with numbers behind each other.
func told(steps []impl.Step, next *int) []impl.Step {
	var out []impl.Step
	for _, s := range steps {
		n := *next
		*next++
		s.Var = n % 4
		s.Then, s.Else = told(s.Then, next), told(s.Else, next)
		if len(s.Then)+len(s.Else) == 0 {
			s = []impl.Step{set(n%4, num(n)), set(n%4, impl.Val{Kind: 3, A: n / 4, B: n % 4}), tell(n%4, n%3)}[n*5/3%3]
		}
		out = append(out, s)
	}
	return out
}

// shapedProgs is a program of each shape with as many steps.
func shapedProgs(size int, known map[int][][]impl.Step) []impl.Prog {
	var out []impl.Prog
	for _, steps := range listsOf(size, known) {
		next := 0
		out = append(out, impl.Prog{Labels: freely(4), Steps: told(steps, &next)})
	}
	return out
}

// okShapes is a program of each shape that may be, with less than as many steps.
func okShapes(end int) []impl.Prog {
	known := map[int][][]impl.Step{}
	var out []impl.Prog
	for size := range end {
		for _, p := range shapedProgs(size, known) {
			if depthOf(p.Steps) <= 3 {
				out = append(out, p)
			}
		}
	}
	return out
}

// chance is numbers that look like any, and are the same each time.
type chance uint64

func (c *chance) below(n int) int {
	*c = *c*6364136223846793005 + 1442695040888963407
	return int(uint64(*c) >> 33 % uint64(n))
}

func (c *chance) val(vars int) impl.Val {
	switch c.below(4) {
	case 0:
		return num(c.below(10))
	case 1:
		return impl.Val{Kind: impl.ValVar, A: c.below(vars)}
	}
	return impl.Val{Kind: impl.ValSum + c.below(2), A: c.below(vars), B: c.below(vars)}
}

func (c *chance) steps(vars, deep int, left *int) []impl.Step {
	var out []impl.Step
	for *left > 0 && c.below(4) > 0 {
		*left--
		switch c.below(3) {
		case 0:
			out = append(out, set(c.below(vars), c.val(vars)))
		case 1:
			out = append(out, tell(c.below(vars), c.below(3)))
		case 2:
			s := when(c.below(vars), nil, nil)
			if deep < 3 {
				s.Then, s.Else = c.steps(vars, deep+1, left), c.steps(vars, deep+1, left)
			}
			out = append(out, s)
		}
	}
	return out
}

// prog is a program that is ok.
func (c *chance) prog() impl.Prog {
	var p impl.Prog
	for range c.below(5) {
		p.Labels = append(p.Labels, impl.Label{Know: c.below(8), Trust: c.below(8)})
	}
	left := c.below(9)
	if len(p.Labels) > 0 {
		p.Steps = c.steps(len(p.Labels), 1, &left)
	}
	return p
}

// manyProgs is programs that are ok, of all kinds.
func manyProgs(many int) []impl.Prog {
	c := chance(2)
	var out []impl.Prog
	for range many {
		out = append(out, c.prog())
	}
	return out
}

// noNumbers is places at which there is no step.
func noNumbers(size int) []int {
	return []int{-1, -2, -8, math.MinInt32, math.MinInt, size, size + 1, size + 8, 256 + size, 1 << 32, math.MaxInt32, math.MaxInt}
}

// checkProg holds all answers at a program that is ok against what the document says of it.
func checkProg(t *testing.T, p impl.Prog) {
	t.Helper()
	all := inOrder(p.Steps)
	if !impl.ProgOk(p) || impl.ProgSize(p) != len(all) {
		t.Errorf("%v, size %d: %s", impl.ProgOk(p), impl.ProgSize(p), written(p))
	}
	if got := impl.ProgText(p); got != written(p) {
		t.Errorf("%q, not %q", got, written(p))
	}
	for n, want := range all {
		if s, ok := impl.ProgAt(p, n); !ok || !sameStep(s, want) {
			t.Errorf("%s: %d is %v, %v", written(p), n, s, ok)
		}
	}
	for _, n := range noNumbers(len(all)) {
		if s, ok := impl.ProgAt(p, n); ok || !sameStep(s, impl.Step{}) {
			t.Errorf("%s: %d is %v, %v", written(p), n, s, ok)
		}
	}
}

// checkNone asks for the one fixed answer of each function at what is no program; it does not print it, as that may not end.
func checkNone(t *testing.T, p impl.Prog, what string) {
	t.Helper()
	if impl.ProgOk(p) || impl.ProgSize(p) != -1 || impl.ProgText(p) != "" {
		t.Errorf("%s: %v, %d, %q", what, impl.ProgOk(p), impl.ProgSize(p), impl.ProgText(p))
	}
	for _, n := range append(noNumbers(8), 0, 1, 2, 3, 4, 5, 6, 7) {
		if s, ok := impl.ProgAt(p, n); ok || flat(s) != (flatStep{}) || len(s.Then)+len(s.Else) != 0 {
			t.Errorf("%s has a step %d", what, n)
		}
	}
}

// P9
func TestProgramsFirstStepsAreOneAndSoIsTheRest(t *testing.T) {
	t.Parallel()
	for _, p := range append(manyProgs(3000), okShapes(9)...) {
		for k := range len(p.Steps) + 1 {
			first := impl.Prog{Labels: p.Labels, Steps: p.Steps[:k]}
			rest := impl.Prog{Labels: p.Labels, Steps: p.Steps[k:]}
			if !impl.ProgOk(p) || !impl.ProgOk(first) || !impl.ProgOk(rest) {
				t.Fatalf("%s: the first %d", written(p), k)
			}
			if impl.ProgSize(first)+impl.ProgSize(rest) != impl.ProgSize(p) {
				t.Fatalf("%s: the first %d have %d", written(p), k, impl.ProgSize(first))
			}
			behind := strings.TrimPrefix(impl.ProgText(rest), written(impl.Prog{Labels: p.Labels}))
			if impl.ProgText(first)+behind != impl.ProgText(p) {
				t.Fatalf("%s: the first %d are %s", written(p), k, impl.ProgText(first))
			}
		}
	}
}

// P10, P11: every way in which steps may stand beside and in each other, up to one more than there may be.
func TestProgramsOfEachShape(t *testing.T) {
	t.Parallel()
	known := map[int][][]impl.Step{}
	for size := range 10 {
		ok, none := 0, 0
		for _, p := range shapedProgs(size, known) {
			switch {
			case size > 8 || depthOf(p.Steps) > 3:
				none++
				if impl.ProgOk(p) || impl.ProgSize(p) != -1 {
					t.Fatalf("%s is ok", written(p))
				}
			case size < 7:
				ok++
				checkProg(t, p)
			default:
				ok++
				if s, is := impl.ProgAt(p, size-1); impl.ProgSize(p) != size || !is || !sameStep(s, inOrder(p.Steps)[size-1]) {
					t.Fatalf("%s has %d", written(p), impl.ProgSize(p))
				}
			}
		}
		if ok > 0 != (size <= 8) || none > 0 != (size > 3) {
			t.Errorf("of size %d %d are ok, and %d are not", size, ok, none)
		}
	}
}

// P10, P11, P12
func TestProgramsOfManyKinds(t *testing.T) {
	t.Parallel()
	sizes := map[int]int{}
	for _, p := range manyProgs(3000) {
		checkProg(t, p)
		sizes[impl.ProgSize(p)]++
	}
	for size := range 9 {
		if sizes[size] == 0 {
			t.Errorf("no program of %d steps", size)
		}
	}
}

// P10, P11
func TestProgramOneByOne(t *testing.T) {
	t.Parallel()
	p := impl.Prog{Labels: freely(4), Steps: []impl.Step{
		when(0, []impl.Step{
			when(1, []impl.Step{set(0, num(1))}, []impl.Step{set(0, num(2))}),
			tell(2, 1),
		}, []impl.Step{set(0, num(3)), set(3, impl.Val{Kind: impl.ValSame, A: 3, B: 1})}),
		tell(3, 0),
	}}
	const labels = "012!012 012!012 012!012 012!012 / "
	if got := impl.ProgText(p); got != labels+"a?(b?(a:1;)(a:2;)c>1;)(a:3;d:d=b;)d>0;" {
		t.Error(got)
	}
	if impl.ProgSize(p) != 8 {
		t.Error(impl.ProgSize(p))
	}
	for n, want := range []string{"a?(b?(a:1;)(a:2;)c>1;)(a:3;d:d=b;)", "b?(a:1;)(a:2;)", "a:1;", "a:2;", "c>1;", "a:3;", "d:d=b;", "d>0;"} {
		s, ok := impl.ProgAt(p, n)
		if got := impl.ProgText(impl.Prog{Labels: p.Labels, Steps: []impl.Step{s}}); !ok || got != labels+want {
			t.Errorf("%d is %s, %v", n, got, ok)
		}
	}
	p.Steps = append(p.Steps, tell(3, 0))
	checkNone(t, p, "nine steps")
}

// P12: any two of these programs are the same just if their texts are.
func TestProgramsAreTheSameJustIfTheirTextsAre(t *testing.T) {
	t.Parallel()
	progs := append(manyProgs(5000), okShapes(9)...)
	for vars := range 5 {
		for _, a := range allLabels() {
			labels := append(freely(vars), a.label)[:vars:vars]
			if vars > 0 {
				labels[vars/2] = a.label
			}
			progs = append(progs, impl.Prog{Labels: labels})
		}
		for _, s := range plainSteps(vars) {
			progs = append(progs, impl.Prog{Labels: freely(vars), Steps: []impl.Step{s}}, impl.Prog{Labels: freely(vars), Steps: []impl.Step{s, s}})
		}
	}
	for _, s := range plainSteps(2) {
		for _, r := range plainSteps(2) {
			progs = append(progs, impl.Prog{Labels: freely(2), Steps: []impl.Step{s, r}})
		}
	}
	// fmt writes the numbers of a program one by one, and an empty list as a nil one.
	byText, bySelf := map[string]string{}, map[string]string{}
	for _, p := range progs {
		text, self := impl.ProgText(p), fmt.Sprint(p)
		if was, ok := byText[text]; text == "" || ok && was != self {
			t.Fatalf("%q is of %s and %s", text, was, self)
		}
		if was, ok := bySelf[self]; ok && was != text {
			t.Fatalf("%s is written %q and %q", self, was, text)
		}
		byText[text], bySelf[self] = self, text
	}
}

// P9, P12: the empty list and the nil list are the same.
func TestProgramsWithEmptyLists(t *testing.T) {
	t.Parallel()
	none := []impl.Step{}
	p := impl.Prog{Labels: freely(1), Steps: []impl.Step{
		{Kind: impl.StepSet, Val: num(9), Then: none, Else: none},
		{Kind: impl.StepTell, Host: 2, Then: none},
		{Kind: impl.StepIf, Else: none},
	}}
	q := impl.Prog{Labels: freely(1), Steps: []impl.Step{set(0, num(9)), tell(0, 2), when(0, nil, nil)}}
	checkProg(t, p)
	if impl.ProgText(p) != impl.ProgText(q) || impl.ProgText(q) != "012!012 / a:9;a>2;a?()()" {
		t.Errorf("%q, %q", impl.ProgText(p), impl.ProgText(q))
	}
	for _, p := range []impl.Prog{{}, {Labels: []impl.Label{}, Steps: none}} {
		checkProg(t, p)
		if impl.ProgSize(p) != 0 || impl.ProgText(p) != "/ " {
			t.Errorf("%d, %q", impl.ProgSize(p), impl.ProgText(p))
		}
	}
}

// P9, P12: each limit is met exactly, and one more refused.
func TestProgramsAtTheirLimits(t *testing.T) {
	t.Parallel()
	if impl.ProgVars != 4 || impl.ProgSteps != 8 || impl.ProgDeep != 3 || impl.ProgNums != 10 {
		t.Fatal("limits")
	}
	for vars := range 8 {
		if p := (impl.Prog{Labels: freely(vars)}); vars <= 4 {
			checkProg(t, p)
		} else {
			checkNone(t, p, "too many labels")
		}
	}
	for many := range 12 {
		p := impl.Prog{Labels: freely(1), Steps: slices.Repeat([]impl.Step{tell(0, 0)}, many)}
		q := impl.Prog{Labels: freely(1), Steps: []impl.Step{when(0, nil, p.Steps)}}
		if many <= 8 {
			checkProg(t, p)
		} else {
			checkNone(t, p, "too many steps")
		}
		if many+1 <= 8 {
			checkProg(t, q)
		} else {
			checkNone(t, q, "too many steps in one")
		}
	}
	for deep := range 7 {
		// Each number tells, of each step, whether those in it are in Then or in Else.
		for sides := range 1 << deep {
			steps := []impl.Step{set(0, num(0))}
			for i := range deep {
				if sides>>i&1 == 0 {
					steps = []impl.Step{when(0, steps, nil)}
				} else {
					steps = []impl.Step{when(0, nil, steps)}
				}
			}
			p := impl.Prog{Labels: freely(1), Steps: append([]impl.Step{tell(0, 1)}, steps...)}
			if deep+1 <= 3 {
				checkProg(t, p)
			} else {
				checkNone(t, p, "too deep")
			}
		}
	}
}

// P12: the parts of a step, and of its value, are tried in all ways, right and wrong.
func TestStepsInForm(t *testing.T) {
	t.Parallel()
	for vars := range 5 {
		plain := map[flatStep]bool{}
		for _, s := range plainSteps(vars) {
			plain[flat(s)] = true
			checkProg(t, impl.Prog{Labels: freely(vars), Steps: []impl.Step{s}})
		}
		nums := []int{-1, 0, 1, 2, 3, 4, 9, 10}
		var s impl.Step
		p := impl.Prog{Labels: freely(vars), Steps: []impl.Step{s}}
		for kind := -1; kind < 5; kind++ {
			for v := -1; v < 6; v++ {
				for host := -1; host < 5; host++ {
					for valKind := -1; valKind < 6; valKind++ {
						for _, a := range nums {
							for _, b := range nums {
								s = impl.Step{Kind: kind, Var: v, Host: host, Val: impl.Val{Kind: valKind, A: a, B: b}}
								p.Steps[0] = s
								if impl.ProgOk(p) != plain[flat(s)] {
									t.Fatalf("of %d variables %v: %v", vars, s, impl.ProgOk(p))
								}
							}
						}
					}
				}
			}
		}
	}
}

// farNumbers is numbers that are never a part of a step; many of them would be if their high bits were lost.
func farNumbers() []int {
	return []int{-1, -4, -256, -255, math.MinInt8, math.MinInt16, math.MinInt32, math.MinInt, math.MinInt + 1, 10, 16, 64, 255, 256, 257, 1 << 16, 1<<16 + 1, 1 << 32, 1<<32 + 2, 1 << 62, math.MaxInt32, math.MaxInt}
}

// P9, P10, P11, P12: one part of a step that is in form, and stands anywhere, is wrong.
func TestStepsWithOneWrongPart(t *testing.T) {
	t.Parallel()
	plain := []impl.Step{tell(0, 0), set(0, num(1))}
	for _, good := range plainSteps(2) {
		var wrong []impl.Step
		change := func(part func(s *impl.Step) *int) {
			for _, n := range farNumbers() {
				s := good
				*part(&s) = n
				wrong = append(wrong, s)
			}
		}
		change(func(s *impl.Step) *int { return &s.Kind })
		change(func(s *impl.Step) *int { return &s.Var })
		change(func(s *impl.Step) *int { return &s.Host })
		change(func(s *impl.Step) *int { return &s.Val.Kind })
		change(func(s *impl.Step) *int { return &s.Val.A })
		change(func(s *impl.Step) *int { return &s.Val.B })
		if good.Kind != impl.StepIf {
			inThen, inElse, inBoth := good, good, good
			inThen.Then, inElse.Else, inBoth.Then, inBoth.Else = plain, plain, plain, plain
			wrong = append(wrong, inThen, inElse, inBoth)
		}
		for _, s := range wrong {
			for _, steps := range [][]impl.Step{
				{s}, {plain[0], s}, {s, plain[1]}, {when(1, []impl.Step{s}, plain)}, {when(1, plain, []impl.Step{plain[0], s})},
				{when(0, []impl.Step{when(1, plain, []impl.Step{s})}, nil)},
			} {
				checkNone(t, impl.Prog{Labels: freely(2), Steps: steps}, fmt.Sprint(s))
			}
		}
	}
}

// P9, P10, P12: without variables there is no step; a label that is not ok is none.
func TestProgramsWithWrongLabels(t *testing.T) {
	t.Parallel()
	for _, s := range plainSteps(1) {
		checkNone(t, impl.Prog{Steps: []impl.Step{s}}, "a step without variables")
		checkNone(t, impl.Prog{Labels: []impl.Label{}, Steps: []impl.Step{s}}, "a step without variables")
	}
	for _, s := range []impl.Step{{}, set(2, num(0)), set(0, impl.Val{Kind: 2, A: 2}), set(0, impl.Val{Kind: 3, A: 1, B: 2}), set(0, impl.Val{Kind: 4, A: 2, B: 1}), when(2, nil, nil), tell(2, 0)} {
		checkNone(t, impl.Prog{Labels: freely(2), Steps: []impl.Step{s}}, "a variable that there is not")
	}
	for _, a := range noLabels() {
		for place := range 4 {
			labels := freely(4)
			labels[place] = a
			checkNone(t, impl.Prog{Labels: labels}, "a label that is none")
			checkNone(t, impl.Prog{Labels: labels[:place+1], Steps: []impl.Step{tell(0, 0)}}, "a label that is none")
		}
	}
}

// P9, P10, P11, P12: steps that stand in themselves, or in far too many places, are refused, and that ends.
func TestStepsWithoutEnd(t *testing.T) {
	t.Parallel()
	loop := []impl.Step{when(0, nil, nil)}
	loop[0].Then = loop
	checkNone(t, impl.Prog{Labels: freely(1), Steps: loop}, "steps in themselves")
	other := []impl.Step{tell(0, 0), when(0, nil, nil)}
	other[1].Else = other
	checkNone(t, impl.Prog{Labels: freely(1), Steps: other}, "steps in themselves")
	checkNone(t, impl.Prog{Labels: freely(1), Steps: []impl.Step{set(0, num(0)), when(0, other, loop)}}, "steps in themselves")
	told := []impl.Step{{Kind: impl.StepTell}}
	told[0].Then, told[0].Else = told, told
	checkNone(t, impl.Prog{Labels: freely(1), Steps: told}, "a StepTell in itself")

	var wide []impl.Step
	for range 3 {
		wide = slices.Repeat([]impl.Step{when(0, wide, wide)}, 1<<16)
	}
	checkNone(t, impl.Prog{Labels: freely(1), Steps: wide}, "too many steps")
	checkNone(t, impl.Prog{Labels: make([]impl.Label, 1<<16), Steps: wide}, "too many labels")
}

// markStep is a step that no program has, so that it is seen where it is lost, or comes up.
func markStep(n int) impl.Step {
	return impl.Step{Kind: 90 + n, Var: 91, Val: impl.Val{Kind: 92, A: 93, B: 94}, Host: 95}
}

// roomy is the same steps, each list with marks behind its end, and all lists that were made.
func roomy(steps []impl.Step, lists *[][]impl.Step) []impl.Step {
	out := make([]impl.Step, 0, len(steps)+3)
	for _, s := range steps {
		s.Then, s.Else = roomy(s.Then, lists), roomy(s.Else, lists)
		out = append(out, s)
	}
	for n := range 3 {
		out = append(out, markStep(n))
	}
	*lists = append(*lists, out)
	return out[:len(steps)]
}

// spoil writes marks over all of a list, what is behind its end, and all lists in it.
func spoil(steps []impl.Step) {
	for _, s := range steps {
		spoil(s.Then)
		spoil(s.Else)
	}
	steps = steps[:cap(steps)]
	for i := range steps {
		steps[i] = markStep(i % 3)
	}
}

// P9, P10, P11, P12: nothing is written into a program, nor behind the end of its lists.
func TestProgramsAreNotWrittenInto(t *testing.T) {
	t.Parallel()
	for _, p := range manyProgs(400) {
		var lists [][]impl.Step
		labels := append(slices.Clone(p.Labels), impl.Label{Know: 91, Trust: 92}, impl.Label{Know: 93, Trust: 94})
		q := impl.Prog{Labels: labels[:len(p.Labels)], Steps: roomy(p.Steps, &lists)}
		labelsWere := slices.Clone(labels)
		var were [][]impl.Step
		for _, list := range lists {
			were = append(were, deepCopy(list))
		}
		checkProg(t, q)
		for n := range inOrder(q.Steps) {
			s, _ := impl.ProgAt(q, n)
			spoil([]impl.Step{s})
		}
		if !sameProg(p, q) || !slices.Equal(labels, labelsWere) || !slices.EqualFunc(lists, were, sameSteps) {
			t.Fatalf("%s was written into", written(p))
		}
	}
}

// P11: what ProgAt answers is new memory.
func TestProgAtIsNewMemory(t *testing.T) {
	t.Parallel()
	for _, p := range manyProgs(400) {
		for n, want := range inOrder(deepCopy(p.Steps)) {
			var lists [][]impl.Step
			q := impl.Prog{Labels: p.Labels, Steps: roomy(p.Steps, &lists)}
			s, _ := impl.ProgAt(q, n)
			again, _ := impl.ProgAt(q, n)
			for _, list := range lists {
				spoil(list)
			}
			spoil(again.Then)
			spoil(again.Else)
			if !sameStep(s, want) {
				t.Fatalf("%s: %d is %v by now", written(p), n, s)
			}
		}
	}
}

// P11: no two lists of one answer share any memory, also where those of the program do.
func TestProgAtSharesNoListsInItself(t *testing.T) {
	t.Parallel()
	leaf := make([]impl.Step, 1, 4)
	leaf[0] = set(0, num(5))
	empty := make([]impl.Step, 0, 4)
	for _, c := range []struct{ then, not []impl.Step }{
		{leaf, leaf}, {empty, empty}, {leaf, empty}, {[]impl.Step{when(0, leaf, leaf)}, leaf}, {[]impl.Step{when(0, leaf, empty)}, []impl.Step{when(0, empty, leaf)}},
		{leaf[:1:2], leaf[:1]}, {leaf[1:1], leaf[:0]},
	} {
		p := impl.Prog{Labels: freely(1), Steps: []impl.Step{when(0, c.then, c.not)}}
		want := deepCopy(p.Steps)[0]
		s, ok := impl.ProgAt(p, 0)
		if !ok || !sameStep(s, want) {
			t.Fatalf("%v, %v", s, ok)
		}
		spoil(s.Then)
		if !sameSteps(s.Else, want.Else) {
			t.Errorf("%v shares Then with Else", want)
		}
		s, _ = impl.ProgAt(p, 0)
		spoil(s.Else)
		if !sameSteps(s.Then, want.Then) {
			t.Errorf("%v shares Else with Then", want)
		}
		s, _ = impl.ProgAt(p, 0)
		for _, inner := range slices.Concat(s.Then, s.Else) {
			spoil(inner.Then)
			spoil(inner.Else)
		}
		for i := range s.Then {
			if flat(s.Then[i]) != flat(want.Then[i]) {
				t.Errorf("%v shares a list with one in it", want)
			}
		}
		if leaf[0].Val.A != 5 || leaf[:4][3].Kind != 0 || empty[:4][0].Kind != 0 {
			t.Fatalf("%v shares the program's lists", want)
		}
	}
}
