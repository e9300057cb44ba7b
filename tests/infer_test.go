package tests

import (
	"fmt"
	"slices"
	"testing"

	"loop.example/cloison/impl"
)

// inferred is what InferOf answers.
type inferred struct {
	prog impl.Prog
	ok   bool
}

func (a inferred) is(b inferred) bool {
	return a.ok == b.ok && sameProg(a.prog, b.prog)
}

func inferOf(p impl.Prog, free []bool) inferred {
	got, ok := impl.InferOf(p, free)
	return inferred{got, ok}
}

// fineTo says whether all steps are fine as to one host, with a truth of each variable: whether it may know it, or trusts it. Only who knows is told.
func fineTo(at []placed, in []bool, host int, know bool) bool {
	out := func(v int) bool { return !in[v] }
	for _, x := range at {
		s := x.step
		if s.Kind == 1 && in[s.Var] && slices.ContainsFunc(slices.Concat(x.guards, madeOf(s.Val)), out) {
			return false
		}
		if s.Kind == 3 && know && s.Host == host && slices.ContainsFunc(slices.Concat(x.guards, []int{s.Var}), out) {
			return false
		}
	}
	return true
}

// mostTo is the variables that a host may know, or trusts, at the most: those that it does in any row of truths that is fine. If there is none it is false.
func mostTo(at []placed, was []bool, free []bool, host int, know bool) ([]bool, bool) {
	most := make([]bool, len(was))
	some := false
	for _, row := range rowsOver(len(was), 0, 1) {
		in := truths(row)
		stays := func(v int) bool { return free[v] || in[v] == was[v] }
		fits := true
		for v := range was {
			fits = fits && stays(v)
		}
		if !fits || !fineTo(at, in, host, know) {
			continue
		}
		some = true
		for v := range in {
			most[v] = most[v] || in[v]
		}
	}
	return most, some
}

// inferBy is the labels that are found by trying all rows of truths, host by host.
func inferBy(p impl.Prog, free []bool) inferred {
	at := places(p.Steps, nil)
	out := impl.Prog{Labels: make([]impl.Label, len(p.Labels)), Steps: p.Steps}
	for host := range 3 {
		knows, ok := mostTo(at, rowBy(p, host, letKnow), free, host, true)
		trusts, trustsOk := mostTo(at, rowBy(p, host, letTrust), free, host, false)
		if !ok || !trustsOk {
			return inferred{}
		}
		for v := range out.Labels {
			if knows[v] {
				out.Labels[v].Know += setNumber(fmt.Sprint(host))
			}
			if trusts[v] {
				out.Labels[v].Trust += setNumber(fmt.Sprint(host))
			}
		}
	}
	return inferred{out, true}
}

// checkInfer holds the answer against all rows of truths.
func checkInfer(t *testing.T, p impl.Prog, free []bool) inferred {
	t.Helper()
	got, want := inferOf(p, free), inferBy(p, free)
	if !got.is(want) {
		t.Fatalf("%s, free %v: %s, %v, not %s, %v", written(p), free, written(got.prog), got.ok, written(want.prog), want.ok)
	}
	return got
}

// checkNotInferred asks for the one fixed answer; it does not print the program, as that may not end.
func checkNotInferred(t *testing.T, p impl.Prog, free []bool, what string) {
	t.Helper()
	if got := inferOf(p, free); !got.is(inferred{}) {
		t.Fatalf("%s, free %v: %v", what, free, got)
	}
}

// allFrees is all rows of truths of as many variables.
func allFrees(vars int) [][]bool {
	var out [][]bool
	for _, row := range rowsOver(vars, 0, 1) {
		out = append(out, truths(row))
	}
	return out
}

// count is how many there is a true of.
func count(row []bool) int {
	many := 0
	for _, b := range row {
		if b {
			many++
		}
	}
	return many
}

func sameIn(vars int, is bool) []bool {
	return slices.Repeat([]bool{is}, vars)
}

// openTo is programs, and which of their variables are free.
type openTo struct {
	prog impl.Prog
	free []bool
}

// ringed is a program in which most steps set variables by others, so that labels are handed on from one to another.
func (c *chance) ringed() impl.Prog {
	vars, left := 2+c.below(3), 8
	var p impl.Prog
	for left > 0 {
		s := set(c.below(vars), c.val(vars))
		left--
		for deep := c.below(3); deep > 0 && left > 0; deep-- {
			inside := []impl.Step{s}
			if c.below(2) == 0 {
				s = when(c.below(vars), inside, nil)
			} else {
				s = when(c.below(vars), nil, inside)
			}
			left--
		}
		if left > 0 && c.below(6) == 0 {
			p.Steps = append(p.Steps, tell(c.below(vars), c.below(3)))
			left--
		}
		p.Steps = append(p.Steps, s)
	}
	for range vars {
		p.Labels = append(p.Labels, c.label())
	}
	return p
}

// openProgs is programs of all kinds and shapes, each with nothing free, with all, and with some.
func openProgs() []openTo {
	c := chance(11)
	progs := leakyProgs()[:4500]
	for range 2500 {
		p := c.ringed()
		progs = append(progs, p, mended(p))
	}
	var out []openTo
	for _, p := range progs {
		vars := len(p.Labels)
		out = append(out, openTo{p, sameIn(vars, false)}, openTo{p, sameIn(vars, true)})
		frees := allFrees(vars)
		for range 3 {
			out = append(out, openTo{p, frees[c.below(len(frees))]})
		}
	}
	return out
}

// P43, P45, P47, P48
func TestFoundLabelsOfManyPrograms(t *testing.T) {
	t.Parallel()
	seen := map[string]int{}
	for _, x := range openProgs() {
		got := checkInfer(t, x.prog, x.free)
		seen[fmt.Sprint(count(x.free), " free, found ", got.ok)]++
		fine := impl.TypeOk(x.prog)
		seen[fmt.Sprint("fine ", fine, ", found ", got.ok)]++
		if got.ok && !slices.Equal(got.prog.Labels, x.prog.Labels) {
			seen[fmt.Sprint("fine ", fine, ", others found")]++
		}
	}
	for free := range 4 {
		for _, what := range []string{" free, found true", " free, found false"} {
			if seen[fmt.Sprint(free, what)] < 300 {
				t.Errorf("%d%s: too few of %v", free, what, seen)
			}
		}
	}
	for _, what := range []string{"4 free, found true", "fine false, found true", "fine false, found false", "fine true, found true", "fine true, others found", "fine false, others found"} {
		if seen[what] < 300 {
			t.Errorf("%s: too few of %v", what, seen)
		}
	}
	if seen["4 free, found false"]+seen["fine true, found false"] > 0 {
		t.Error(seen)
	}
}

// P43, P45: every shape of steps.
func TestFoundLabelsOfEachShape(t *testing.T) {
	t.Parallel()
	for i, p := range okShapes(7) {
		p.Labels = labelled([]string{"01!12", "12!01", "02!02", "012!2"}).Labels
		frees := allFrees(4)
		checkInfer(t, p, frees[i%16])
		checkInfer(t, p, frees[(i*7+3)%16])
	}
}

// P43
func TestWithFoundLabelsItIsFineAndAllOthersStay(t *testing.T) {
	t.Parallel()
	some := 0
	for _, x := range openProgs() {
		got := inferOf(x.prog, x.free)
		if !got.ok {
			if !got.is(inferred{}) {
				t.Fatalf("%s, free %v: %v", written(x.prog), x.free, got)
			}
			continue
		}
		some++
		if !impl.TypeOk(got.prog) || len(got.prog.Labels) != len(x.prog.Labels) || !sameSteps(got.prog.Steps, x.prog.Steps) {
			t.Fatalf("%s, free %v: %s is fine %v", written(x.prog), x.free, written(got.prog), impl.TypeOk(got.prog))
		}
		for v, a := range x.prog.Labels {
			if !x.free[v] && got.prog.Labels[v] != a {
				t.Fatalf("%s, free %v: %s", written(x.prog), x.free, written(got.prog))
			}
		}
	}
	if some < 5000 {
		t.Errorf("only %d are found", some)
	}
}

// becomes says whether all labels may become others.
func becomes(a, b []impl.Label) bool {
	return slices.EqualFunc(a, b, impl.LabelFlows)
}

// P44
func TestOfAFineProgramLabelsAreFoundThatMayBecomeThose(t *testing.T) {
	t.Parallel()
	c := chance(12)
	others := 0
	for _, p := range fineProgs(t) {
		frees := allFrees(len(p.Labels))
		for _, free := range [][]bool{frees[0], frees[len(frees)-1], frees[c.below(len(frees))], frees[c.below(len(frees))]} {
			got := inferOf(p, free)
			if !got.ok || !becomes(got.prog.Labels, p.Labels) {
				t.Fatalf("%s, free %v: %s, %v", written(p), free, written(got.prog), got.ok)
			}
			if count(free) < len(free) && !slices.Equal(got.prog.Labels, p.Labels) {
				others++
			}
		}
	}
	if others < 2000 {
		t.Errorf("only %d others are found", others)
	}
}

// relabelled is the program with labels of the variables that are free, one behind the other.
func relabelled(p impl.Prog, free []bool, labels []impl.Label) impl.Prog {
	p.Labels = slices.Clone(p.Labels)
	for v, is := range free {
		if is {
			p.Labels[v], labels = labels[0], labels[1:]
		}
	}
	return p
}

// checkMost holds what is found against labels that are tried in its place.
func checkMost(t *testing.T, p impl.Prog, free []bool, got inferred, tried []impl.Label) bool {
	t.Helper()
	other := relabelled(p, free, tried)
	fine := impl.TypeOk(other)
	if fine && (!got.ok || !becomes(got.prog.Labels, other.Labels)) {
		t.Fatalf("%s, free %v: %s, %v, but %s is fine", written(p), free, written(got.prog), got.ok, written(other))
	}
	return fine
}

// P45: one free variable, with all labels in its place.
func TestWhateverElseMakesItFineOfOne(t *testing.T) {
	t.Parallel()
	named := allLabels()
	seen := map[string]int{}
	for i, x := range openProgs() {
		vars := len(x.prog.Labels)
		if i%5 != 0 || vars == 0 {
			continue
		}
		free := sameIn(vars, false)
		free[i/5%vars] = true
		got := inferOf(x.prog, free)
		fine := 0
		for _, a := range named {
			if checkMost(t, x.prog, free, got, []impl.Label{a.label}) {
				fine++
			}
		}
		if got.ok != (fine > 0) {
			t.Fatalf("%s, free %v: found %v, but %d are fine", written(x.prog), free, got.ok, fine)
		}
		switch {
		case fine == 0:
			seen["none"]++
		case fine == len(named):
			seen["any"]++
		default:
			seen["some"]++
		}
	}
	if seen["none"] < 300 || seen["some"] < 300 || seen["any"] < 300 {
		t.Error(seen)
	}
}

// P45: two free variables, with all labels in their places.
func TestWhateverElseMakesItFineOfTwo(t *testing.T) {
	t.Parallel()
	c := chance(13)
	named := allLabels()
	seen := map[bool]int{}
	for range 150 {
		p := c.ringed()
		free := sameIn(len(p.Labels), false)
		free[c.below(len(free))] = true
		for count(free) < 2 {
			free[c.below(len(free))] = true
		}
		got := inferOf(p, free)
		some := false
		for _, a := range named {
			for _, b := range named {
				some = checkMost(t, p, free, got, []impl.Label{a.label, b.label}) || some
			}
		}
		if seen[some]++; got.ok != some {
			t.Fatalf("%s, free %v: found %v, but %v", written(p), free, got.ok, some)
		}
	}
	if seen[true] < 30 || seen[false] < 10 {
		t.Error(seen)
	}
}

// P45: any labels in place of those that are free, also such as make it fine by losing hosts.
func TestWhateverElseMakesItFineOfMany(t *testing.T) {
	t.Parallel()
	c := chance(14)
	fine := 0
	for _, x := range openProgs() {
		got := inferOf(x.prog, x.free)
		for range 4 {
			var tried []impl.Label
			for range x.free {
				tried = append(tried, c.label())
			}
			if checkMost(t, x.prog, x.free, got, tried) {
				fine++
			}
			p := relabelled(x.prog, x.free, tried)
			for v := range p.Labels {
				if got.ok && x.free[v] {
					p.Labels[v] = impl.LabelBoth(got.prog.Labels[v], p.Labels[v])
				}
			}
			if impl.TypeOk(p) && (!got.ok || !becomes(got.prog.Labels, p.Labels)) {
				t.Fatalf("%s, free %v: %s", written(x.prog), x.free, written(got.prog))
			}
		}
	}
	if fine < 10000 {
		t.Errorf("only %d are fine", fine)
	}
}

// P45: one host more in a label that is found, and it is not fine, whatever the others are.
func TestNoHostMoreIsFine(t *testing.T) {
	t.Parallel()
	lacking := 0
	for i, x := range openProgs() {
		got := inferOf(x.prog, x.free)
		if !got.ok || i%3 != 0 {
			continue
		}
		for v, a := range got.prog.Labels {
			for host := range 3 {
				for _, more := range []impl.Label{{Know: setNumber(fmt.Sprint(host))}, {Trust: setNumber(fmt.Sprint(host))}} {
					if !x.free[v] || impl.LabelEither(a, more) == a {
						continue
					}
					p := impl.Prog{Labels: slices.Clone(got.prog.Labels), Steps: x.prog.Steps}
					p.Labels[v] = impl.LabelEither(a, more)
					fixed := slices.Clone(x.free)
					fixed[v] = false
					if impl.TypeOk(p) || inferOf(p, fixed).ok {
						t.Fatalf("%s, free %v: %s, but %s", written(x.prog), x.free, written(got.prog), written(p))
					}
					lacking++
				}
			}
		}
	}
	if lacking < 1000 {
		t.Errorf("only %d hosts lack", lacking)
	}
}

// P46
func TestFoundOnceMoreTheyAreTheSame(t *testing.T) {
	t.Parallel()
	for _, x := range openProgs() {
		got := inferOf(x.prog, x.free)
		if !got.ok {
			continue
		}
		if again := inferOf(got.prog, x.free); !again.is(got) {
			t.Fatalf("%s, free %v: %s, then %s, %v", written(x.prog), x.free, written(got.prog), written(again.prog), again.ok)
		}
		if again := inferOf(got.prog, sameIn(len(x.free), false)); !again.is(got) {
			t.Fatalf("%s, free %v: %s, then %s, %v", written(x.prog), x.free, written(got.prog), written(again.prog), again.ok)
		}
	}
}

// P45, P46: what labels a free variable had does not matter.
func TestLabelsThatWereDoNotMatter(t *testing.T) {
	t.Parallel()
	c := chance(15)
	for _, x := range openProgs() {
		want := inferOf(x.prog, x.free)
		var others []impl.Label
		for range x.free {
			others = append(others, impl.Label{Know: c.below(8), Trust: c.below(8)})
		}
		for _, labels := range [][]impl.Label{others, freely(len(x.free)), make([]impl.Label, len(x.free))} {
			p := relabelled(x.prog, x.free, labels)
			if got := inferOf(p, x.free); !got.is(want) {
				t.Fatalf("%s, free %v: %s, %v, not %s, %v", written(p), x.free, written(got.prog), got.ok, written(want.prog), want.ok)
			}
		}
	}
}

// P47
func TestWithNothingFreeFoundJustIfItIsFine(t *testing.T) {
	t.Parallel()
	seen := map[bool]int{}
	for _, p := range slices.Concat(typedProgs(), leakyProgs()) {
		fine := checkFine(t, p)
		seen[fine]++
		want := inferred{}
		if fine {
			want = inferred{p, true}
		}
		if got := inferOf(p, sameIn(len(p.Labels), false)); !got.is(want) {
			t.Fatalf("%s is fine %v: %s, %v", written(p), fine, written(got.prog), got.ok)
		}
	}
	if seen[true] < 2000 || seen[false] < 2000 {
		t.Error(seen)
	}
}

// P48
func TestWithAllFreeAllKnowAndTrustAll(t *testing.T) {
	t.Parallel()
	c := chance(16)
	progs := slices.Concat(typedProgs(), leakyProgs(), okShapes(8))
	for range 1000 {
		progs = append(progs, c.ringed())
	}
	for _, p := range progs {
		want := inferred{impl.Prog{Labels: freely(len(p.Labels)), Steps: p.Steps}, true}
		if got := inferOf(p, sameIn(len(p.Labels), true)); !got.is(want) {
			t.Fatalf("%s: %s, %v", written(p), written(got.prog), got.ok)
		}
	}
}

// P49
func TestOtherLabelsChangeNothingOfWhatComesOfIt(t *testing.T) {
	t.Parallel()
	c := chance(17)
	others := 0
	for _, x := range openProgs() {
		got := inferOf(x.prog, x.free)
		if !got.ok {
			continue
		}
		if !slices.Equal(got.prog.Labels, x.prog.Labels) {
			others++
		}
		for range 3 {
			nums := c.nums(len(x.free))
			if a, b := run(t, x.prog, nums), run(t, got.prog, nums); !sameRun(a, b) {
				t.Fatalf("%s, free %v: of %v %v, then %v", written(x.prog), x.free, nums, a, b)
			}
		}
		if impl.ProgText(impl.Prog{Labels: x.prog.Labels, Steps: got.prog.Steps}) != impl.ProgText(x.prog) {
			t.Fatalf("%s, free %v: %s", written(x.prog), x.free, written(got.prog))
		}
	}
	if others < 5000 {
		t.Errorf("only %d have other labels", others)
	}
}

// freeAt is a row of truths from a text: a dot is false.
func freeAt(text string) []bool {
	var out []bool
	for _, c := range text {
		out = append(out, c != '.')
	}
	return out
}

// handWorked is a program, which of its variables are free, and the labels that are found; none, if there are no such.
type handWorked struct {
	labels []string
	free   string
	steps  []impl.Step
	want   []string
}

func checkHandWorked(t *testing.T, cases []handWorked) {
	t.Helper()
	for _, c := range cases {
		p, free := labelled(c.labels, c.steps...), freeAt(c.free)
		want := inferred{}
		if c.want != nil {
			want = inferred{labelled(c.want, c.steps...), true}
		}
		if got := inferOf(p, free); !got.is(want) {
			t.Errorf("%s, free %s: %s, %v, not %v", written(p), c.free, written(got.prog), got.ok, c.want)
		}
		checkInfer(t, p, free)
	}
}

// P43, P45: variables that are set by one another, by a chain, and in a ring, in whatever order the steps stand.
func TestVariablesSetByOneAnother(t *testing.T) {
	t.Parallel()
	chain := []impl.Step{set(1, taken(0)), set(2, taken(1)), set(3, taken(2))}
	back := []impl.Step{set(3, taken(2)), set(2, taken(1)), set(1, taken(0))}
	ring := slices.Concat(chain, []impl.Step{set(0, taken(3))})
	ringBack := slices.Concat([]impl.Step{set(0, taken(3))}, back)
	for _, steps := range [][]impl.Step{chain, back, {chain[1], chain[2], chain[0]}, {chain[1], chain[0], chain[2]}} {
		checkHandWorked(t, []handWorked{
			{[]string{"01!2", "!", "!", "!"}, ".fff", steps, []string{"01!2", "01!2", "01!2", "01!2"}},
			{[]string{"01!2", "012!012", "2!0", "12!"}, ".fff", steps, []string{"01!2", "01!2", "01!2", "01!2"}},
			{[]string{"!", "12!01", "!", "!"}, "f.ff", steps, []string{"012!012", "12!01", "12!01", "12!01"}},
			{[]string{"!", "!", "0!1", "!"}, "ff.f", steps, []string{"012!012", "012!012", "0!1", "0!1"}},
			{[]string{"!", "!", "!", "0!1"}, "fff.", steps, []string{"012!012", "012!012", "012!012", "0!1"}},
			{[]string{"01!12", "!", "1!2", "!"}, ".f.f", steps, []string{"01!12", "01!12", "1!2", "1!2"}},
			{[]string{"01!12", "!", "!", "1!"}, ".ff.", steps, []string{"01!12", "01!12", "01!12", "1!"}},
			{[]string{"1!12", "!", "!", "01!"}, ".ff.", steps, nil},
			{[]string{"01!1", "!", "!", "01!12"}, ".ff.", steps, nil},
			{[]string{"!", "1!", "0!", "!"}, "f..f", steps, nil},
		})
	}
	for _, steps := range [][]impl.Step{ring, ringBack, {ring[2], ring[0], ring[3], ring[1]}} {
		checkHandWorked(t, []handWorked{
			{[]string{"01!2", "!", "!", "!"}, "ffff", steps, []string{"012!012", "012!012", "012!012", "012!012"}},
			{[]string{"01!2", "!", "!", "!"}, ".fff", steps, []string{"01!2", "01!2", "01!2", "01!2"}},
			{[]string{"!", "012!", "!", "!"}, "f.ff", steps, []string{"012!", "012!", "012!", "012!"}},
			{[]string{"!", "!", "!12", "!"}, "ff.f", steps, []string{"!12", "!12", "!12", "!12"}},
			{[]string{"!", "!", "!", "02!01"}, "fff.", steps, []string{"02!01", "02!01", "02!01", "02!01"}},
			{[]string{"02!01", "!", "!", "02!01"}, ".ff.", steps, []string{"02!01", "02!01", "02!01", "02!01"}},
			{[]string{"0!01", "!", "02!01", "!"}, ".f.f", steps, nil},
			{[]string{"02!01", "!", "0!01", "!"}, ".f.f", steps, nil},
			{[]string{"02!1", "!", "02!01", "!"}, ".f.f", steps, nil},
		})
	}
}

// P43, P45: two rings, one of which hands on to the other, and a variable that is set by itself.
func TestRingsOfTwoAndOfOne(t *testing.T) {
	t.Parallel()
	two := []impl.Step{set(0, taken(1)), set(1, taken(0)), set(2, taken(3)), set(3, taken(2))}
	joined := slices.Concat([]impl.Step{set(2, sum(2, 1))}, two)
	checkHandWorked(t, []handWorked{
		{[]string{"0!1", "!", "!", "!"}, ".fff", two, []string{"0!1", "0!1", "012!012", "012!012"}},
		{[]string{"0!1", "!", "!", "!"}, ".fff", joined, []string{"0!1", "0!1", "0!1", "0!1"}},
		{[]string{"!", "!", "!", "0!1"}, "fff.", joined, []string{"012!012", "012!012", "0!1", "0!1"}},
		{[]string{"!", "!", "0!1", "0!1"}, "ff..", joined, []string{"012!012", "012!012", "0!1", "0!1"}},
		{[]string{"1!", "!", "0!1", "!"}, ".f.f", joined, nil},
		{[]string{"!"}, "f", []impl.Step{set(0, taken(0))}, []string{"012!012"}},
		{[]string{"2!"}, ".", []impl.Step{set(0, sum(0, 0))}, []string{"2!"}},
		{[]string{"!", "1!2"}, "f.", []impl.Step{set(0, alike(0, 1)), set(0, taken(0))}, []string{"1!2", "1!2"}},
		{[]string{"1!2", "!"}, ".f", []impl.Step{set(1, sum(1, 0)), set(1, num(3))}, []string{"1!2", "1!2"}},
		{[]string{"!", "12!02", "02!12"}, "f..", []impl.Step{set(0, sum(1, 2))}, []string{"2!2", "12!02", "02!12"}},
		{[]string{"!", "12!02", "02!12"}, "f..", []impl.Step{set(0, taken(1)), set(0, num(0)), set(0, taken(2))}, []string{"2!2", "12!02", "02!12"}},
	})
}

// P43, P45: what is learned only from which steps are done, of steps in steps in steps, by Then and by Else.
func TestLearnedOnlyFromWhichStepsAreDone(t *testing.T) {
	t.Parallel()
	for sides := range 4 {
		in := func(v int, steps ...impl.Step) impl.Step {
			if sides>>v&1 == 0 {
				return when(v, steps, nil)
			}
			return when(v, nil, steps)
		}
		deep := []impl.Step{in(0, in(1, set(2, num(1))))}
		behind := []impl.Step{in(0, in(1), set(2, num(1))), in(1)}
		handed := []impl.Step{in(1, set(3, num(4))), in(0, set(1, num(1))), set(2, num(0))}
		checkHandWorked(t, []handWorked{
			{[]string{"01!12", "12!01", "!"}, "..f", deep, []string{"01!12", "12!01", "1!1"}},
			{[]string{"!", "12!01", "!"}, "f.f", deep, []string{"012!012", "12!01", "12!01"}},
			{[]string{"01!12", "!", "!"}, ".ff", deep, []string{"01!12", "012!012", "01!12"}},
			{[]string{"01!12", "!", "01!12"}, ".f.", deep, []string{"01!12", "012!012", "01!12"}},
			{[]string{"01!12", "!", "012!12"}, ".f.", deep, nil},
			{[]string{"01!12", "!", "01!012"}, ".f.", deep, nil},
			{[]string{"!", "!", "02!0"}, "ff.", deep, []string{"012!012", "012!012", "02!0"}},
			// Behind a StepIf, and beside one, nothing is learned from it.
			{[]string{"01!12", "!", "!"}, ".ff", behind, []string{"01!12", "012!012", "01!12"}},
			{[]string{"01!12", "2!", "!"}, "..f", behind, []string{"01!12", "2!", "01!12"}},
			// What is set by a step hangs on a variable that is set, itself, only in what is done by another one.
			{[]string{"01!12", "!", "!", "!"}, ".fff", handed, []string{"01!12", "01!12", "012!012", "01!12"}},
			{[]string{"01!12", "!", "2!", "1!2"}, ".f..", handed, []string{"01!12", "01!12", "2!", "1!2"}},
			{[]string{"01!12", "!", "2!", "2!"}, ".f..", handed, nil},
		})
	}
	ring := []impl.Step{when(0, []impl.Step{set(1, num(1))}, nil), when(1, nil, []impl.Step{set(2, num(1))}), when(2, []impl.Step{set(3, num(2)), set(0, num(0))}, nil)}
	checkHandWorked(t, []handWorked{
		{[]string{"!", "!", "!", "!"}, "ffff", ring, []string{"012!012", "012!012", "012!012", "012!012"}},
		{[]string{"!", "0!2", "!", "!"}, "f.ff", ring, []string{"0!2", "0!2", "0!2", "0!2"}},
		{[]string{"!", "!", "!", "0!2"}, "fff.", ring, []string{"012!012", "012!012", "012!012", "0!2"}},
		{[]string{"12!", "!", "1!", "!"}, ".f.f", ring, nil},
		// A variable that is set in what is done by itself hangs on itself alone.
		{[]string{"!"}, "f", []impl.Step{when(0, []impl.Step{set(0, num(1))}, nil)}, []string{"012!012"}},
		{[]string{"0!1"}, ".", []impl.Step{when(0, nil, []impl.Step{set(0, num(1))})}, []string{"0!1"}},
		// A StepIf without steps asks for nothing.
		{[]string{"!", "!"}, ".f", []impl.Step{when(0, nil, nil), set(1, num(5))}, []string{"!", "012!012"}},
		// Steps that are never done ask for as much as others.
		{[]string{"!", "!"}, ".f", []impl.Step{set(0, num(0)), when(0, []impl.Step{set(1, num(5))}, nil)}, []string{"!", "!"}},
	})
}

// P43, P45: what is told to a host that may not know it, of a variable that is free and of one that is not, and by which it is told.
func TestToldToAHostThatMayNotKnowIt(t *testing.T) {
	t.Parallel()
	for host, h := range []string{"0", "1", "2"} {
		rest := keep(func(other string) bool { return other != h })
		checkHandWorked(t, []handWorked{
			{[]string{"!"}, "f", []impl.Step{tell(0, host)}, []string{"012!012"}},
			{[]string{rest + "!"}, ".", []impl.Step{tell(0, host)}, nil},
			{[]string{h + "!"}, ".", []impl.Step{tell(0, host)}, []string{h + "!"}},
			{[]string{rest + "!", "!"}, ".f", []impl.Step{set(1, taken(0)), tell(1, host)}, nil},
			{[]string{rest + "!", "!"}, ".f", []impl.Step{tell(1, host), set(1, num(3)), set(1, taken(0))}, nil},
			{[]string{rest + "!", "!"}, ".f", []impl.Step{set(1, num(3)), tell(1, host)}, []string{rest + "!", "012!012"}},
			{[]string{h + "!", "!"}, ".f", []impl.Step{set(1, taken(0)), tell(1, host)}, []string{h + "!", h + "!"}},
			{[]string{rest + "!012", "!"}, "ff", []impl.Step{set(1, taken(0)), tell(1, host)}, []string{"012!012", "012!012"}},
			{[]string{rest + "!012", "!"}, ".f", []impl.Step{when(0, []impl.Step{tell(1, host)}, nil)}, nil},
			{[]string{rest + "!012", "!"}, "ff", []impl.Step{when(0, nil, []impl.Step{tell(1, host)})}, []string{"012!012", "012!012"}},
			{[]string{"!", rest + "!012"}, "f.", []impl.Step{when(0, nil, []impl.Step{tell(1, host)})}, nil},
			{[]string{"!", h + "!0", "!"}, "f.f", []impl.Step{when(0, nil, []impl.Step{when(2, []impl.Step{tell(1, host)}, nil)})}, []string{"012!012", h + "!0", "012!012"}},
			{[]string{rest + "!", "!", "!"}, ".ff", []impl.Step{when(1, []impl.Step{tell(2, host)}, nil), when(0, []impl.Step{set(1, num(1))}, nil)}, nil},
			{[]string{h + "!", "!", "!"}, ".ff", []impl.Step{when(1, []impl.Step{tell(2, host)}, nil), when(0, []impl.Step{set(1, num(1))}, nil)}, []string{h + "!", h + "!", "012!012"}},
			// What is not free is not mended, though that which is free has nothing to do with it.
			{[]string{"!", rest + "!"}, "f.", []impl.Step{tell(0, host), tell(1, host)}, nil},
		})
		// A tell takes no hosts from a label: others may know it, too.
		for other := range 3 {
			checkHandWorked(t, []handWorked{{[]string{"!", "12!1"}, "f.", []impl.Step{tell(0, host), tell(0, other)}, []string{"012!012", "12!1"}}})
		}
	}
}

// P45: with every label one variable takes just that from another, by a value and by being done, each part of it alone.
func TestEachLabelIsHandedOn(t *testing.T) {
	t.Parallel()
	for _, a := range allLabels() {
		for _, b := range allLabels() {
			both := common(a.know, b.know) + "!" + common(a.trust, b.trust)
			checkHandWorked(t, []handWorked{
				{[]string{a.text(), b.text(), "!"}, "..f", []impl.Step{set(2, sum(0, 1))}, []string{a.text(), b.text(), both}},
				{[]string{a.text(), b.text(), "!"}, "..f", []impl.Step{when(1, nil, []impl.Step{set(2, taken(0))})}, []string{a.text(), b.text(), both}},
			})
			want := []string{a.text(), b.text()}
			if !within(b.know, a.know) || !within(b.trust, a.trust) {
				want = nil
			}
			checkHandWorked(t, []handWorked{{[]string{a.text(), b.text()}, "..", []impl.Step{set(1, alike(0, 1))}, want}})
		}
	}
}

// P43 to P48: without steps, or variables, and of one variable to four.
func TestFoundLabelsOfNothing(t *testing.T) {
	t.Parallel()
	for _, p := range []impl.Prog{{}, {Labels: []impl.Label{}, Steps: []impl.Step{}}} {
		for _, free := range [][]bool{nil, {}} {
			if got := inferOf(p, free); !got.is(inferred{impl.Prog{}, true}) {
				t.Errorf("%v", got)
			}
		}
		checkNotInferred(t, p, []bool{true}, "more free than labels")
		checkNotInferred(t, p, []bool{false}, "more free than labels")
	}
	for vars := range 5 {
		for _, free := range allFrees(vars) {
			for _, a := range allLabels() {
				p := impl.Prog{Labels: slices.Repeat([]impl.Label{a.label}, vars)}
				want := relabelled(p, free, freely(vars))
				if got := inferOf(p, free); !got.is(inferred{want, true}) {
					t.Fatalf("%s, free %v: %v", written(p), free, got)
				}
			}
		}
	}
}

// P43, P45: as much as there may be.
func TestFoundLabelsAtTheLimits(t *testing.T) {
	t.Parallel()
	deep := func(v int) impl.Step {
		return when(v, []impl.Step{when((v+1)%4, nil, []impl.Step{set((v+2)%4, num(9))})}, nil)
	}
	steps := []impl.Step{deep(2), set(3, taken(0)), deep(0), tell(3, 1)}
	if size := impl.ProgSize(progOf(4, steps...)); size != 8 {
		t.Fatal(size)
	}
	checkHandWorked(t, []handWorked{
		{[]string{"!", "!", "!", "!"}, "ffff", steps, []string{"012!012", "012!012", "012!012", "012!012"}},
		{[]string{"!", "12!02", "!", "!"}, "f.ff", steps, []string{"12!02", "12!02", "12!02", "12!02"}},
		{[]string{"!", "02!012", "!", "!"}, "f.ff", steps, nil},
		{[]string{"!", "!", "!", "1!"}, "fff.", steps, []string{"1!", "012!012", "1!", "1!"}},
	})
}

// P43 to P48: free that are fewer, or more, than labels.
func TestFreeThatAreFewerOrMore(t *testing.T) {
	t.Parallel()
	for vars := range 5 {
		for _, p := range []impl.Prog{progOf(vars), labelled([]string{"0!", "1!2", "2!1", "!"}[:vars])} {
			for v := range vars {
				p.Steps = append(p.Steps, set(v, num(3)))
			}
			for many := range 9 {
				for _, is := range []bool{false, true} {
					if free := sameIn(many, is); many == vars {
						checkInfer(t, p, free)
					} else {
						checkNotInferred(t, p, free, written(p))
					}
				}
			}
			for _, many := range []int{63, 64, 65, 256 + vars, 1<<16 + vars} {
				checkNotInferred(t, p, sameIn(many, true), written(p))
			}
			// What is behind the end of the row is not of it.
			if vars > 0 {
				checkNotInferred(t, p, sameIn(vars, true)[:vars-1], written(p))
			}
			checkInfer(t, p, sameIn(vars+2, true)[:vars])
		}
	}
}

// checkNeverInferred asks for the one fixed answer with all rows of as many free as there are labels, and others.
func checkNeverInferred(t *testing.T, p impl.Prog, what string) {
	t.Helper()
	many := len(p.Labels)
	for _, free := range [][]bool{sameIn(many, false), sameIn(many, true), nil, sameIn(4, true), sameIn(many+1, true)} {
		checkNotInferred(t, p, free, what)
	}
	if many < 5 {
		for _, free := range allFrees(many) {
			checkNotInferred(t, p, free, what)
		}
	}
}

// P43 to P48: of a program that is not ok no labels are found, also where what is wrong is the label of a variable that is free.
func TestFoundLabelsOfWrongPrograms(t *testing.T) {
	t.Parallel()
	leaf := []impl.Step{set(0, num(1))}
	for many := 5; many < 8; many++ {
		checkNeverInferred(t, progOf(many), "too many labels")
		checkNeverInferred(t, progOf(many, set(many-1, taken(0))), "too many labels")
	}
	for _, many := range []int{63, 64, 65, 1 << 12} {
		checkNeverInferred(t, progOf(many), "far too many labels")
	}
	for _, a := range noLabels() {
		for place := range 3 {
			p := progOf(3, set(place, num(1)), set((place+1)%3, taken(place)))
			p.Labels[place] = a
			checkNeverInferred(t, p, fmt.Sprintf("the label %v", a))
		}
	}
	checkNeverInferred(t, progOf(1, slices.Repeat(leaf, 9)...), "nine steps")
	checkNeverInferred(t, progOf(1, when(0, nil, slices.Repeat(leaf, 8))), "nine steps")
	checkNeverInferred(t, impl.Prog{Steps: leaf}, "a step without variables")
	checkNeverInferred(t, progOf(1, when(0, []impl.Step{when(0, []impl.Step{when(0, leaf, nil)}, nil)}, nil)), "too deep")
	checkNeverInferred(t, progOf(1, when(0, nil, []impl.Step{when(0, nil, []impl.Step{when(0, nil, leaf)})})), "too deep")
	loop := []impl.Step{set(0, num(0)), when(0, nil, nil)}
	loop[1].Then = loop
	checkNeverInferred(t, progOf(1, loop...), "steps in themselves")
	other := []impl.Step{when(0, nil, nil), set(0, num(0))}
	other[0].Else = other
	checkNeverInferred(t, progOf(1, other...), "steps in themselves")
	var wide []impl.Step
	for range 3 {
		wide = slices.Repeat([]impl.Step{when(0, wide, wide)}, 1<<12)
	}
	checkNeverInferred(t, progOf(1, wide...), "far too many steps")
}

// P43 to P48: a wrong step stands anywhere.
func TestFoundLabelsOfWrongSteps(t *testing.T) {
	t.Parallel()
	for _, s := range wrongSteps() {
		for _, steps := range [][]impl.Step{
			{s}, {set(0, num(1)), s}, {s, set(0, taken(1))}, {when(0, []impl.Step{s}, nil)}, {when(1, nil, []impl.Step{set(0, num(1)), s})}, {when(0, nil, []impl.Step{when(1, []impl.Step{s}, nil)})},
		} {
			checkNeverInferred(t, labelled([]string{"012!012", "12!0"}, steps...), fmt.Sprint(s))
		}
	}
}

// spoilProg writes marks over all lists of a program, and behind their ends.
func spoilProg(p impl.Prog) {
	overwrite(p.Labels, impl.Label{Know: 77, Trust: 78})
	spoil(p.Steps)
}

// P43: nothing is written into a program, nor into what is free, nor behind the end of them, and the program that is found is new memory.
func TestFoundLabelsAreNewMemory(t *testing.T) {
	t.Parallel()
	mark := impl.Label{Know: 91, Trust: 92}
	some := map[bool]int{}
	for _, x := range openProgs()[15000:30000] {
		var lists, were [][]impl.Step
		labels, whole := marked(x.prog.Labels, mark)
		free, wholeFree := marked(x.free, true)
		q := impl.Prog{Labels: labels, Steps: roomy(x.prog.Steps, &lists)}
		for _, list := range lists {
			were = append(were, deepCopy(list))
		}
		got, again := inferOf(q, free), inferOf(q, free)
		want := inferred{impl.Prog{Labels: slices.Clone(got.prog.Labels), Steps: deepCopy(got.prog.Steps)}, got.ok}
		spoilProg(again.prog)
		if !sameProg(x.prog, q) || !slices.EqualFunc(lists, were, sameSteps) || !slices.Equal(whole[len(labels):], []impl.Label{mark, mark, mark}) {
			t.Fatalf("%s was written into", written(x.prog))
		}
		if !slices.Equal(free, x.free) || !slices.Equal(wholeFree[len(free):], []bool{true, true, true}) {
			t.Fatalf("%s: %v was written into: %v", written(x.prog), x.free, wholeFree)
		}
		overwrite(labels, mark)
		overwrite(free, true)
		for _, list := range lists {
			spoil(list)
		}
		if !got.is(want) || !inferOf(x.prog, x.free).is(want) {
			t.Fatalf("%s, free %v: %v by now, not %v", written(x.prog), x.free, got, want)
		}
		some[got.ok]++
	}
	if some[true] < 1000 || some[false] < 1000 {
		t.Error(some)
	}
}

// stepLists is all lists of steps, and of those in them, that are not empty or have room.
func stepLists(steps []impl.Step) [][]impl.Step {
	out := [][]impl.Step{steps}
	for _, s := range steps {
		out = slices.Concat(out, stepLists(s.Then), stepLists(s.Else))
	}
	return out
}

// P43: no two lists of the program that is found share any memory, also where those of the one that came in do.
func TestFoundLabelsShareNoLists(t *testing.T) {
	t.Parallel()
	leaf := make([]impl.Step, 1, 4)
	leaf[0] = set(0, num(5))
	empty := make([]impl.Step, 0, 4)
	for _, steps := range [][]impl.Step{
		leaf, empty, {when(0, leaf, leaf)}, {when(0, empty, empty)}, {when(0, leaf[:1:2], leaf[:0])}, {when(0, leaf[1:1], leaf), when(0, leaf, leaf)},
		{when(0, []impl.Step{when(0, leaf, leaf)}, leaf)}, {when(0, []impl.Step{when(0, leaf, empty)}, []impl.Step{when(0, empty, leaf)})},
	} {
		for _, free := range allFrees(1) {
			p := progOf(1, steps...)
			many := len(stepLists(inferOf(p, free).prog.Steps))
			for place := range many {
				got := inferOf(p, free)
				lists := stepLists(got.prog.Steps)
				var were [][]flatStep
				for _, list := range lists {
					were = append(were, flatAll(list))
				}
				overwrite(lists[place], markStep(0))
				for other, list := range lists {
					if other != place && !slices.Equal(flatAll(list), were[other]) {
						t.Errorf("%s: %d shares memory with %d", written(p), place, other)
					}
				}
			}
			if leaf[0].Val.A != 5 || leaf[:4][1].Kind != 0 || leaf[:4][3].Kind != 0 || empty[:4][0].Kind != 0 {
				t.Fatal("the lists that came in are shared")
			}
		}
	}
}

// flatAll is all of a list, with what is behind its end, each without its lists.
func flatAll(list []impl.Step) []flatStep {
	var out []flatStep
	for _, s := range list[:cap(list)] {
		out = append(out, flat(s))
	}
	return out
}

// P43: what is not ok is not written into either.
func TestFoundLabelsOfWhatIsNotOkShareNothing(t *testing.T) {
	t.Parallel()
	for _, s := range wrongSteps() {
		var lists, were [][]impl.Step
		wrong := labelled([]string{"0!", "12!0"}, set(0, num(2)), when(1, []impl.Step{set(0, num(2)), s}, nil))
		labels, whole := marked(wrong.Labels, impl.Label{Know: 5, Trust: 6})
		free, wholeFree := marked([]bool{true, false}, true)
		p := impl.Prog{Labels: labels, Steps: roomy(wrong.Steps, &lists)}
		wholeWas, wholeFreeWas := slices.Clone(whole), slices.Clone(wholeFree)
		for _, list := range lists {
			were = append(were, deepCopy(list))
		}
		checkNotInferred(t, p, free, fmt.Sprint(s))
		if !slices.Equal(whole, wholeWas) || !slices.Equal(wholeFree, wholeFreeWas) || !slices.EqualFunc(lists, were, sameSteps) {
			t.Fatalf("%v was written into", s)
		}
	}
}

// P46: the same is answered again, whatever was asked in between.
func TestFoundLabelsKeepNothing(t *testing.T) {
	t.Parallel()
	open := openProgs()
	var first []inferred
	for _, x := range open {
		first = append(first, inferOf(x.prog, x.free))
	}
	for i := len(open) - 1; i >= 0; i-- {
		checkNotInferred(t, progOf(5), sameIn(5, true), "too many labels")
		if got := inferOf(open[i].prog, open[i].free); !got.is(first[i]) {
			t.Fatalf("%s, free %v: %v, not %v", written(open[i].prog), open[i].free, got, first[i])
		}
	}
}
