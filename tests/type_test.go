package tests

import (
	"fmt"
	"math"
	"slices"
	"testing"

	"loop.example/cloison/impl"
)

// hostsText is the hosts of a set, written out so that no bits of the program are leaned on.
func hostsText(set int) string {
	for _, hosts := range setTexts() {
		if setNumber(hosts) == set {
			return hosts
		}
	}
	return "no set"
}

// isIn says whether a host is in a set.
func isIn(host, set int) bool {
	return within(fmt.Sprint(host), hostsText(set))
}

func letKnow(a impl.Label, host int) bool {
	return isIn(host, a.Know)
}

func letTrust(a impl.Label, host int) bool {
	return isIn(host, a.Trust)
}

// hostsOf is the set of the hosts of which wanted holds.
func hostsOf(wanted func(host int) bool) int {
	return setNumber(keep(func(h string) bool { return wanted(int(h[0] - '0')) }))
}

// placed is a step, and the variables of all StepIf in which it stands.
type placed struct {
	step   impl.Step
	guards []int
}

// places is all steps as they are counted.
func places(steps []impl.Step, guards []int) []placed {
	var out []placed
	for _, s := range steps {
		inside := slices.Concat(guards, []int{s.Var})
		out = slices.Concat(out, []placed{{s, guards}}, places(s.Then, inside), places(s.Else, inside))
	}
	return out
}

// madeOf is the variables of a value, by the document's table.
func madeOf(v impl.Val) []int {
	return map[int][]int{2: {v.A}, 3: {v.A, v.B}, 4: {v.A, v.B}}[v.Kind]
}

// all says whether a host is in that part of the labels of all these variables.
func all(labels []impl.Label, vars []int, host int, part func(impl.Label, int) bool) bool {
	return !slices.ContainsFunc(vars, func(v int) bool { return !part(labels[v], host) })
}

// fineBy says whether a step is fine, host by host: who may know, or trusts, what is set may know, or trusts, all that it hangs on.
func fineBy(labels []impl.Label, at placed) bool {
	s := at.step
	switch s.Kind {
	case 1:
		from := slices.Concat(at.guards, madeOf(s.Val))
		for host := range 3 {
			if letKnow(labels[s.Var], host) && !all(labels, from, host, letKnow) {
				return false
			}
			if letTrust(labels[s.Var], host) && !all(labels, from, host, letTrust) {
				return false
			}
		}
	case 3:
		return all(labels, slices.Concat(at.guards, []int{s.Var}), s.Host, letKnow)
	}
	return true
}

// faultsBy is the numbers of all steps that are not fine.
func faultsBy(p impl.Prog) []int {
	var out []int
	for n, at := range places(p.Steps, nil) {
		if !fineBy(p.Labels, at) {
			out = append(out, n)
		}
	}
	return out
}

func labelsBy(p impl.Prog) []impl.Label {
	var out []impl.Label
	for _, at := range places(p.Steps, nil) {
		out = append(out, impl.Label{
			Know:  hostsOf(func(host int) bool { return all(p.Labels, at.guards, host, letKnow) }),
			Trust: hostsOf(func(host int) bool { return all(p.Labels, at.guards, host, letTrust) }),
		})
	}
	return out
}

func setsBy(p impl.Prog) []int {
	var out []int
	for _, s := range inOrder(p.Steps) {
		out = append(out, hostsOf(func(host int) bool {
			return slices.ContainsFunc(inOrder([]impl.Step{s}), func(in impl.Step) bool { return in.Kind == 1 && letTrust(p.Labels[in.Var], host) })
		}))
	}
	return out
}

func rowBy(p impl.Prog, host int, part func(impl.Label, int) bool) []bool {
	var out []bool
	for _, a := range p.Labels {
		out = append(out, part(a, host))
	}
	return out
}

// checkFine holds whether a program is fine, and which step is not, against the document's words.
func checkFine(t *testing.T, p impl.Prog) bool {
	t.Helper()
	faults := faultsBy(p)
	n, bad := impl.TypeWhy(p)
	if impl.TypeOk(p) != (len(faults) == 0) || bad != (len(faults) > 0) {
		t.Fatalf("%s is fine %v, and told %v: %v are not", written(p), impl.TypeOk(p), bad, faults)
	}
	if bad && n != faults[0] || !bad && n != 0 {
		t.Fatalf("%s: %d is told of %v", written(p), n, faults)
	}
	return !bad
}

// checkTypes holds all answers at a program that is ok against the document's words.
func checkTypes(t *testing.T, p impl.Prog) bool {
	t.Helper()
	if got := impl.TypeAt(p); !slices.Equal(got, labelsBy(p)) {
		t.Fatalf("%s: %v, not %v", written(p), got, labelsBy(p))
	}
	if got := impl.TypeSets(p); !slices.Equal(got, setsBy(p)) {
		t.Fatalf("%s: %v, not %v", written(p), got, setsBy(p))
	}
	for host := range 3 {
		if got := impl.TypeKnows(p, host); !slices.Equal(got, rowBy(p, host, letKnow)) {
			t.Fatalf("%s: %d knows %v", written(p), host, got)
		}
		if got := impl.TypeTrusts(p, host); !slices.Equal(got, rowBy(p, host, letTrust)) {
			t.Fatalf("%s: %d trusts %v", written(p), host, got)
		}
	}
	return checkFine(t, p)
}

// checkNoTypes asks for the one fixed answer of each function at what is no program; it does not print it, as that may not end.
func checkNoTypes(t *testing.T, p impl.Prog, what string) {
	t.Helper()
	if n, bad := impl.TypeWhy(p); impl.TypeOk(p) || bad || n != 0 {
		t.Fatalf("%s: fine %v, %d, %v", what, impl.TypeOk(p), n, bad)
	}
	if len(impl.TypeAt(p)) != 0 || len(impl.TypeSets(p)) != 0 {
		t.Fatalf("%s: %v, %v", what, impl.TypeAt(p), impl.TypeSets(p))
	}
	for host := -1; host < 4; host++ {
		if len(impl.TypeKnows(p, host)) != 0 || len(impl.TypeTrusts(p, host)) != 0 {
			t.Fatalf("%s: of %d %v, %v", what, host, impl.TypeKnows(p, host), impl.TypeTrusts(p, host))
		}
	}
}

// mended is the program with fewer hosts in the labels of what may not be set, and a StepIf without steps where something may not be told, so that it is fine.
func mended(p impl.Prog) impl.Prog {
	p = impl.Prog{Labels: slices.Clone(p.Labels), Steps: deepCopy(p.Steps)}
	for {
		faults := faultsBy(p)
		if len(faults) == 0 {
			return p
		}
		at := places(p.Steps, nil)[faults[0]]
		if at.step.Kind == 3 {
			p.Steps = without(p.Steps, at.step)
			continue
		}
		v := at.step.Var
		from := slices.Concat(at.guards, madeOf(at.step.Val), []int{v})
		p.Labels[v] = impl.Label{
			Know:  hostsOf(func(host int) bool { return all(p.Labels, from, host, letKnow) }),
			Trust: hostsOf(func(host int) bool { return all(p.Labels, from, host, letTrust) }),
		}
	}
}

// without is the steps with a StepIf without steps in place of each that is the same as one.
func without(steps []impl.Step, gone impl.Step) []impl.Step {
	var out []impl.Step
	for _, s := range steps {
		if sameStep(s, gone) {
			s = when(s.Var, nil, nil)
		}
		s.Then, s.Else = without(s.Then, gone), without(s.Else, gone)
		out = append(out, s)
	}
	return out
}

// label is a label in which most hosts are, so that much is fine.
func (c *chance) label() impl.Label {
	return impl.Label{Know: c.below(8) | c.below(8), Trust: c.below(8) | c.below(8)}
}

// typedProgs is programs of all kinds and shapes, as they come, with labels of most hosts, of all but one variable's all, and such that they are fine.
func typedProgs() []impl.Prog {
	c := chance(5)
	var out []impl.Prog
	for _, p := range slices.Concat(manyProgs(2500), okShapes(6)) {
		if len(p.Labels) == 0 {
			out = append(out, p)
			continue
		}
		most, one := p, p
		most.Labels, one.Labels = nil, freely(len(p.Labels))
		for range p.Labels {
			most.Labels = append(most.Labels, c.label())
		}
		one.Labels[c.below(len(p.Labels))] = c.label()
		out = append(out, p, most, one, mended(p), mended(most))
	}
	return out
}

// fineProgs is those of them that are fine.
func fineProgs(t *testing.T) []impl.Prog {
	t.Helper()
	var out []impl.Prog
	for _, p := range typedProgs() {
		if checkFine(t, p) {
			out = append(out, p)
		}
	}
	return out
}

// labelled is a program with labels by their texts.
func labelled(texts []string, steps ...impl.Step) impl.Prog {
	p := impl.Prog{Steps: steps}
	for _, text := range texts {
		a, _ := impl.LabelRead(text)
		p.Labels = append(p.Labels, a)
	}
	return p
}

// P21
func TestEachStepHasALabelAndWhoTrusts(t *testing.T) {
	t.Parallel()
	for _, p := range typedProgs() {
		at, sets := impl.TypeAt(p), impl.TypeSets(p)
		if len(at) != impl.ProgSize(p) || len(sets) != impl.ProgSize(p) {
			t.Fatalf("%s: %v, %v", written(p), at, sets)
		}
		for n := range at {
			s, ok := impl.ProgAt(p, n)
			if !ok || !impl.LabelOk(at[n]) || !impl.LabelOk(impl.Label{Know: sets[n]}) {
				t.Fatalf("%s: %d is %v, %v, %d", written(p), n, s, at[n], sets[n])
			}
			if s.Kind == impl.StepSet && sets[n] != p.Labels[s.Var].Trust || s.Kind == impl.StepTell && sets[n] != 0 {
				t.Fatalf("%s: what %d sets is trusted by %d", written(p), n, sets[n])
			}
		}
	}
}

// P21, P22, P27, P28
func TestTypesOfManyPrograms(t *testing.T) {
	t.Parallel()
	fine, first := map[bool]int{}, map[int]int{}
	for _, p := range typedProgs() {
		fine[checkTypes(t, p)]++
		if n, bad := impl.TypeWhy(p); bad {
			first[n]++
		}
	}
	if fine[true] < 2000 || fine[false] < 2000 {
		t.Errorf("too few are fine, or are not: %v", fine)
	}
	for n := range 8 {
		if first[n] == 0 {
			t.Errorf("%d is never the first that is not fine", n)
		}
	}
}

// P21: every shape of steps, with a label of each variable that tells it from all others.
func TestTypesOfEachShape(t *testing.T) {
	t.Parallel()
	for _, p := range okShapes(9) {
		p.Labels = labelled([]string{"01!12", "12!01", "02!02", "012!2"}).Labels
		if got, want := impl.TypeAt(p), labelsBy(p); !slices.Equal(got, want) {
			t.Fatalf("%s: %v, not %v", written(p), got, want)
		}
		if got, want := impl.TypeSets(p), setsBy(p); !slices.Equal(got, want) {
			t.Fatalf("%s: %v, not %v", written(p), got, want)
		}
		checkFine(t, p)
	}
}

// P21, P23: labels and sets worked out by hand; behind a StepIf it is as ahead of it, and Else does not hang on what is in Then.
func TestTypesOneByOne(t *testing.T) {
	t.Parallel()
	p := labelled([]string{"01!012", "12!01", "012!2", "2!0"},
		when(0, []impl.Step{
			when(1, []impl.Step{set(3, num(1))}, []impl.Step{set(2, num(2))}),
			tell(2, 1),
		}, []impl.Step{when(3, nil, nil), set(1, taken(2))}),
		tell(3, 0),
	)
	at := impl.TypeAt(p)
	for n, want := range []string{"012!012", "01!012", "1!01", "1!01", "01!012", "01!012", "01!012", "012!012"} {
		if n >= len(at) || impl.LabelText(at[n]) != want {
			t.Errorf("%d is done by %v, not %s", n, at, want)
		}
	}
	if got := impl.TypeSets(p); !slices.Equal(got, []int{7, 5, 1, 4, 0, 0, 3, 0}) {
		t.Error(got)
	}
	if n, bad := impl.TypeWhy(p); !bad || n != 2 {
		t.Error(n, bad)
	}
	checkTypes(t, p)
}

// P22
func TestProgramIsFineJustIfNoStepIsTold(t *testing.T) {
	t.Parallel()
	for _, p := range typedProgs() {
		n, bad := impl.TypeWhy(p)
		if impl.TypeOk(p) == bad || bad && n >= impl.ProgSize(p) {
			t.Fatalf("%s: %v, %d, %v", written(p), impl.TypeOk(p), n, bad)
		}
	}
}

// P22: of several steps that are not fine the first is told, as they are counted.
func TestFirstStepThatIsNotFine(t *testing.T) {
	t.Parallel()
	several := 0
	for _, p := range typedProgs() {
		faults := faultsBy(p)
		if len(faults) > 1 {
			several++
		}
		checkFine(t, p)
	}
	if several < 500 {
		t.Errorf("only of %d programs several steps are not fine", several)
	}
	bad := tell(1, 0)
	for _, c := range []struct {
		steps []impl.Step
		want  int
	}{
		{[]impl.Step{bad, bad}, 0},
		{[]impl.Step{tell(0, 0), bad, bad}, 1},
		{[]impl.Step{when(0, []impl.Step{bad}, []impl.Step{bad}), bad}, 1},
		{[]impl.Step{when(0, []impl.Step{tell(0, 1)}, []impl.Step{bad}), bad}, 2},
		{[]impl.Step{when(0, nil, []impl.Step{bad}), bad}, 1},
		{[]impl.Step{when(0, []impl.Step{tell(0, 1)}, nil), bad}, 2},
		{[]impl.Step{when(0, []impl.Step{when(0, nil, nil), when(0, nil, []impl.Step{bad})}, []impl.Step{bad})}, 3},
		{[]impl.Step{when(0, []impl.Step{when(0, []impl.Step{tell(0, 2)}, []impl.Step{set(0, num(1))}), tell(0, 0)}, []impl.Step{bad})}, 5},
		{[]impl.Step{tell(0, 0), tell(0, 0), tell(0, 0), tell(0, 0), tell(0, 0), tell(0, 0), tell(0, 0), bad}, 7},
	} {
		p := labelled([]string{"012!012", "12!012"}, c.steps...)
		if n, is := impl.TypeWhy(p); !is || n != c.want || impl.TypeOk(p) {
			t.Errorf("%s: %d, %v", written(p), n, is)
		}
		if q := labelled([]string{"012!012", "012!012"}, c.steps...); !checkFine(t, q) {
			t.Errorf("%s is not fine", written(q))
		}
	}
}

// P22, P33: only what stands deep inside is not fine, on each way to there.
func TestOnlyDeepInsideItIsNotFine(t *testing.T) {
	t.Parallel()
	for _, c := range []struct {
		labels []string
		leaf   impl.Step
	}{
		{[]string{"012!012", "12!012"}, tell(1, 0)},
		{[]string{"012!012", "12!012"}, set(0, taken(1))},
		{[]string{"012!012", "012!12"}, set(0, sum(0, 1))},
		{[]string{"012!012", "012!12"}, set(0, alike(1, 0))},
	} {
		for sides := range 4 {
			steps := []impl.Step{tell(0, 0), c.leaf}
			for i := range 2 {
				if sides>>i&1 == 0 {
					steps = []impl.Step{tell(0, 1), when(0, steps, nil)}
				} else {
					steps = []impl.Step{tell(0, 1), when(0, []impl.Step{when(0, nil, nil)}[:1-i], steps)}
				}
			}
			p := labelled(c.labels, steps...)
			want := slices.IndexFunc(inOrder(steps), func(s impl.Step) bool { return sameStep(s, c.leaf) })
			if n, bad := impl.TypeWhy(p); !bad || n != want {
				t.Errorf("%s: %d, %v", written(p), n, bad)
			}
			p.Labels = freely(2)
			if !impl.TypeOk(p) {
				t.Errorf("%s is not fine", written(p))
			}
		}
	}
}

// P22, P29, P30, P31, P32: what is not fine by the label of being done alone, by Know alone, by Trust alone.
func TestNotFineByOneThingAlone(t *testing.T) {
	t.Parallel()
	for _, c := range []struct {
		why    string
		labels []string
		step   impl.Step
		fine   bool
	}{
		{"set by what fewer know", []string{"01!012", "012!012"}, set(1, taken(0)), false},
		{"set by what fewer trust", []string{"012!01", "012!012"}, set(1, taken(0)), false},
		{"set by what others know and trust", []string{"01!12", "12!01"}, set(1, taken(0)), false},
		{"set by what more know and trust", []string{"012!012", "1!2"}, set(1, taken(0)), true},
		{"set to a number", []string{"!", "012!012"}, set(1, num(3)), true},
		{"set to itself", []string{"!", "0!1"}, set(1, taken(1)), true},
		{"set by the second of two, by Know", []string{"01!012", "012!012"}, set(1, sum(1, 0)), false},
		{"set by the first of two, by Know", []string{"01!012", "012!012"}, set(1, sum(0, 1)), false},
		{"set by the second of two, by Trust", []string{"012!01", "012!012"}, set(1, alike(1, 0)), false},
		{"set by the first of two, by Trust", []string{"012!01", "012!012"}, set(1, alike(0, 1)), false},
		{"set by one twice", []string{"012!01", "012!012"}, set(1, alike(0, 0)), false},
		{"set where fewer know that it is done", []string{"01!012", "012!012"}, when(0, []impl.Step{set(1, num(0))}, nil), false},
		{"set where fewer trust that it is done", []string{"012!01", "012!012"}, when(0, nil, []impl.Step{set(1, num(0))}), false},
		{"set to itself where fewer know", []string{"01!012", "012!012"}, when(0, nil, []impl.Step{set(1, taken(1))}), false},
		{"set to itself where it is done by itself", []string{"!", "0!1"}, when(1, []impl.Step{set(1, taken(1))}, nil), true},
		{"told where the host may not know that", []string{"12!012", "012!012"}, when(0, []impl.Step{tell(1, 0)}, nil), false},
		{"told by Else where the host may not know that", []string{"12!012", "012!012"}, when(0, nil, []impl.Step{tell(1, 0)}), false},
		{"told where another may not know that", []string{"02!012", "012!012"}, when(0, nil, []impl.Step{tell(1, 0)}), true},
		{"told where nobody trusts anything", []string{"0!", "0!"}, when(0, nil, []impl.Step{tell(1, 0)}), true},
		{"told what the host may not know", []string{"012!012", "12!012"}, when(0, nil, []impl.Step{tell(1, 0)}), false},
		{"told what the host trusts alone", []string{"012!012", "!0"}, tell(1, 0), false},
		{"no step, by what nobody knows or trusts", []string{"!", "012!012"}, when(0, nil, nil), true},
		{"a StepIf in one, by what nobody knows or trusts", []string{"!", "012!012"}, when(0, []impl.Step{when(1, nil, nil)}, []impl.Step{when(0, nil, nil)}), true},
	} {
		p := labelled(c.labels, c.step)
		if got := checkTypes(t, p); got != c.fine {
			t.Errorf("%s: %s is fine %v", c.why, written(p), got)
		}
		// Behind a StepIf nothing is learned of what was done in it.
		q := labelled(c.labels, when(0, []impl.Step{when(1, nil, nil)}, nil), c.step)
		if got := checkTypes(t, q); got != c.fine {
			t.Errorf("%s: %s is fine %v", c.why, written(q), got)
		}
	}
}

// P22, P32: every step that has none in it, of two variables with all labels, alone and in a StepIf of each of them.
func TestEachStepWithAllLabels(t *testing.T) {
	t.Parallel()
	var steps []impl.Step
	for text, s := range plainSteps(2) {
		// All numbers are the same to a label, so that two of them stand for the rest.
		if s.Val.Kind != impl.ValNum || s.Val.A == 0 || s.Val.A == 9 {
			steps = append(steps, s)
		} else if s.Kind != impl.StepSet {
			t.Fatal(text)
		}
	}
	for _, a := range allLabels() {
		for _, b := range allLabels() {
			labels := []impl.Label{a.label, b.label}
			for _, s := range steps {
				p := impl.Prog{Labels: labels, Steps: []impl.Step{s}}
				if got, want := impl.TypeOk(p), fineByTexts(a, b, s, "012", "012"); got != want {
					t.Fatalf("%s is fine %v", written(p), got)
				}
				in := impl.Prog{Labels: labels, Steps: []impl.Step{when(0, []impl.Step{s}, nil)}}
				if got, want := impl.TypeOk(in), fineByTexts(a, b, s, a.know, a.trust); got != want {
					t.Fatalf("%s is fine %v", written(in), got)
				}
				in.Steps = []impl.Step{when(1, nil, []impl.Step{s})}
				if got, want := impl.TypeOk(in), fineByTexts(a, b, s, b.know, b.trust); got != want {
					t.Fatalf("%s is fine %v", written(in), got)
				}
			}
		}
	}
}

// fineByTexts says whether a step of two variables is fine, if these know, and trust, that it is done.
func fineByTexts(a, b namedLabel, s impl.Step, know, trust string) bool {
	both := []namedLabel{a, b}
	switch s.Kind {
	case 1:
		for _, v := range madeOf(s.Val) {
			know, trust = common(know, both[v].know), common(trust, both[v].trust)
		}
		return within(both[s.Var].know, know) && within(both[s.Var].trust, trust)
	case 3:
		return within(fmt.Sprint(s.Host), common(know, both[s.Var].know))
	}
	return true
}

// P23
func TestFirstStepIsDoneByAll(t *testing.T) {
	t.Parallel()
	for _, p := range typedProgs() {
		at := impl.TypeAt(p)
		if len(p.Steps) == 0 {
			continue
		}
		if at[0] != (impl.Label{Know: 7, Trust: 7}) {
			t.Fatalf("%s: the first is done by %v", written(p), at[0])
		}
		for n, a := range at {
			if !impl.LabelFlows(at[0], a) {
				t.Fatalf("%s: %d is done by %v", written(p), n, a)
			}
		}
		// And so may that of each become what is said of all in it, which is that with its variable.
		for n, s := range inOrder(p.Steps) {
			inside := n + len(inOrder([]impl.Step{s}))
			for m := n + 1; m < inside; m++ {
				if !impl.LabelFlows(impl.LabelBoth(at[n], p.Labels[s.Var]), at[m]) {
					t.Fatalf("%s: %d is done by %v, and %d in it by %v", written(p), n, at[n], m, at[m])
				}
			}
			if inside < len(at) && n == 0 && at[inside] != at[0] {
				t.Fatalf("%s: %d is done by %v", written(p), inside, at[inside])
			}
		}
	}
}

// P24
func TestWhoTrustsWhatIsSetTrustsThatItIsDone(t *testing.T) {
	t.Parallel()
	guarded := 0
	for _, p := range fineProgs(t) {
		at, sets := impl.TypeAt(p), impl.TypeSets(p)
		for n := range at {
			if !within(hostsText(sets[n]), hostsText(at[n].Trust)) {
				t.Fatalf("%s: %d is done by %v, and trusted by %d", written(p), n, at[n], sets[n])
			}
			if at[n].Trust != 7 && sets[n] != 0 {
				guarded++
			}
		}
	}
	if guarded < 100 {
		t.Errorf("%d steps that set something are not trusted by all to be done", guarded)
	}
}

// P25
func TestFineJustIfFirstStepsAreAndTheRest(t *testing.T) {
	t.Parallel()
	seen := map[[2]bool]int{}
	for _, p := range typedProgs() {
		for k := range len(p.Steps) + 1 {
			first := impl.Prog{Labels: p.Labels, Steps: p.Steps[:k]}
			rest := impl.Prog{Labels: p.Labels, Steps: p.Steps[k:]}
			fine := [2]bool{impl.TypeOk(first), impl.TypeOk(rest)}
			if seen[fine]++; impl.TypeOk(p) != (fine[0] && fine[1]) {
				t.Fatalf("%s is fine %v, the first %d and the rest %v", written(p), impl.TypeOk(p), k, fine)
			}
			n, _ := impl.TypeWhy(p)
			one, _ := impl.TypeWhy(first)
			two, _ := impl.TypeWhy(rest)
			if !fine[0] && n != one || fine[0] && !fine[1] && n != two+impl.ProgSize(first) {
				t.Fatalf("%s: %d, of the first %d %d, of the rest %d", written(p), n, k, one, two)
			}
			if !slices.Equal(impl.TypeAt(p), slices.Concat(impl.TypeAt(first), impl.TypeAt(rest))) || !slices.Equal(impl.TypeSets(p), slices.Concat(impl.TypeSets(first), impl.TypeSets(rest))) {
				t.Fatalf("%s: what is said of the first %d, and the rest, is not what is said of all", written(p), k)
			}
		}
	}
	if len(seen) != 4 {
		t.Error(seen)
	}
}

// P26
func TestWithLabelsOfAllHostsEachProgramIsFine(t *testing.T) {
	t.Parallel()
	for _, p := range slices.Concat(manyProgs(3000), okShapes(9)) {
		p.Labels = freely(len(p.Labels))
		if n, bad := impl.TypeWhy(p); !impl.TypeOk(p) || bad || n != 0 {
			t.Fatalf("%s: %d, %v", written(p), n, bad)
		}
		all := impl.Label{Know: 7, Trust: 7}
		if slices.ContainsFunc(impl.TypeAt(p), func(a impl.Label) bool { return a != all }) {
			t.Fatalf("%s: %v", written(p), impl.TypeAt(p))
		}
	}
	for vars := range 5 {
		for _, s := range plainSteps(vars) {
			if p := progOf(vars, s); !checkFine(t, p) {
				t.Fatalf("%s is not fine", written(p))
			}
		}
	}
}

// P22, P26: with labels of no hosts all may be set, and nothing told.
func TestWithLabelsOfNoHosts(t *testing.T) {
	t.Parallel()
	for _, p := range manyProgs(2000) {
		p.Labels = make([]impl.Label, len(p.Labels))
		first := slices.IndexFunc(inOrder(p.Steps), func(s impl.Step) bool { return s.Kind == impl.StepTell })
		n, bad := impl.TypeWhy(p)
		if impl.TypeOk(p) != (first < 0) || bad != (first >= 0) || bad && n != first {
			t.Fatalf("%s: %d, %v", written(p), n, bad)
		}
		if slices.ContainsFunc(impl.TypeSets(p), func(s int) bool { return s != 0 }) {
			t.Fatalf("%s: %v", written(p), impl.TypeSets(p))
		}
	}
}

// P27, P28
func TestKnowsAndTrustsAreWhatTheLabelsSay(t *testing.T) {
	t.Parallel()
	named := allLabels()
	for vars := range 5 {
		for i := range named {
			p, want := impl.Prog{}, map[string][]bool{}
			for v := range vars {
				a := named[(i+v*23)%len(named)]
				p.Labels = append(p.Labels, a.label)
				for _, h := range []string{"0", "1", "2"} {
					want["knows "+h] = append(want["knows "+h], within(h, a.know))
					want["trusts "+h] = append(want["trusts "+h], within(h, a.trust))
				}
			}
			for host, h := range []string{"0", "1", "2"} {
				if got := impl.TypeKnows(p, host); !slices.Equal(got, want["knows "+h]) {
					t.Errorf("%s: %d knows %v", written(p), host, got)
				}
				if got := impl.TypeTrusts(p, host); !slices.Equal(got, want["trusts "+h]) {
					t.Errorf("%s: %d trusts %v", written(p), host, got)
				}
			}
		}
	}
}

// P27, P28: also where a program is not fine, and whatever its steps are.
func TestKnowsAndTrustsHangOnLabelsAlone(t *testing.T) {
	t.Parallel()
	p := labelled([]string{"01!", "!2", "012!1"})
	for _, steps := range [][]impl.Step{nil, {}, {tell(1, 0)}, {set(2, sum(0, 1))}, {when(1, []impl.Step{tell(0, 1)}, nil), set(0, num(1))}} {
		p.Steps = steps
		for host, want := range [][2][]bool{{{true, false, true}, {false, false, false}}, {{true, false, true}, {false, false, true}}, {{false, false, true}, {false, true, false}}} {
			if knows, trusts := impl.TypeKnows(p, host), impl.TypeTrusts(p, host); !slices.Equal(knows, want[0]) || !slices.Equal(trusts, want[1]) {
				t.Errorf("%s: %d knows %v and trusts %v", written(p), host, knows, trusts)
			}
		}
	}
}

// P27, P28: a host that there is not is in no label.
func TestHostsThatThereAreNot(t *testing.T) {
	t.Parallel()
	hosts := append(farNumbers(), -2, -3, -62, -63, -64, 3, 4, 5, 6, 7, 8, 31, 32, 33, 63, 65, 66, 128, 1<<31+1, math.MinInt+2, math.MaxInt-1)
	for vars := range 5 {
		for _, a := range []impl.Label{{Know: 7, Trust: 7}, {}, {Know: 5, Trust: 2}} {
			p := impl.Prog{Labels: slices.Repeat([]impl.Label{a}, vars)}
			for _, host := range hosts {
				if got := impl.TypeKnows(p, host); !slices.Equal(got, make([]bool, vars)) {
					t.Errorf("%s: %d knows %v", written(p), host, got)
				}
				if got := impl.TypeTrusts(p, host); !slices.Equal(got, make([]bool, vars)) {
					t.Errorf("%s: %d trusts %v", written(p), host, got)
				}
			}
		}
	}
}

// likeIn is numbers that are the same as others in a row of truths, and any else.
func (c *chance) likeIn(nums []int, row []bool) []int {
	out := c.nums(len(nums))
	for v, keep := range row {
		if keep {
			out[v] = nums[v]
		}
	}
	return out
}

// learns says whether a host learns from two runs that they are not the same: by what it is told, or what is set that it may know.
func learns(a, b impl.Run, host int, knows []bool) bool {
	return !slices.Equal(impl.RunTo(a, host), impl.RunTo(b, host)) || !slices.Equal(impl.RunSets(a, knows), impl.RunSets(b, knows))
}

// swayed says whether what a host trusts is set to something else.
func swayed(a, b impl.Run, trusts []bool) bool {
	return !slices.Equal(impl.RunSets(a, trusts), impl.RunSets(b, trusts))
}

// P29, P30
func TestFineProgramsTellNothingMoreAndSetNothingElse(t *testing.T) {
	t.Parallel()
	c := chance(6)
	other, guarded := 0, 0
	for _, p := range fineProgs(t) {
		for host := range 3 {
			knows, trusts := impl.TypeKnows(p, host), impl.TypeTrusts(p, host)
			for range 4 {
				nums := c.nums(len(p.Labels))
				a := run(t, p, nums)
				like := c.likeIn(nums, knows)
				b := run(t, p, like)
				if learns(a, b, host, knows) {
					t.Fatalf("%s: %d is told more by %v and %v", written(p), host, nums, like)
				}
				if !sameRun(a, b) && len(a.Writes)+len(a.Said) > 0 {
					other++
				}
				if len(a.Writes)+len(a.Said) != len(b.Writes)+len(b.Said) {
					guarded++
				}
				like = c.likeIn(nums, trusts)
				if b = run(t, p, like); swayed(a, b, trusts) {
					t.Fatalf("%s: what %d trusts is else by %v and %v", written(p), host, nums, like)
				}
			}
		}
	}
	if other < 10000 || guarded < 1000 {
		t.Errorf("%d runs are not the same, of %d other steps are done", other, guarded)
	}
}

// P29, P30: small programs with all rows of 0, 1 and 2; of those that are not fine some tell more, or set something else.
func TestSmallProgramsTellNothingMoreAndSetNothingElse(t *testing.T) {
	t.Parallel()
	c := chance(7)
	broken := map[string]int{}
	rows := rowsOver(2, 0, 1, 2)
	for range 6000 {
		p := impl.Prog{Labels: []impl.Label{c.label(), c.label()}}
		left := 1 + c.below(4)
		p.Steps = c.steps(2, 1, &left)
		fine := checkFine(t, p)
		for _, x := range rows {
			for _, y := range rows {
				a, b := run(t, p, x), run(t, p, y)
				for host := range 3 {
					knows, trusts := impl.TypeKnows(p, host), impl.TypeTrusts(p, host)
					if slices.Equal(pick(x, knows), pick(y, knows)) && learns(a, b, host, knows) {
						broken[fmt.Sprint("told more, fine ", fine)]++
					}
					if slices.Equal(pick(x, trusts), pick(y, trusts)) && swayed(a, b, trusts) {
						broken[fmt.Sprint("set else, fine ", fine)]++
					}
				}
			}
		}
	}
	if broken["told more, fine true"] > 0 || broken["set else, fine true"] > 0 || broken["told more, fine false"] == 0 || broken["set else, fine false"] == 0 {
		t.Error(broken)
	}
}

// pick is the numbers of which there is a true.
func pick(nums []int, row []bool) []int {
	var out []int
	for v, n := range nums {
		if row[v] {
			out = append(out, n)
		}
	}
	return out
}

// P29: what is learned from which steps are done, also from none of them; such a program is not fine.
func TestWhatIsLearnedFromWhichStepsAreDone(t *testing.T) {
	t.Parallel()
	secret := []string{"12!012", "012!012", "012!012"}
	for _, steps := range [][]impl.Step{
		{when(0, []impl.Step{tell(1, 0)}, nil)},
		{when(0, nil, []impl.Step{tell(1, 0)})},
		{when(1, []impl.Step{when(0, []impl.Step{tell(1, 0)}, nil)}, nil)},
		{when(0, nil, []impl.Step{when(1, nil, []impl.Step{tell(1, 0)})})},
		{when(0, []impl.Step{when(1, []impl.Step{tell(1, 0)}, nil)}, []impl.Step{when(1, nil, nil)})},
		{when(0, []impl.Step{set(1, num(5))}, nil), tell(1, 0)},
		{set(1, num(1)), when(0, nil, []impl.Step{when(2, nil, []impl.Step{set(1, num(0))})}), when(1, []impl.Step{tell(2, 0)}, nil)},
	} {
		p := labelled(secret, steps...)
		learned := false
		for _, rest := range rowsOver(2, 0, 1) {
			a, b := run(t, p, slices.Concat([]int{0}, rest)), run(t, p, slices.Concat([]int{1}, rest))
			learned = learned || learns(a, b, 0, []bool{false, false, false})
		}
		if checkTypes(t, p) || !learned {
			t.Errorf("%s is fine, or nothing is learned: %v", written(p), learned)
		}
		// That others trust it less is no reason.
		p.Labels = labelled([]string{"012!", "012!", "012!"}).Labels
		if !checkTypes(t, p) {
			t.Errorf("%s is not fine", written(p))
		}
	}
}

// P31
func TestStepTellAloneIsFineJustIfTheHostMayKnow(t *testing.T) {
	t.Parallel()
	for _, a := range allLabels() {
		for host, h := range []string{"0", "1", "2"} {
			for v := range 4 {
				p := progOf(4, tell(v, host))
				p.Labels[v] = a.label
				want := within(h, a.know)
				if n, bad := impl.TypeWhy(p); impl.TypeOk(p) != want || bad == want || n != 0 {
					t.Errorf("%s is fine %v", written(p), impl.TypeOk(p))
				}
				if impl.TypeKnows(p, host)[v] != want {
					t.Errorf("%s: %d knows %v", written(p), host, impl.TypeKnows(p, host))
				}
				// Labels of other variables are no reason.
				q := impl.Prog{Labels: make([]impl.Label, 4), Steps: p.Steps}
				q.Labels[v] = a.label
				if impl.TypeOk(q) != want {
					t.Errorf("%s is fine %v", written(q), impl.TypeOk(q))
				}
			}
		}
	}
}

// P32
func TestVariableMaySetAnotherJustIfItMayBecomeIt(t *testing.T) {
	t.Parallel()
	for _, a := range allLabels() {
		for _, b := range allLabels() {
			want := impl.LabelFlows(a.label, b.label)
			for v := range 3 {
				w := (v + 1) % 3
				p := progOf(3)
				p.Labels[v], p.Labels[w] = a.label, b.label
				third := 3 - v - w
				for _, s := range []impl.Step{
					set(w, taken(v)), set(w, sum(v, v)), set(w, alike(v, v)), set(w, sum(v, third)), set(w, sum(third, v)), set(w, alike(third, v)), set(w, sum(w, v)), set(w, alike(v, w)),
					when(v, []impl.Step{set(w, num(7))}, nil), when(v, nil, []impl.Step{set(w, num(0))}), when(v, []impl.Step{when(third, nil, []impl.Step{set(w, taken(w))})}, nil),
					when(third, nil, []impl.Step{when(v, nil, []impl.Step{set(w, taken(v))})}), when(third, []impl.Step{set(w, taken(v))}, nil),
				} {
					p.Steps = []impl.Step{s}
					if got := impl.TypeOk(p); got != want {
						t.Fatalf("%s is fine %v", written(p), got)
					}
				}
			}
		}
	}
}

// P32: of two variables both must be such that they may become it, and so must that by which it is done.
func TestVariableSetByTwoJustIfBothMayBecomeIt(t *testing.T) {
	t.Parallel()
	named := allLabels()
	for i, a := range named {
		for j, b := range named {
			c := named[(i*7+j*11)%len(named)]
			want := impl.LabelFlows(a.label, c.label) && impl.LabelFlows(b.label, c.label)
			for _, s := range []impl.Step{
				set(2, sum(0, 1)), set(2, alike(1, 0)), when(0, []impl.Step{set(2, taken(1))}, nil), when(1, nil, []impl.Step{set(2, sum(2, 0))}), when(0, []impl.Step{when(1, nil, []impl.Step{set(2, num(1))})}, nil),
			} {
				p := impl.Prog{Labels: []impl.Label{a.label, b.label, c.label}, Steps: []impl.Step{s}}
				if got := impl.TypeOk(p); got != want {
					t.Fatalf("%s is fine %v", written(p), got)
				}
			}
		}
	}
}

// P33
func TestStepsThatAreFineInAStepIfAreFineAlone(t *testing.T) {
	t.Parallel()
	seen := map[[2]bool]int{}
	for _, p := range typedProgs() {
		if len(inOrder(p.Steps)) > 7 || depthOf(p.Steps) > 2 {
			continue
		}
		alone := impl.TypeOk(p)
		for v := range p.Labels {
			then := impl.Prog{Labels: p.Labels, Steps: []impl.Step{when(v, p.Steps, nil)}}
			not := impl.Prog{Labels: p.Labels, Steps: []impl.Step{when(v, nil, p.Steps)}}
			inside := impl.TypeOk(then)
			if seen[[2]bool{inside, alone}]++; inside != impl.TypeOk(not) || inside && !alone {
				t.Fatalf("%s: by %d it is fine %v and %v, alone %v", written(p), v, inside, impl.TypeOk(not), alone)
			}
			if p.Labels[v] == (impl.Label{Know: 7, Trust: 7}) && inside != alone {
				t.Fatalf("%s: by %d, whom all know and trust, it is fine %v, alone %v", written(p), v, inside, alone)
			}
		}
	}
	if len(seen) != 3 {
		t.Error(seen)
	}
}

// P21, P22, P27, P28: without steps all is fine, and nothing is said of any.
func TestTypesOfNothing(t *testing.T) {
	t.Parallel()
	for _, p := range []impl.Prog{{}, {Labels: []impl.Label{}, Steps: []impl.Step{}}} {
		if !checkTypes(t, p) || len(impl.TypeKnows(p, 0)) != 0 || len(impl.TypeTrusts(p, 2)) != 0 || len(impl.TypeKnows(p, 3)) != 0 {
			t.Errorf("%s", written(p))
		}
	}
	for vars := range 5 {
		for _, a := range allLabels() {
			p := impl.Prog{Labels: slices.Repeat([]impl.Label{a.label}, vars)}
			if !checkTypes(t, p) || len(impl.TypeAt(p)) != 0 || len(impl.TypeSets(p)) != 0 {
				t.Errorf("%s", written(p))
			}
		}
	}
}

// P22: a StepIf without steps is fine, whatever its variable is; nobody trusts what it sets.
func TestStepIfWithoutSteps(t *testing.T) {
	t.Parallel()
	for _, a := range allLabels() {
		for _, b := range allLabels() {
			p := impl.Prog{Labels: []impl.Label{a.label, b.label}, Steps: []impl.Step{when(0, nil, []impl.Step{}), when(1, []impl.Step{when(0, nil, nil)}, nil)}}
			both := impl.LabelBoth(impl.Label{Know: 7, Trust: 7}, b.label)
			if !impl.TypeOk(p) || !slices.Equal(impl.TypeSets(p), []int{0, 0, 0}) || impl.TypeAt(p)[2] != both {
				t.Fatalf("%s: %v, %v", written(p), impl.TypeAt(p), impl.TypeSets(p))
			}
		}
	}
}

// P21 to P28: of a program that is not ok nothing is said.
func TestWrongProgramsAreNotFine(t *testing.T) {
	t.Parallel()
	for many := 5; many < 8; many++ {
		checkNoTypes(t, progOf(many), "too many labels")
		checkNoTypes(t, progOf(many, tell(0, 0), tell(many-1, 0)), "too many labels")
	}
	for _, a := range noLabels() {
		for place := range 4 {
			p := progOf(4)
			p.Labels[place] = a
			checkNoTypes(t, p, fmt.Sprintf("the label %v", a))
			p.Steps = []impl.Step{tell(0, 0), when(place, []impl.Step{set(1, taken(place))}, nil)}
			checkNoTypes(t, p, fmt.Sprintf("the label %v", a))
		}
	}
	leaf := []impl.Step{set(0, num(1))}
	checkNoTypes(t, progOf(1, slices.Repeat(leaf, 9)...), "nine steps")
	checkNoTypes(t, progOf(1, when(0, nil, slices.Repeat(leaf, 8))), "nine steps")
	checkNoTypes(t, progOf(0, tell(0, 0)), "a step without variables")
	for _, steps := range [][]impl.Step{{when(0, leaf, nil)}, {when(0, nil, leaf)}, leaf} {
		checkNoTypes(t, progOf(1, when(0, []impl.Step{when(0, []impl.Step{when(0, steps, nil)}, nil)}, nil)), "too deep")
		checkNoTypes(t, progOf(1, when(0, nil, []impl.Step{when(0, nil, []impl.Step{when(0, nil, steps)})})), "too deep")
	}
	loop := []impl.Step{set(0, num(0)), when(0, nil, nil)}
	loop[1].Then = loop
	checkNoTypes(t, progOf(1, loop...), "steps in themselves")
	other := []impl.Step{when(0, nil, nil)}
	other[0].Else = other
	checkNoTypes(t, progOf(1, other...), "steps in themselves")
	checkNoTypes(t, progOf(1, when(0, loop, other)), "steps in themselves")
	var wide []impl.Step
	for range 3 {
		wide = slices.Repeat([]impl.Step{when(0, wide, wide)}, 1<<12)
	}
	checkNoTypes(t, progOf(1, wide...), "far too many steps")
}

// P21 to P28: a wrong step stands anywhere, ahead of one that is not fine, or behind it.
func TestWrongStepsAreNotFine(t *testing.T) {
	t.Parallel()
	for _, s := range wrongSteps() {
		for _, labels := range [][]string{{"012!012", "012!012"}, {"12!012", "012!012"}} {
			told := tell(0, 0)
			for _, steps := range [][]impl.Step{
				{s}, {told, s}, {s, told}, {when(0, []impl.Step{s}, []impl.Step{told})}, {when(0, []impl.Step{told}, []impl.Step{s})},
				{when(1, []impl.Step{when(1, []impl.Step{s}, nil)}, nil)}, {told, when(1, nil, []impl.Step{when(1, nil, []impl.Step{told, s})})},
			} {
				checkNoTypes(t, labelled(labels, steps...), fmt.Sprint(s))
			}
		}
	}
}

// listed is what is said of a program in lists.
type listed struct {
	at            []impl.Label
	sets          []int
	knows, trusts [][]bool
}

func listsOfTypes(p impl.Prog) listed {
	out := listed{at: impl.TypeAt(p), sets: impl.TypeSets(p)}
	for host := -1; host < 4; host++ {
		out.knows = append(out.knows, impl.TypeKnows(p, host))
		out.trusts = append(out.trusts, impl.TypeTrusts(p, host))
	}
	return out
}

func (l listed) overwrite() {
	overwrite(l.at, impl.Label{Know: 77, Trust: 78})
	overwrite(l.sets, 77)
	for _, row := range slices.Concat(l.knows, l.trusts) {
		overwrite(row, true)
	}
}

func sameListed(a, b listed) bool {
	return slices.Equal(a.at, b.at) && slices.Equal(a.sets, b.sets) && slices.EqualFunc(a.knows, b.knows, slices.Equal) && slices.EqualFunc(a.trusts, b.trusts, slices.Equal)
}

// P21, P22, P27, P28: nothing is written into a program, nor behind the end of its lists, and what is said of it is new memory.
func TestTypesAreNewMemory(t *testing.T) {
	t.Parallel()
	mark := impl.Label{Know: 91, Trust: 92}
	for _, p := range typedProgs()[:4000] {
		var lists, were [][]impl.Step
		labels, whole := marked(p.Labels, mark)
		q := impl.Prog{Labels: labels, Steps: roomy(p.Steps, &lists)}
		for _, list := range lists {
			were = append(were, deepCopy(list))
		}
		got, again := listsOfTypes(q), listsOfTypes(q)
		again.overwrite()
		checkFine(t, q)
		if !sameProg(p, q) || !slices.EqualFunc(lists, were, sameSteps) || !slices.Equal(whole[len(labels):], []impl.Label{mark, mark, mark}) {
			t.Fatalf("%s was written into", written(p))
		}
		overwrite(labels, mark)
		for _, list := range lists {
			spoil(list)
		}
		if want := listsOfTypes(p); !sameListed(got, want) {
			t.Fatalf("%s: %v by now, not %v", written(p), got, want)
		}
	}
}

// P21, P27, P28: what is not ok is not written into either, and nothing of it is handed out.
func TestTypesOfWhatIsNotOkShareNothing(t *testing.T) {
	t.Parallel()
	for _, s := range wrongSteps() {
		var lists, were [][]impl.Step
		labels, whole := marked(freely(2), impl.Label{Know: 5, Trust: 6})
		p := impl.Prog{Labels: labels, Steps: roomy([]impl.Step{tell(0, 1), when(1, []impl.Step{set(1, num(2)), s}, nil)}, &lists)}
		wholeWas := slices.Clone(whole)
		for _, list := range lists {
			were = append(were, deepCopy(list))
		}
		checkNoTypes(t, p, fmt.Sprint(s))
		listsOfTypes(p).overwrite()
		if !slices.Equal(whole, wholeWas) || !slices.EqualFunc(lists, were, sameSteps) {
			t.Fatalf("%v was written into", s)
		}
	}
}

// P21, P22: the same is answered again, whatever was asked in between.
func TestTypesKeepNothing(t *testing.T) {
	t.Parallel()
	progs := typedProgs()
	var first []listed
	for _, p := range progs {
		first = append(first, listsOfTypes(p))
	}
	for i := len(progs) - 1; i >= 0; i-- {
		checkNoTypes(t, progOf(5), "too many labels")
		if got := listsOfTypes(progs[i]); !sameListed(got, first[i]) {
			t.Fatalf("%s: %v, not %v", written(progs[i]), got, first[i])
		}
	}
}
