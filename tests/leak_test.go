package tests

import (
	"cmp"
	"fmt"
	"math"
	"slices"
	"testing"

	"loop.example/cloison/impl"
)

// pair is what LeakOf, or SwayOf, answers.
type pair struct {
	first, second []int
	ok            bool
}

func (a pair) is(b pair) bool {
	return a.ok == b.ok && slices.Equal(a.first, b.first) && slices.Equal(a.second, b.second)
}

func leakOf(p impl.Prog, host int) pair {
	first, second, ok := impl.LeakOf(p, host)
	return pair{first, second, ok}
}

func swayOf(p impl.Prog, host int) pair {
	first, second, ok := impl.SwayOf(p, host)
	return pair{first, second, ok}
}

// rows is two rows that are told.
func rows(first, second []int) pair {
	return pair{first, second, true}
}

// rowNumber is the number of a row: the variables count 1, 2, 4 and so on.
func rowNumber(row []int) int {
	n, counts := 0, 1
	for _, bit := range row {
		n += bit * counts
		counts += counts
	}
	return n
}

// byRows is what comes of a program with each row of 0 and 1, by the document's tables.
type byRows struct {
	prog impl.Prog
	rows [][]int
	runs []impl.Run
}

func allByRows(p impl.Prog) byRows {
	out := byRows{prog: p, rows: rowsOver(len(p.Labels), 0, 1)}
	for _, row := range out.rows {
		out.runs = append(out.runs, doneBy(p.Steps, impl.Run{Nums: row}))
	}
	return out
}

// pairs is all pairs of rows, the first being less, that are the same where there is a true, and by which what is seen is not.
func (b byRows) pairs(stays []bool, seen func(impl.Run) []int) []pair {
	var views [][]int
	for _, r := range b.runs {
		views = append(views, seen(r))
	}
	var out []pair
	for i, first := range b.rows {
		for j, second := range b.rows {
			if rowNumber(first) < rowNumber(second) && slices.Equal(pick(first, stays), pick(second, stays)) && !slices.Equal(views[i], views[j]) {
				out = append(out, rows(first, second))
			}
		}
	}
	return out
}

func (b byRows) leaks(host int) []pair {
	return b.pairs(rowBy(b.prog, host, letKnow), func(r impl.Run) []int {
		var out []int
		for _, s := range r.Said {
			if s.Host == host {
				out = append(out, s.Num)
			}
		}
		return out
	})
}

func (b byRows) sways(host int) []pair {
	trusts := rowBy(b.prog, host, letTrust)
	return b.pairs(trusts, func(r impl.Run) []int {
		var out []int
		for _, w := range setOf(r.Writes, trusts) {
			out = append(out, w.Var, w.Num)
		}
		return out
	})
}

// least is the pair of the least second row, and of such the one of the least first; nothing, if there is none.
func least(pairs []pair) pair {
	if len(pairs) == 0 {
		return pair{}
	}
	return slices.MinFunc(pairs, func(a, b pair) int {
		return cmp.Or(cmp.Compare(rowNumber(a.second), rowNumber(b.second)), cmp.Compare(rowNumber(a.first), rowNumber(b.first)))
	})
}

// checkPairs holds both answers, at all hosts, against all pairs of rows that there are, and answers these.
func checkPairs(t *testing.T, p impl.Prog) (leaks, sways [3][]pair) {
	t.Helper()
	by := allByRows(p)
	for host := range 3 {
		leaks[host], sways[host] = by.leaks(host), by.sways(host)
		if got, want := leakOf(p, host), least(leaks[host]); !got.is(want) {
			t.Fatalf("%s: to %d %v leak, not %v", written(p), host, got, want)
		}
		if got, want := swayOf(p, host), least(sways[host]); !got.is(want) {
			t.Fatalf("%s: what %d trusts is swayed by %v, not %v", written(p), host, got, want)
		}
	}
	return leaks, sways
}

// checkNoPairs asks for the one fixed answer, also at hosts that there are not; it does not print the program, as that may not end.
func checkNoPairs(t *testing.T, p impl.Prog, what string) {
	t.Helper()
	for host := -1; host < 4; host++ {
		if got := leakOf(p, host); !got.is(pair{}) {
			t.Fatalf("%s: to %d %v leak", what, host, got)
		}
		if got := swayOf(p, host); !got.is(pair{}) {
			t.Fatalf("%s: what %d trusts is swayed by %v", what, host, got)
		}
	}
}

// differ is in how many variables two rows are not the same.
func (a pair) differ() int {
	many := 0
	for v := range a.first {
		if a.first[v] != a.second[v] {
			many++
		}
	}
	return many
}

// leaky is a program of three variables or four that is as large as it may be, and ends by telling one, with labels of few hosts, so that much leaks and sways.
func (c *chance) leaky() impl.Prog {
	vars, left := 3+c.below(2), 7
	var p impl.Prog
	for left > 0 {
		p.Steps = append(p.Steps, c.steps(vars, 1, &left)...)
	}
	p.Steps = append(p.Steps, tell(c.below(vars), c.below(3)))
	for range vars {
		p.Labels = append(p.Labels, impl.Label{Know: c.below(8) & c.below(8), Trust: c.below(8)})
	}
	return p
}

// leakyProgs is programs of all kinds and shapes, and many of which much leaks.
func leakyProgs() []impl.Prog {
	c := chance(8)
	var out []impl.Prog
	for i, p := range typedProgs() {
		if i%5 == c.below(5) {
			out = append(out, p)
		}
	}
	for range 3000 {
		out = append(out, c.leaky())
	}
	return out
}

// asked is a program, a host, and two rows that are told of them.
type asked struct {
	prog impl.Prog
	host int
	pair
}

// toldRows is all that one of both functions tells of programs.
func toldRows(t *testing.T, of func(impl.Prog, int) pair) []asked {
	t.Helper()
	var out []asked
	for _, p := range leakyProgs() {
		for host := range 3 {
			if got := of(p, host); got.ok {
				out = append(out, asked{p, host, got})
			}
		}
	}
	if len(out) < 1500 {
		t.Fatalf("only %d rows are told", len(out))
	}
	return out
}

// areRows says whether both are rows of 0 and 1 of a program's variables, the first less than the second.
func (a asked) areRows() bool {
	vars := len(a.prog.Labels)
	if len(a.first) != vars || len(a.second) != vars {
		return false
	}
	notBit := func(n int) bool { return n != 0 && n != 1 }
	return !slices.ContainsFunc(a.first, notBit) && !slices.ContainsFunc(a.second, notBit) && rowNumber(a.first) < rowNumber(a.second)
}

// P34, P36, P39, P41
func TestRowsOfManyPrograms(t *testing.T) {
	t.Parallel()
	seen := map[string]int{}
	count := func(what string, pairs []pair) {
		if len(pairs) == 0 {
			seen[what+" none"]++
			return
		}
		got := least(pairs)
		seen[fmt.Sprint(what, " by ", got.differ())]++
		if slices.ContainsFunc(pairs, func(a pair) bool { return rowNumber(a.first) < rowNumber(got.first) }) {
			seen[what+" with a lesser first row behind"]++
		}
		if slices.ContainsFunc(pairs, func(a pair) bool { return slices.Equal(a.second, got.second) && !slices.Equal(a.first, got.first) }) {
			seen[what+" with another first row"]++
		}
	}
	for _, p := range leakyProgs() {
		leaks, sways := checkPairs(t, p)
		for host := range 3 {
			count("leak", leaks[host])
			count("sway", sways[host])
		}
	}
	for _, what := range []string{"leak", "sway"} {
		for _, how := range []string{" none", " by 1", " by 2", " with a lesser first row behind", " with another first row"} {
			if seen[what+how] == 0 {
				t.Errorf("%s%s: there is none of %v", what, how, seen)
			}
		}
	}
}

// P34, P36, P39, P41: every program of two variables and one plain step, also inside a StepIf, with all labels that two hosts can tell apart.
func TestRowsOfEachStep(t *testing.T) {
	t.Parallel()
	for _, s := range plainSteps(2) {
		for _, a := range allLabels() {
			for _, b := range []string{"!", "0!12", "12!0"} {
				other, _ := impl.LabelRead(b)
				for _, steps := range [][]impl.Step{{s}, {when(0, []impl.Step{s}, nil)}, {when(1, nil, []impl.Step{s}), tell(0, 0)}} {
					checkPairs(t, impl.Prog{Labels: []impl.Label{a.label, other}, Steps: steps})
					checkPairs(t, impl.Prog{Labels: []impl.Label{other, a.label}, Steps: steps})
				}
			}
		}
	}
}

// P34, P39: every shape of steps.
func TestRowsOfEachShape(t *testing.T) {
	t.Parallel()
	for _, p := range okShapes(7) {
		p.Labels = labelled([]string{"01!12", "12!01", "02!02", "012!2"}).Labels
		checkPairs(t, p)
	}
}

// P34
func TestLeakedRowsAreTheSameInWhatTheHostMayKnow(t *testing.T) {
	t.Parallel()
	for _, a := range toldRows(t, leakOf) {
		knows := impl.TypeKnows(a.prog, a.host)
		if !a.areRows() || !slices.Equal(pick(a.first, knows), pick(a.second, knows)) {
			t.Fatalf("%s: of %d, who knows %v, %v", written(a.prog), a.host, knows, a.pair)
		}
		one, two := run(t, a.prog, a.first), run(t, a.prog, a.second)
		if slices.Equal(impl.RunTo(one, a.host), impl.RunTo(two, a.host)) {
			t.Fatalf("%s: %d is told the same by %v", written(a.prog), a.host, a.pair)
		}
	}
}

// P39
func TestSwayingRowsAreTheSameInWhatTheHostTrusts(t *testing.T) {
	t.Parallel()
	for _, a := range toldRows(t, swayOf) {
		trusts := impl.TypeTrusts(a.prog, a.host)
		if !a.areRows() || !slices.Equal(pick(a.first, trusts), pick(a.second, trusts)) {
			t.Fatalf("%s: of %d, who trusts %v, %v", written(a.prog), a.host, trusts, a.pair)
		}
		one, two := run(t, a.prog, a.first), run(t, a.prog, a.second)
		if !swayed(one, two, trusts) {
			t.Fatalf("%s: what %d trusts is the same by %v", written(a.prog), a.host, a.pair)
		}
	}
}

// P35, P40
func TestOfFineProgramsNoRowsAreTold(t *testing.T) {
	t.Parallel()
	for _, p := range fineProgs(t) {
		checkNoPairs(t, p, written(p))
	}
	for _, p := range okShapes(7) {
		p.Labels = freely(len(p.Labels))
		checkNoPairs(t, p, written(p))
	}
}

// P36, P41: with all rows of 0 and 1, by the program's own answers.
func TestIfNoRowsAreToldThereAreNone(t *testing.T) {
	t.Parallel()
	c := chance(9)
	none := map[string]int{}
	for range 1500 {
		p := impl.Prog{Labels: []impl.Label{c.label(), c.label(), {Know: c.below(8), Trust: c.below(8)}}}
		left := 1 + c.below(8)
		p.Steps = c.steps(3, 1, &left)
		all := rowsOver(3, 0, 1)
		for host := range 3 {
			knows, trusts := impl.TypeKnows(p, host), impl.TypeTrusts(p, host)
			leaks, sways := false, false
			for _, x := range all {
				for _, y := range all {
					a, b := run(t, p, x), run(t, p, y)
					leaks = leaks || slices.Equal(pick(x, knows), pick(y, knows)) && !slices.Equal(impl.RunTo(a, host), impl.RunTo(b, host))
					sways = sways || slices.Equal(pick(x, trusts), pick(y, trusts)) && swayed(a, b, trusts)
				}
			}
			if leakOf(p, host).ok != leaks || swayOf(p, host).ok != sways {
				t.Fatalf("%s: of %d %v and %v are told, but there are %v and %v", written(p), host, leakOf(p, host), swayOf(p, host), leaks, sways)
			}
			none[fmt.Sprint("leaks ", leaks)]++
			none[fmt.Sprint("sways ", sways)]++
		}
	}
	for _, what := range []string{"leaks true", "leaks false", "sways true", "sways false"} {
		if none[what] < 200 {
			t.Errorf("%s too seldom: %v", what, none)
		}
	}
}

// P36, P41: programs that are not fine, but with which nothing else comes of any rows of 0 and 1; other numbers are not looked at.
func TestNotFineButNoRows(t *testing.T) {
	t.Parallel()
	for _, p := range []impl.Prog{
		labelled([]string{"!"}, set(0, num(3)), tell(0, 0)),
		labelled([]string{"!", "012!012"}, set(1, alike(0, 0)), tell(1, 0)),
		labelled([]string{"!", "012!012"}, when(0, []impl.Step{set(1, num(4))}, []impl.Step{set(1, num(4))}), tell(1, 0)),
		labelled([]string{"!", "012!012"}, when(0, []impl.Step{tell(1, 0)}, []impl.Step{tell(1, 0)})),
		labelled([]string{"!", "012!012", "012!012"}, set(1, num(2)), set(2, alike(0, 1)), tell(2, 0)),
		labelled([]string{"!", "012!012", "012!012"}, set(0, sum(0, 0)), set(1, num(1)), set(2, alike(0, 1)), tell(2, 0)),
		labelled([]string{"!", "012!012"}, set(0, num(0)), when(0, []impl.Step{tell(1, 0), set(1, num(9))}, nil)),
	} {
		if checkFine(t, p) {
			t.Errorf("%s is fine", written(p))
		}
		checkPairs(t, p)
		checkNoPairs(t, p, written(p))
	}
	// With 2 it would be another.
	p := labelled([]string{"!", "012!012", "012!012"}, set(1, num(2)), set(2, alike(0, 1)), tell(2, 0))
	if a, b := run(t, p, []int{0, 0, 0}), run(t, p, []int{2, 0, 0}); !learns(a, b, 0, []bool{false, true, true}) {
		t.Error(a, b)
	}
}

// P37
func TestLeaksOnlyToHostsThatAreTold(t *testing.T) {
	t.Parallel()
	quiet := 0
	for _, a := range toldRows(t, leakOf) {
		one, two := impl.RunTo(run(t, a.prog, a.first), a.host), impl.RunTo(run(t, a.prog, a.second), a.host)
		if len(one)+len(two) == 0 {
			t.Fatalf("%s: nothing is told to %d by %v", written(a.prog), a.host, a.pair)
		}
	}
	for _, p := range leakyProgs() {
		for host := range 3 {
			if slices.ContainsFunc(inOrder(p.Steps), func(s impl.Step) bool { return s.Kind == 3 && s.Host == host }) {
				continue
			}
			if got := leakOf(p, host); !got.is(pair{}) {
				t.Fatalf("%s: nothing is told to %d, but %v", written(p), host, got)
			}
			quiet++
		}
	}
	if quiet < 1000 {
		t.Errorf("only %d hosts are told nothing", quiet)
	}
	for host := range 3 {
		p := labelled([]string{"!"}, tell(0, host))
		for other := range 3 {
			if got := leakOf(p, other); got.ok != (other == host) {
				t.Errorf("%s: to %d %v", written(p), other, got)
			}
		}
	}
}

// P38
func TestLeaksOnlyToHostsThatMayNotKnowAll(t *testing.T) {
	t.Parallel()
	for _, a := range toldRows(t, leakOf) {
		if knows := impl.TypeKnows(a.prog, a.host); !slices.Contains(knows, false) || slices.Equal(a.first, a.second) {
			t.Fatalf("%s: %d knows %v, %v", written(a.prog), a.host, knows, a.pair)
		}
	}
	for i, p := range manyProgs(2000) {
		host := i % 3
		p.Labels = slices.Clone(p.Labels)
		for v := range p.Labels {
			// Others may know nothing, and nobody trusts it: to this host nothing leaks.
			p.Labels[v] = impl.Label{Know: setNumber(fmt.Sprint(host))}
		}
		if got := leakOf(p, host); !got.is(pair{}) {
			t.Fatalf("%s: to %d %v", written(p), host, got)
		}
		checkPairs(t, p)
	}
}

// P42
func TestSwaysOnlyHostsThatTrustSomethingAndNotAll(t *testing.T) {
	t.Parallel()
	for _, a := range toldRows(t, swayOf) {
		if trusts := impl.TypeTrusts(a.prog, a.host); !slices.Contains(trusts, false) || !slices.Contains(trusts, true) || slices.Equal(a.first, a.second) {
			t.Fatalf("%s: %d trusts %v, %v", written(a.prog), a.host, trusts, a.pair)
		}
	}
	for i, p := range manyProgs(2000) {
		host := i % 3
		for _, trust := range []int{setNumber(fmt.Sprint(host)), 7 - setNumber(fmt.Sprint(host))} {
			p.Labels = slices.Repeat([]impl.Label{{Trust: trust}}, len(p.Labels))
			if got := swayOf(p, host); !got.is(pair{}) {
				t.Fatalf("%s: %d is swayed by %v", written(p), host, got)
			}
			checkPairs(t, p)
		}
	}
}

// unit is a row of 0 with a 1 at some places.
func unit(vars int, ones ...int) []int {
	out := make([]int, vars)
	for _, v := range ones {
		out[v] = 1
	}
	return out
}

// P34, P38: one variable to four, each of them told alone.
func TestLeaksOfATellAlone(t *testing.T) {
	t.Parallel()
	for _, a := range allLabels() {
		for vars := 1; vars < 5; vars++ {
			for v := range vars {
				for host, h := range []string{"0", "1", "2"} {
					for _, rest := range []string{"012!", "!012"} {
						p := labelled(slices.Repeat([]string{rest}, vars), tell(v, host))
						p.Labels[v] = a.label
						want := rows(unit(vars), unit(vars, v))
						if within(h, a.know) {
							want = pair{}
						}
						if got := leakOf(p, host); !got.is(want) {
							t.Fatalf("%s: to %d %v, not %v", written(p), host, got, want)
						}
						if got := leakOf(p, (host+1)%3); got.ok {
							t.Fatalf("%s: to %d %v", written(p), (host+1)%3, got)
						}
					}
				}
			}
		}
	}
}

// P39, P42: one variable set by another one, or in what is done by it.
func TestSwaysOfASetAlone(t *testing.T) {
	t.Parallel()
	for _, a := range allLabels() {
		for _, b := range allLabels() {
			for vars := 2; vars < 5; vars++ {
				from, to := 0, vars-1
				for _, s := range []impl.Step{
					set(to, taken(from)), set(to, sum(from, from)), when(from, []impl.Step{set(to, num(3))}, nil), when(from, nil, []impl.Step{set(to, taken(to))}),
				} {
					p := labelled(slices.Repeat([]string{"!012"}, vars), s)
					p.Labels[from], p.Labels[to] = a.label, b.label
					for host, h := range []string{"0", "1", "2"} {
						want := pair{}
						if within(h, b.trust) && !within(h, a.trust) {
							want = rows(unit(vars), unit(vars, from))
						}
						if got := swayOf(p, host); !got.is(want) {
							t.Fatalf("%s: %d by %v, not %v", written(p), host, got, want)
						}
					}
				}
			}
		}
	}
}

// P34, P39: of several pairs of rows the one whose second row has the least number, then whose first has, worked out by hand.
func TestFirstOfSeveralRows(t *testing.T) {
	t.Parallel()
	// Only with a and b both 1 is c, or what is told of it, another.
	both := when(0, []impl.Step{when(1, []impl.Step{set(2, num(5))}, nil)}, nil)
	either := when(0, []impl.Step{set(2, num(5))}, []impl.Step{when(1, []impl.Step{set(2, num(5))}, nil)})
	clear := set(2, num(0))
	for _, c := range []struct {
		labels []string
		steps  []impl.Step
		leak   pair
		sway   pair
	}{
		{[]string{"!", "!", "0!0"}, []impl.Step{tell(0, 0), tell(1, 0)}, rows(unit(3), unit(3, 0)), pair{}},
		{[]string{"!", "!", "0!0"}, []impl.Step{tell(1, 0), tell(0, 0)}, rows(unit(3), unit(3, 0)), pair{}},
		{[]string{"0!", "!", "!0"}, []impl.Step{tell(2, 0), tell(1, 0), tell(0, 0)}, rows(unit(3), unit(3, 1)), pair{}},
		{[]string{"!", "!", "0!0"}, []impl.Step{both, tell(2, 0)}, rows(unit(3), unit(3, 0, 1)), rows(unit(3), unit(3, 0, 1))},
		{[]string{"0!0", "!", "0!0"}, []impl.Step{both, tell(2, 0)}, rows(unit(3, 0), unit(3, 0, 1)), rows(unit(3, 0), unit(3, 0, 1))},
		{[]string{"!", "0!0", "0!0"}, []impl.Step{both, tell(2, 0)}, rows(unit(3, 1), unit(3, 0, 1)), rows(unit(3, 1), unit(3, 0, 1))},
		{[]string{"0!0", "0!0", "0!0"}, []impl.Step{both, tell(2, 0)}, pair{}, pair{}},
		{[]string{"!", "!", "0!0"}, []impl.Step{clear, either, tell(2, 0)}, rows(unit(3), unit(3, 0)), rows(unit(3), unit(3, 0))},
		// With a a 1 something hangs on b; with a a 0 on c: that pair has the lesser first row, but the greater second.
		{[]string{"0!0", "!", "!", "!0"}, []impl.Step{when(0, []impl.Step{tell(1, 0), set(3, taken(1))}, []impl.Step{tell(2, 0), set(3, taken(2))})}, rows(unit(4, 0), unit(4, 0, 1)), rows(unit(4, 0), unit(4, 0, 1))},
		{[]string{"0!0", "!", "!", "!0"}, []impl.Step{when(0, []impl.Step{tell(2, 0), set(3, taken(2))}, []impl.Step{tell(1, 0), set(3, taken(1))})}, rows(unit(4), unit(4, 1)), rows(unit(4), unit(4, 1))},
		// Only the last row is another than all ahead.
		{[]string{"!", "!", "!", "!0"}, []impl.Step{set(0, sum(0, 1)), set(2, sum(2, 3)), set(0, sum(0, 2)), set(1, num(4)), set(1, alike(0, 1)), tell(1, 0)}, rows(unit(4), unit(4, 0, 1, 2, 3)), pair{}},
		{[]string{"!", "!", "!", "!0"}, []impl.Step{set(3, num(0)), when(0, []impl.Step{when(1, []impl.Step{set(3, taken(2))}, nil)}, nil), tell(3, 0)}, rows(unit(4), unit(4, 0, 1, 2)), rows(unit(4), unit(4, 0, 1))},
		{[]string{"!", "!", "!", "!0"}, []impl.Step{set(3, alike(0, 1)), set(3, alike(2, 3))}, pair{}, rows(unit(4), unit(4, 0))},
		{[]string{"!", "0!0", "!", "0!0"}, []impl.Step{when(1, []impl.Step{when(3, []impl.Step{tell(2, 0), set(1, taken(2))}, nil)}, nil)}, rows(unit(4, 1, 3), unit(4, 1, 2, 3)), rows(unit(4, 1, 3), unit(4, 1, 2, 3))},
		{[]string{"!", "0!0", "!", "0!0"}, []impl.Step{set(0, sum(0, 2)), set(2, num(2)), set(0, alike(0, 2)), when(1, []impl.Step{when(0, []impl.Step{tell(3, 0), set(3, num(1))}, nil)}, nil)}, rows(unit(4, 1), unit(4, 0, 1, 2)), rows(unit(4, 1), unit(4, 0, 1, 2))},
	} {
		p := labelled(c.labels, c.steps...)
		if got := leakOf(p, 0); !got.is(c.leak) {
			t.Errorf("%s: %v leak, not %v", written(p), got, c.leak)
		}
		if got := swayOf(p, 0); !got.is(c.sway) {
			t.Errorf("%s: %v sway, not %v", written(p), got, c.sway)
		}
		checkPairs(t, p)
	}
}

// P34: what is learned only from which steps are done, from the order, or the count, of what is told.
func TestWhatIsLearnedButByNumbers(t *testing.T) {
	t.Parallel()
	for _, c := range []struct {
		what  string
		steps []impl.Step
		want  pair
	}{
		{"told or not", []impl.Step{when(0, []impl.Step{tell(1, 0)}, nil)}, rows(unit(3), unit(3, 0))},
		{"not told or told", []impl.Step{when(0, nil, []impl.Step{tell(1, 0)})}, rows(unit(3), unit(3, 0))},
		{"told, but of another variable", []impl.Step{when(0, []impl.Step{tell(1, 0)}, []impl.Step{tell(2, 0)})}, rows(unit(3, 1), unit(3, 0, 1))},
		{"the order", []impl.Step{when(0, []impl.Step{tell(1, 0), tell(2, 0)}, []impl.Step{tell(2, 0), tell(1, 0)})}, rows(unit(3, 1), unit(3, 0, 1))},
		{"the order of twice the same", []impl.Step{when(0, []impl.Step{tell(1, 0), tell(1, 0), tell(2, 0)}, []impl.Step{tell(1, 0), tell(2, 0), tell(1, 0)})}, rows(unit(3, 1), unit(3, 0, 1))},
		{"the count", []impl.Step{tell(1, 0), when(0, []impl.Step{tell(1, 0)}, nil)}, rows(unit(3), unit(3, 0))},
		{"the count, behind", []impl.Step{when(0, []impl.Step{tell(1, 0)}, nil), tell(1, 0)}, rows(unit(3), unit(3, 0))},
		{"three times or two", []impl.Step{tell(2, 0), when(0, nil, []impl.Step{tell(2, 0)}), tell(2, 0)}, rows(unit(3), unit(3, 0))},
		{"told to others", []impl.Step{when(0, []impl.Step{tell(1, 1)}, []impl.Step{tell(1, 2), tell(0, 1)})}, pair{}},
		{"told to others among what is told", []impl.Step{tell(1, 0), when(0, []impl.Step{tell(1, 1)}, []impl.Step{tell(1, 2)}), tell(1, 0)}, pair{}},
		{"something is set, not told", []impl.Step{when(0, []impl.Step{set(1, num(7))}, nil), tell(2, 0)}, pair{}},
		{"something is set, and another told", []impl.Step{when(0, []impl.Step{set(1, num(7)), set(1, num(1))}, []impl.Step{set(1, num(1))}), tell(1, 0)}, pair{}},
	} {
		p := labelled([]string{"12!012", "012!012", "012!012"}, c.steps...)
		if got := leakOf(p, 0); !got.is(c.want) {
			t.Errorf("%s: %s: %v, not %v", c.what, written(p), got, c.want)
		}
		checkPairs(t, p)
	}
}

// P39: what is set to the same number, but more often, or in another order; what is not trusted does not count.
func TestWhatSwaysButByNumbers(t *testing.T) {
	t.Parallel()
	for _, c := range []struct {
		what  string
		steps []impl.Step
		want  pair
	}{
		{"once or twice", []impl.Step{set(1, num(4)), when(0, []impl.Step{set(1, num(4))}, nil)}, rows(unit(3), unit(3, 0))},
		{"twice or once", []impl.Step{when(0, []impl.Step{set(1, num(4))}, []impl.Step{set(1, num(4)), set(1, num(4))})}, rows(unit(3), unit(3, 0))},
		{"to itself or not", []impl.Step{when(0, []impl.Step{set(1, taken(1))}, nil)}, rows(unit(3), unit(3, 0))},
		{"another one first", []impl.Step{when(0, []impl.Step{set(1, num(4)), set(2, num(4))}, []impl.Step{set(2, num(4)), set(1, num(4))})}, rows(unit(3), unit(3, 0))},
		{"another one", []impl.Step{when(0, []impl.Step{set(1, num(4))}, []impl.Step{set(2, num(4))})}, rows(unit(3), unit(3, 0))},
		{"to another number, and back", []impl.Step{when(0, []impl.Step{set(1, num(4)), set(1, num(5))}, []impl.Step{set(1, num(5)), set(1, num(5))})}, rows(unit(3), unit(3, 0))},
		{"to the same", []impl.Step{when(0, []impl.Step{set(1, num(4))}, []impl.Step{set(1, num(4))})}, pair{}},
		{"to the same where that is", []impl.Step{when(0, []impl.Step{set(1, taken(1))}, []impl.Step{set(1, taken(2))})}, rows(unit(3, 1), unit(3, 0, 1))},
		{"what is not trusted", []impl.Step{set(1, num(4)), when(0, []impl.Step{set(0, num(4))}, []impl.Step{set(0, num(4)), set(0, num(5))})}, pair{}},
		{"what is not trusted, in between", []impl.Step{set(1, num(4)), when(0, []impl.Step{set(0, num(4))}, nil), set(2, num(4))}, pair{}},
		{"only told", []impl.Step{set(1, num(4)), when(0, []impl.Step{tell(0, 0)}, []impl.Step{tell(1, 1)})}, pair{}},
	} {
		p := labelled([]string{"012!12", "012!012", "012!012"}, c.steps...)
		if got := swayOf(p, 0); !got.is(c.want) {
			t.Errorf("%s: %s: %v, not %v", c.what, written(p), got, c.want)
		}
		checkPairs(t, p)
	}
}

// P34, P39: leaks hang on who may know alone, sways on who trusts alone, and both on the host that is asked for alone.
func TestRowsHangOnOnePartOfLabels(t *testing.T) {
	t.Parallel()
	c := chance(10)
	some := 0
	for _, p := range leakyProgs() {
		for host := range 3 {
			mine := setNumber(fmt.Sprint(host))
			leaky, swaying := p, p
			leaky.Labels, swaying.Labels = nil, nil
			for _, a := range p.Labels {
				know, trust := 0, 0
				if letKnow(a, host) {
					know = mine
				}
				if letTrust(a, host) {
					trust = mine
				}
				leaky.Labels = append(leaky.Labels, impl.Label{Know: know, Trust: c.below(8)})
				swaying.Labels = append(swaying.Labels, impl.Label{Know: c.below(8), Trust: trust})
			}
			if got, want := leakOf(leaky, host), leakOf(p, host); !got.is(want) {
				t.Fatalf("%s: to %d %v, not %v", written(leaky), host, got, want)
			}
			if got, want := swayOf(swaying, host), swayOf(p, host); !got.is(want) {
				t.Fatalf("%s: %d by %v, not %v", written(swaying), host, got, want)
			}
			if leakOf(p, host).ok && swayOf(p, host).ok {
				some++
			}
		}
	}
	if some == 0 {
		t.Error("nothing leaks and sways at once")
	}
}

// P35, P36, P40, P41: without steps, or without variables, there are no rows.
func TestRowsOfNothing(t *testing.T) {
	t.Parallel()
	for _, p := range []impl.Prog{{}, {Labels: []impl.Label{}, Steps: []impl.Step{}}} {
		checkNoPairs(t, p, "nothing")
	}
	for vars := range 5 {
		for _, a := range allLabels() {
			p := impl.Prog{Labels: slices.Repeat([]impl.Label{a.label}, vars)}
			checkNoPairs(t, p, written(p))
			for v := range vars {
				p.Steps = []impl.Step{when(v, nil, nil)}
				checkNoPairs(t, p, written(p))
			}
		}
	}
}

// secrets is a program that tells each host what it may not know, and in which what each trusts hangs on what it does not.
func secrets(steps ...impl.Step) impl.Prog {
	return labelled([]string{"!", "!012"}, slices.Concat([]impl.Step{tell(0, 0), tell(0, 1), tell(0, 2), set(1, taken(0))}, steps)...)
}

// P34, P37, P39, P42: hosts that there are not.
func TestRowsOfHostsThatThereAreNot(t *testing.T) {
	t.Parallel()
	want := rows(unit(2), unit(2, 0))
	for _, p := range []impl.Prog{secrets(), secrets(when(0, []impl.Step{tell(1, 0)}, nil))} {
		for host := range 3 {
			if leak, sway := leakOf(p, host), swayOf(p, host); !leak.is(want) || !sway.is(want) {
				t.Errorf("%s: of %d %v and %v", written(p), host, leak, sway)
			}
		}
		for _, host := range append(farNumbers(), -2, -3, -62, -63, -64, 3, 4, 5, 6, 7, 8, 31, 32, 33, 63, 65, 66, 128, 256, 257, 1<<31+1, 1<<32, 1<<32+1, math.MinInt+2, math.MaxInt-1) {
			if leak, sway := leakOf(p, host), swayOf(p, host); !leak.is(pair{}) || !sway.is(pair{}) {
				t.Errorf("%s: of %d %v and %v", written(p), host, leak, sway)
			}
		}
	}
}

// P34 to P42: of a program that is not ok no rows are told, though of the rest of it there would be.
func TestRowsOfWrongPrograms(t *testing.T) {
	t.Parallel()
	leaf := []impl.Step{tell(0, 0)}
	for many := 5; many < 8; many++ {
		p := secrets()
		p.Labels = append(p.Labels, slices.Repeat(p.Labels[:1], many-2)...)
		checkNoPairs(t, p, "too many labels")
	}
	for _, many := range []int{10, 63, 64, 65, 1 << 12} {
		p := secrets()
		p.Labels = slices.Repeat(p.Labels[:1], many)
		checkNoPairs(t, p, "far too many labels")
	}
	for _, a := range noLabels() {
		for place := range 3 {
			p := secrets()
			p.Labels = slices.Insert(p.Labels, place, a)
			checkNoPairs(t, p, fmt.Sprintf("the label %v", a))
		}
	}
	checkNoPairs(t, secrets(slices.Repeat(leaf, 5)...), "nine steps")
	checkNoPairs(t, secrets(when(0, nil, slices.Repeat(leaf, 4))), "nine steps")
	checkNoPairs(t, impl.Prog{Steps: leaf}, "a step without variables")
	checkNoPairs(t, labelled([]string{"!", "!012"}, when(0, []impl.Step{when(0, []impl.Step{when(0, leaf, nil)}, nil)}, nil)), "too deep")
	checkNoPairs(t, secrets(when(0, nil, []impl.Step{when(0, nil, []impl.Step{when(0, nil, leaf)})})), "too deep")
	loop := []impl.Step{tell(0, 0), when(0, nil, nil)}
	loop[1].Then = loop
	checkNoPairs(t, labelled([]string{"!", "!012"}, loop...), "steps in themselves")
	other := []impl.Step{when(0, nil, nil), tell(0, 0)}
	other[0].Else = other
	checkNoPairs(t, labelled([]string{"!", "!012"}, other...), "steps in themselves")
	var wide []impl.Step
	for range 3 {
		wide = slices.Repeat([]impl.Step{when(0, wide, wide)}, 1<<12)
	}
	checkNoPairs(t, labelled([]string{"!", "!012"}, wide...), "far too many steps")
}

// P34 to P42: a wrong step stands anywhere, also where it is not done with any row.
func TestRowsOfWrongSteps(t *testing.T) {
	t.Parallel()
	for _, s := range wrongSteps() {
		for _, steps := range [][]impl.Step{
			{s}, {when(0, []impl.Step{s}, nil)}, {when(0, nil, []impl.Step{s})}, {set(1, num(0)), when(1, []impl.Step{s}, nil)}, {set(1, num(9)), when(1, nil, []impl.Step{when(0, nil, []impl.Step{s})})},
		} {
			checkNoPairs(t, secrets(steps...), fmt.Sprint(s))
		}
	}
}

// P34 to P42: each limit may be met exactly, and rows are told.
func TestRowsAtTheLimits(t *testing.T) {
	t.Parallel()
	full := labelled([]string{"!", "!", "!012", "!"},
		when(0, []impl.Step{when(1, []impl.Step{tell(3, 0), set(2, taken(3))}, nil)}, nil),
		tell(2, 1), when(3, nil, nil), set(3, num(0)), tell(3, 2),
	)
	if impl.ProgSize(full) != 8 {
		t.Fatal(impl.ProgSize(full))
	}
	for host, want := range []pair{rows(unit(4), unit(4, 0, 1)), rows(unit(4), unit(4, 2)), {}} {
		if got := leakOf(full, host); !got.is(want) {
			t.Errorf("to %d %v, not %v", host, got, want)
		}
		if got := swayOf(full, host); !got.is(rows(unit(4), unit(4, 0, 1))) {
			t.Errorf("%d by %v", host, got)
		}
	}
	checkPairs(t, full)
}

// P34, P39: nothing is written into a program, nor behind the end of its lists, and both rows are new memory and share none.
func TestRowsAreNewMemory(t *testing.T) {
	t.Parallel()
	mark := impl.Label{Know: 91, Trust: 92}
	some := 0
	for _, p := range leakyProgs()[1500:4000] {
		for host := range 3 {
			for _, of := range []func(impl.Prog, int) pair{leakOf, swayOf} {
				var lists, were [][]impl.Step
				labels, whole := marked(p.Labels, mark)
				q := impl.Prog{Labels: labels, Steps: roomy(p.Steps, &lists)}
				for _, list := range lists {
					were = append(were, deepCopy(list))
				}
				got, again, last := of(q, host), of(q, host), of(q, host)
				want := pair{slices.Clone(got.first), slices.Clone(got.second), got.ok}
				overwrite(again.first, 77)
				if !slices.Equal(again.second, want.second) {
					t.Fatalf("%s: the rows share memory: %v", written(p), again)
				}
				overwrite(last.second, 78)
				if !slices.Equal(last.first, want.first) {
					t.Fatalf("%s: the rows share memory: %v", written(p), last)
				}
				overwrite(again.second, 79)
				overwrite(last.first, 80)
				if !sameProg(p, q) || !slices.EqualFunc(lists, were, sameSteps) || !slices.Equal(whole[len(labels):], []impl.Label{mark, mark, mark}) {
					t.Fatalf("%s was written into", written(p))
				}
				overwrite(labels, mark)
				for _, list := range lists {
					spoil(list)
				}
				if !got.is(want) || !of(p, host).is(want) {
					t.Fatalf("%s: %v by now, not %v", written(p), got, want)
				}
				if got.ok {
					some++
				}
			}
		}
	}
	if some < 1000 {
		t.Errorf("only %d rows are told", some)
	}
}

// P34, P39: what is not ok is not written into either.
func TestRowsOfWhatIsNotOkShareNothing(t *testing.T) {
	t.Parallel()
	for _, s := range wrongSteps() {
		var lists, were [][]impl.Step
		wrong := secrets(when(0, []impl.Step{set(1, num(2)), s}, nil))
		labels, whole := marked(wrong.Labels, impl.Label{Know: 5, Trust: 6})
		p := impl.Prog{Labels: labels, Steps: roomy(wrong.Steps, &lists)}
		wholeWas := slices.Clone(whole)
		for _, list := range lists {
			were = append(were, deepCopy(list))
		}
		checkNoPairs(t, p, fmt.Sprint(s))
		if !slices.Equal(whole, wholeWas) || !slices.EqualFunc(lists, were, sameSteps) {
			t.Fatalf("%v was written into", s)
		}
	}
}

// P34, P39: the same is answered again, whatever was asked in between.
func TestRowsKeepNothing(t *testing.T) {
	t.Parallel()
	progs := leakyProgs()
	var first []pair
	for _, p := range progs {
		for host := range 3 {
			first = append(first, leakOf(p, host), swayOf(p, host))
		}
	}
	for i := len(progs) - 1; i >= 0; i-- {
		checkNoPairs(t, progOf(5), "too many labels")
		for host := range 3 {
			at := i*6 + host*2
			if leak, sway := leakOf(progs[i], host), swayOf(progs[i], host); !leak.is(first[at]) || !sway.is(first[at+1]) {
				t.Fatalf("%s: of %d %v and %v, not %v and %v", written(progs[i]), host, leak, sway, first[at], first[at+1])
			}
		}
	}
}
