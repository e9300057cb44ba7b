package tests

import (
	"fmt"
	"math"
	"slices"
	"strings"
	"testing"

	"loop.example/cloison/impl"
)

// turning is what TurnProg, or TurnVars, answers.
type turning struct {
	prog impl.Prog
	ok   bool
}

func (a turning) is(b turning) bool {
	return a.ok == b.ok && sameProg(a.prog, b.prog)
}

func (a turning) String() string {
	return fmt.Sprintf("%s, %v", written(a.prog), a.ok)
}

// turner is one of both functions.
type turner func(p impl.Prog, row []int) turning

func turnProg(p impl.Prog, row []int) turning {
	got, ok := impl.TurnProg(p, row)
	return turning{got, ok}
}

func turnVars(p impl.Prog, row []int) turning {
	got, ok := impl.TurnVars(p, row)
	return turning{got, ok}
}

// nameRows is all rows of as many names.
func nameRows(many int) [][]int {
	if many == 0 {
		return [][]int{nil}
	}
	var out [][]int
	for _, row := range nameRows(many - 1) {
		for place := range many {
			out = append(out, slices.Insert(slices.Clone(row), place, many-1))
		}
	}
	return out
}

// unturned is the row by which nothing is turned.
func unturned(many int) []int {
	var out []int
	for name := range many {
		out = append(out, name)
	}
	return out
}

// backOf is the row by which all that was turned by another one is turned back.
func backOf(row []int) []int {
	var out []int
	for name := range row {
		out = append(out, slices.Index(row, name))
	}
	return out
}

// behind is the row that does what two do, one behind the other.
func behind(first, second []int) []int {
	var out []int
	for _, name := range first {
		out = append(out, second[name])
	}
	return out
}

// isNames says whether a row is as many names, all there are.
func isNames(row []int, many int) bool {
	for name := range many {
		if !slices.Contains(row, name) {
			return false
		}
	}
	return len(row) == many
}

// noRows is rows that are none of as many names: too short, too long, with a number twice, below 0, or past the end.
func noRows(many int) [][]int {
	var out [][]int
	for size := range 6 {
		if size != many {
			out = append(out, make([]int, size))
			out = append(out, nameRows(size)...)
		}
	}
	for _, row := range rowsOver(many, -1, 0, 1, 2, 3, 4) {
		if !isNames(row, many) {
			out = append(out, row)
		}
	}
	for _, row := range nameRows(many) {
		for place := range many {
			out = append(out, slices.Delete(slices.Clone(row), place, place+1), slices.Insert(slices.Clone(row), place, many), slices.Insert(slices.Clone(row), place, 0))
			for _, n := range farNames(row[place], many) {
				wrong := slices.Clone(row)
				wrong[place] = n
				out = append(out, wrong)
			}
		}
		for _, more := range []int{1, 5, 64, 256, 1 << 12} {
			out = append(out, slices.Concat(row, make([]int, more)))
		}
	}
	return out
}

// farNames is numbers that are no name, many of which would be one if their high bits were lost.
func farNames(name, many int) []int {
	return []int{-1, -many, -name - 1, name - 256, name - many - 1, math.MinInt + name, math.MinInt32, many, many + 1, name + 8, name + 64, name + 256, name + 1<<16, name + 1<<32, 1<<62 + name, math.MaxInt32, math.MaxInt}
}

// newName is the new name of a digit.
func newName(digit byte, row []int) string {
	return fmt.Sprint(row[digit-'0'])
}

// setBy is the set of the new names of its hosts, worked out by its text.
func setBy(hosts string, row []int) string {
	turned := ""
	for i := range len(hosts) {
		turned += newName(hosts[i], row)
	}
	return keep(func(h string) bool { return strings.Contains(turned, h) })
}

func labelBy(a impl.Label, row []int) impl.Label {
	return impl.Label{Know: setNumber(setBy(hostsText(a.Know), row)), Trust: setNumber(setBy(hostsText(a.Trust), row))}
}

func valBy(v impl.Val, vars []int) impl.Val {
	switch v.Kind {
	case 2:
		return taken(vars[v.A])
	case 3:
		return sum(vars[v.A], vars[v.B])
	case 4:
		return alike(vars[v.A], vars[v.B])
	}
	return num(v.A)
}

// stepsBy is steps made anew of hosts, and variables, by their new names, so that what a step has not is nothing.
func stepsBy(steps []impl.Step, hosts, vars []int) []impl.Step {
	var out []impl.Step
	for _, s := range steps {
		v := vars[s.Var]
		switch s.Kind {
		case 1:
			out = append(out, set(v, valBy(s.Val, vars)))
		case 2:
			out = append(out, when(v, stepsBy(s.Then, hosts, vars), stepsBy(s.Else, hosts, vars)))
		case 3:
			out = append(out, tell(v, hosts[s.Host]))
		}
	}
	return out
}

// progBy is a program with hosts by new names.
func progBy(p impl.Prog, row []int) turning {
	out := impl.Prog{Steps: stepsBy(p.Steps, row, unturned(4))}
	for _, a := range p.Labels {
		out.Labels = append(out.Labels, labelBy(a, row))
	}
	return turning{out, true}
}

// varsBy is a program with variables by new names: at each place stands the label of the one that has that name now.
func varsBy(p impl.Prog, row []int) turning {
	out := impl.Prog{Steps: stepsBy(p.Steps, unturned(3), row)}
	for name := range p.Labels {
		out.Labels = append(out.Labels, p.Labels[slices.Index(row, name)])
	}
	return turning{out, true}
}

// movedBy is a list with each at the place of its new name.
func movedBy[T any](list []T, row []int) []T {
	var out []T
	for place := range list {
		out = append(out, list[slices.Index(row, place)])
	}
	return out
}

// textBy is the text of a program turned byte by byte: digits in labels and behind `>` are hosts, letters are variables; labels are moved as they stand.
func textBy(text string, hosts, vars []int) string {
	ahead, steps, _ := strings.Cut(text, "/")
	out := ""
	for _, label := range movedBy(strings.Fields(ahead), vars) {
		know, trust, _ := strings.Cut(label, "!")
		out += setBy(know, hosts) + "!" + setBy(trust, hosts) + " "
	}
	out += "/"
	for i := range len(steps) {
		switch b := steps[i]; {
		case b >= 'a' && b <= 'd':
			out += "abcd"[vars[b-'a'] : vars[b-'a']+1]
		case i > 0 && steps[i-1] == '>':
			out += newName(b, hosts)
		default:
			out += string(b)
		}
	}
	return out
}

// checkTurned holds a program turned by a row against the document's words.
func checkTurned(t *testing.T, p impl.Prog, row []int, of, by turner) impl.Prog {
	t.Helper()
	got, want := of(p, row), by(p, row)
	if !got.is(want) || !impl.ProgOk(got.prog) {
		t.Fatalf("%s by %v: %s, not %s", written(p), row, got, want)
	}
	return got.prog
}

func byHosts(t *testing.T, p impl.Prog, row []int) impl.Prog {
	t.Helper()
	return checkTurned(t, p, row, turnProg, progBy)
}

func byVars(t *testing.T, p impl.Prog, row []int) impl.Prog {
	t.Helper()
	return checkTurned(t, p, row, turnVars, varsBy)
}

// checkNotTurned asks for the one fixed answer; it does not print the program, as that may not end.
func checkNotTurned(t *testing.T, p impl.Prog, row []int, of turner, what string) {
	t.Helper()
	if got := of(p, row); got.ok || len(got.prog.Labels)+len(got.prog.Steps) > 0 {
		t.Fatalf("%s, by %v of %d: %d labels, %d steps, %v", what, row[:min(len(row), 9)], len(row), len(got.prog.Labels), len(got.prog.Steps), got.ok)
	}
}

// unevenShapes is a program of each shape, with labels in which each host, and each variable, is another.
func unevenShapes(end int) []impl.Prog {
	out := okShapes(end)
	for i := range out {
		out[i].Labels = labelled([]string{"01!12", "12!0", "0!02", "012!2"}).Labels
	}
	return out
}

// turnedProgs is programs of all kinds and shapes.
func turnedProgs() []impl.Prog {
	c := chance(21)
	out := slices.Concat(leakyProgs(), unevenShapes(6))
	for range 500 {
		p := c.ringed()
		out = append(out, p, mended(p))
	}
	return out
}

// rowFor is some row of as many names, each by turns; programs come in turns, too, so that these must not go on together.
func rowFor(i, many int) []int {
	rows := nameRows(many)
	return rows[(i+i/24)%len(rows)]
}

// P50
func TestSetHasJustTheNewNamesOfItsHosts(t *testing.T) {
	t.Parallel()
	rows := nameRows(3)
	if len(rows) != 6 {
		t.Fatal(rows)
	}
	for _, row := range rows {
		for _, hosts := range setTexts() {
			s := setNumber(hosts)
			got := impl.TurnSet(s, row)
			if got != setNumber(setBy(hosts, row)) {
				t.Errorf("%q by %v: %q", hosts, row, hostsText(got))
			}
			for host := range 3 {
				if isIn(host, s) != isIn(row[host], got) {
					t.Errorf("%q by %v: %q", hosts, row, hostsText(got))
				}
			}
			if back := impl.TurnSet(got, backOf(row)); back != s {
				t.Errorf("%q by %v, and back: %q", hosts, row, hostsText(back))
			}
			for _, other := range rows {
				if twice := impl.TurnSet(got, other); twice != impl.TurnSet(s, behind(row, other)) {
					t.Errorf("%q by %v, then %v: %q", hosts, row, other, hostsText(twice))
				}
			}
		}
	}
}

// P50: written out, so that nothing is leaned on; a row that goes round has another one that turns back.
func TestSetsOneByOne(t *testing.T) {
	t.Parallel()
	for _, c := range []struct {
		row  []int
		want [8]int
	}{
		{[]int{0, 1, 2}, [8]int{0, 1, 2, 3, 4, 5, 6, 7}},
		{[]int{1, 0, 2}, [8]int{0, 2, 1, 3, 4, 6, 5, 7}},
		{[]int{2, 1, 0}, [8]int{0, 4, 2, 6, 1, 5, 3, 7}},
		{[]int{0, 2, 1}, [8]int{0, 1, 4, 5, 2, 3, 6, 7}},
		{[]int{1, 2, 0}, [8]int{0, 2, 4, 6, 1, 3, 5, 7}},
		{[]int{2, 0, 1}, [8]int{0, 4, 1, 5, 2, 6, 3, 7}},
	} {
		for s, want := range c.want {
			if got := impl.TurnSet(s, c.row); got != want {
				t.Errorf("%d by %v: %d, not %d", s, c.row, got, want)
			}
		}
	}
}

// P50: what is no set, and what is no row, is nobody.
func TestSetsThatAreNotTurned(t *testing.T) {
	t.Parallel()
	for _, s := range noSets() {
		for _, row := range nameRows(3) {
			if got := impl.TurnSet(s, row); got != 0 {
				t.Errorf("%d by %v: %d", s, row, got)
			}
		}
		if got := impl.TurnSet(s, []int{0, 0, 1}); got != 0 {
			t.Errorf("%d by no row: %d", s, got)
		}
	}
	for _, row := range noRows(3) {
		for s := range 8 {
			if got := impl.TurnSet(s, row); got != 0 {
				t.Fatalf("%d by %v of %d: %d", s, row[:min(len(row), 9)], len(row), got)
			}
		}
	}
}

// P50: nothing is written into a row, and what is behind its end is not of it.
func TestRowsOfSetsAreNotWrittenInto(t *testing.T) {
	t.Parallel()
	for _, names := range nameRows(3) {
		// With the mark the row would be one of four names.
		row, whole := marked(names, 3)
		was := slices.Clone(whole)
		for s := -1; s < 9; s++ {
			if got, want := impl.TurnSet(s, row), impl.TurnSet(s, names); got != want || !slices.Equal(whole, was) {
				t.Fatalf("%d by %v: %d, not %d; the row is %v", s, names, got, want, whole)
			}
			if got := impl.TurnSet(s, row[:2]) + impl.TurnSet(s, whole[:4]); got != 0 || !slices.Equal(whole, was) {
				t.Fatalf("%d by %v: %d; the row is %v", s, names, got, whole)
			}
		}
	}
}

// turnedLabel is a label as TurnProg leaves it.
func turnedLabel(t *testing.T, a impl.Label, row []int) impl.Label {
	t.Helper()
	got := turnProg(impl.Prog{Labels: []impl.Label{a}}, row)
	sets := impl.Label{Know: impl.TurnSet(a.Know, row), Trust: impl.TurnSet(a.Trust, row)}
	if !got.ok || len(got.prog.Labels) != 1 || got.prog.Labels[0] != sets || sets != labelBy(a, row) {
		t.Fatalf("%v by %v: %s, and %v", a, row, got, sets)
	}
	return sets
}

// P51
func TestTurningGoesWithWhatMayBecomeWhat(t *testing.T) {
	t.Parallel()
	for _, row := range nameRows(3) {
		for _, a := range allLabels() {
			for _, b := range allLabels() {
				x, y := turnedLabel(t, a.label, row), turnedLabel(t, b.label, row)
				if impl.LabelFlows(x, y) != impl.LabelFlows(a.label, b.label) {
					t.Errorf("%s and %s by %v: %v", a.text(), b.text(), row, impl.LabelFlows(x, y))
				}
				if got := impl.LabelBoth(x, y); got != turnedLabel(t, impl.LabelBoth(a.label, b.label), row) {
					t.Errorf("%s and %s by %v: both are %v", a.text(), b.text(), row, got)
				}
				if got := impl.LabelEither(x, y); got != turnedLabel(t, impl.LabelEither(a.label, b.label), row) {
					t.Errorf("%s and %s by %v: either is %v", a.text(), b.text(), row, got)
				}
			}
		}
	}
}

// P52: turned by each row of hosts, back, and by one row behind the other.
func TestProgramTurnedAndTurnedBack(t *testing.T) {
	t.Parallel()
	rows := nameRows(3)
	for i, p := range turnedProgs() {
		for _, row := range rows {
			q := byHosts(t, p, row)
			if back := turnProg(q, backOf(row)); !back.is(turning{p, true}) {
				t.Fatalf("%s by %v, and back: %s", written(p), row, back)
			}
			other := rows[i%6]
			if got, want := turnProg(q, other), turnProg(p, behind(row, other)); !got.is(want) {
				t.Fatalf("%s by %v, then %v: %s, not %s", written(p), row, other, got, want)
			}
		}
	}
}

// P56: turned by each row of variables, back, and by one row behind the other.
func TestVariablesTurnedAndTurnedBack(t *testing.T) {
	t.Parallel()
	for i, p := range turnedProgs() {
		rows := nameRows(len(p.Labels))
		for _, row := range rows {
			q := byVars(t, p, row)
			if back := turnVars(q, backOf(row)); !back.is(turning{p, true}) {
				t.Fatalf("%s by %v, and back: %s", written(p), row, back)
			}
			other := rows[i%len(rows)]
			if got, want := turnVars(q, other), turnVars(p, behind(row, other)); !got.is(want) {
				t.Fatalf("%s by %v, then %v: %s, not %s", written(p), row, other, got, want)
			}
		}
	}
}

// P52, P56: by the texts, byte by byte; hosts and variables are turned in either order.
func TestTextsOfTurnedPrograms(t *testing.T) {
	t.Parallel()
	for i, p := range turnedProgs() {
		hosts, vars := rowFor(i, 3), rowFor(i/6, len(p.Labels))
		one, two := byHosts(t, byVars(t, p, vars), hosts), byVars(t, byHosts(t, p, hosts), vars)
		if !sameProg(one, two) {
			t.Fatalf("%s by %v and %v: %s, not %s", written(p), hosts, vars, written(one), written(two))
		}
		if got, want := impl.ProgText(one), textBy(impl.ProgText(p), hosts, vars); got != want {
			t.Fatalf("%s by %v and %v: %s, not %s", impl.ProgText(p), hosts, vars, got, want)
		}
	}
}

// P52, P56, P58: each step, alone and in others, by each row of hosts and of variables.
func TestEachStepTurned(t *testing.T) {
	t.Parallel()
	labels := []string{"01!12", "12!0", "0!02", "012!2"}
	for vars := 1; vars < 5; vars++ {
		for text, s := range plainSteps(vars) {
			for wrap, steps := range map[string][]impl.Step{
				"%s": {s}, "a?(%s)()": {when(0, []impl.Step{s}, nil)}, "a?()(a>1;%s)": {when(0, nil, []impl.Step{tell(0, 1), s})}, "a?()(a?(%s)())": {when(0, nil, []impl.Step{when(0, []impl.Step{s}, nil)})},
			} {
				p := labelled(labels[:vars], steps...)
				was := strings.Join(labels[:vars], " ") + " / " + fmt.Sprintf(wrap, text)
				for _, row := range nameRows(3) {
					if got := impl.ProgText(byHosts(t, p, row)); got != textBy(was, row, unturned(vars)) {
						t.Fatalf("%s by %v: %s", was, row, got)
					}
				}
				for _, row := range nameRows(vars) {
					if got := impl.ProgText(byVars(t, p, row)); got != textBy(was, unturned(3), row) {
						t.Fatalf("%s by %v: %s", was, row, got)
					}
				}
			}
		}
	}
}

// handTurned is a row, and the text of a program turned by it.
type handTurned struct {
	row  []int
	want string
}

func checkHandTurned(t *testing.T, p impl.Prog, of turner, cases []handTurned) {
	t.Helper()
	for _, c := range cases {
		got := of(p, c.row)
		if text := impl.ProgText(got.prog); !got.ok || text != c.want {
			t.Errorf("%s by %v: %q, %v, not %q", written(p), c.row, text, got.ok, c.want)
		}
	}
}

// P52, P56, P58: written out: steps in steps in steps, each kind of value, what is told to each host, and a number that is also a name.
func TestTurnedProgramsOneByOne(t *testing.T) {
	t.Parallel()
	deep := []impl.Step{when(0, []impl.Step{tell(1, 0), when(1, nil, []impl.Step{tell(2, 1), set(0, num(2))})}, []impl.Step{tell(0, 2), set(1, taken(2))}), set(2, sum(0, 1))}
	p := labelled([]string{"0!12", "12!", "!02"}, deep...)
	checkHandTurned(t, p, turnProg, []handTurned{
		{[]int{0, 1, 2}, "0!12 12! !02 / a?(b>0;b?()(c>1;a:2;))(a>2;b:c;)c:a+b;"},
		{[]int{1, 2, 0}, "1!02 02! !01 / a?(b>1;b?()(c>2;a:2;))(a>0;b:c;)c:a+b;"},
		{[]int{2, 0, 1}, "2!01 01! !12 / a?(b>2;b?()(c>0;a:2;))(a>1;b:c;)c:a+b;"},
		{[]int{1, 0, 2}, "1!02 02! !12 / a?(b>1;b?()(c>0;a:2;))(a>2;b:c;)c:a+b;"},
		{[]int{0, 2, 1}, "0!12 12! !01 / a?(b>0;b?()(c>2;a:2;))(a>1;b:c;)c:a+b;"},
		{[]int{2, 1, 0}, "2!01 01! !02 / a?(b>2;b?()(c>1;a:2;))(a>0;b:c;)c:a+b;"},
	})
	checkHandTurned(t, p, turnVars, []handTurned{
		{[]int{0, 1, 2}, "0!12 12! !02 / a?(b>0;b?()(c>1;a:2;))(a>2;b:c;)c:a+b;"},
		{[]int{1, 2, 0}, "!02 0!12 12! / b?(c>0;c?()(a>1;b:2;))(b>2;c:a;)a:b+c;"},
		{[]int{2, 0, 1}, "12! !02 0!12 / c?(a>0;a?()(b>1;c:2;))(c>2;a:b;)b:c+a;"},
		{[]int{1, 0, 2}, "12! 0!12 !02 / b?(a>0;a?()(c>1;b:2;))(b>2;a:c;)c:b+a;"},
		{[]int{0, 2, 1}, "0!12 !02 12! / a?(c>0;c?()(b>1;a:2;))(a>2;c:b;)b:a+c;"},
		{[]int{2, 1, 0}, "!02 12! 0!12 / c?(b>0;b?()(a>1;c:2;))(c>2;b:a;)a:c+b;"},
	})
	q := labelled([]string{"0!", "1!", "2!", "!"}, set(0, num(0)), set(1, num(3)), set(2, taken(0)), set(3, sum(3, 0)), set(0, alike(0, 1)), when(1, nil, nil), tell(0, 0))
	checkHandTurned(t, q, turnVars, []handTurned{
		{[]int{3, 2, 1, 0}, "! 2! 1! 0! / d:0;c:3;b:d;a:a+d;d:d=c;c?()()d>0;"},
		{[]int{1, 2, 3, 0}, "! 0! 1! 2! / b:0;c:3;d:b;a:a+b;b:b=c;c?()()b>0;"},
		{[]int{0, 2, 3, 1}, "0! ! 1! 2! / a:0;c:3;d:a;b:b+a;a:a=c;c?()()a>0;"},
	})
	checkHandTurned(t, q, turnProg, []handTurned{
		{[]int{2, 1, 0}, "2! 1! 0! ! / a:0;b:3;c:a;d:d+a;a:a=b;b?()()a>2;"},
		{[]int{1, 2, 0}, "1! 2! 0! ! / a:0;b:3;c:a;d:d+a;a:a=b;b?()()a>1;"},
	})
	for size, want := range []string{"/ ", "012! / a:9;", "012! 012! / a:9;", "012! 012! 012! / a:9;", "012! 012! 012! 012! / a:9;"} {
		p := labelled(slices.Repeat([]string{"012!"}, size), set(0, num(9)))
		p.Steps = p.Steps[:min(size, 1)]
		checkHandTurned(t, p, turnProg, []handTurned{{[]int{1, 2, 0}, want}, {[]int{0, 2, 1}, want}})
		checkHandTurned(t, p, turnVars, []handTurned{{unturned(size), want}})
	}
}

// P53: the same step, the labels and sets of steps by new names, and what the host by its new name knows and trusts.
func TestOfATurnedProgramTheSameStepIsTold(t *testing.T) {
	t.Parallel()
	seen := map[bool]int{}
	for i, p := range turnedProgs() {
		n, bad := impl.TypeWhy(p)
		seen[bad]++
		for _, row := range [][]int{rowFor(i, 3), rowFor(i+1, 3), rowFor(i+3, 3)} {
			q := byHosts(t, p, row)
			if m, worse := impl.TypeWhy(q); m != n || worse != bad || impl.TypeOk(q) != impl.TypeOk(p) {
				t.Fatalf("%s: %d, %v, but by %v %d, %v", written(p), n, bad, row, m, worse)
			}
			byNew := func(a impl.Label) impl.Label { return labelBy(a, row) }
			var at []impl.Label
			for _, a := range impl.TypeAt(p) {
				at = append(at, byNew(a))
			}
			var sets []int
			for _, s := range impl.TypeSets(p) {
				sets = append(sets, impl.TurnSet(s, row))
			}
			if !slices.Equal(impl.TypeAt(q), at) || !slices.Equal(impl.TypeSets(q), sets) {
				t.Fatalf("%s by %v: %v, not %v; %v, not %v", written(p), row, impl.TypeAt(q), at, impl.TypeSets(q), sets)
			}
			for host, name := range row {
				if !slices.Equal(impl.TypeKnows(q, name), impl.TypeKnows(p, host)) || !slices.Equal(impl.TypeTrusts(q, name), impl.TypeTrusts(p, host)) {
					t.Fatalf("%s by %v: %d knows, or trusts, else", written(p), row, name)
				}
			}
		}
	}
	if seen[true] < 1000 || seen[false] < 1000 {
		t.Error(seen)
	}
}

// P54
func TestATurnedProgramTellsEachHostByItsNewNameTheSame(t *testing.T) {
	t.Parallel()
	c := chance(22)
	toldOf := map[int]int{}
	for i, p := range turnedProgs() {
		for k := range 3 {
			row, nums := rowFor(i+k, 3), c.nums(len(p.Labels))
			q := byHosts(t, p, row)
			a, b := run(t, p, nums), run(t, q, nums)
			if !slices.Equal(a.Nums, b.Nums) || !slices.Equal(a.Writes, b.Writes) || len(a.Said) != len(b.Said) {
				t.Fatalf("%s of %v by %v: %v, then %v", written(p), nums, row, a, b)
			}
			for n, s := range a.Said {
				if b.Said[n] != (impl.Said{Host: row[s.Host], Num: s.Num}) {
					t.Fatalf("%s of %v by %v: %v, then %v", written(p), nums, row, a, b)
				}
				toldOf[s.Host*10+row[s.Host]]++
			}
			for host, name := range row {
				if !slices.Equal(impl.RunTo(a, host), impl.RunTo(b, name)) {
					t.Fatalf("%s of %v by %v: %d is told %v, then %v", written(p), nums, row, host, impl.RunTo(a, host), impl.RunTo(b, name))
				}
				if trusts := impl.TypeTrusts(q, name); !slices.Equal(impl.RunSets(a, impl.TypeTrusts(p, host)), impl.RunSets(b, trusts)) {
					t.Fatalf("%s of %v by %v: what %d trusts is set to else", written(p), nums, row, host)
				}
			}
		}
	}
	for _, names := range []int{0, 1, 2, 10, 11, 12, 20, 21, 22} {
		if toldOf[names] < 300 {
			t.Errorf("too seldom: %v", toldOf)
		}
	}
}

// P55
func TestOfATurnedProgramTheSameRowsAreTold(t *testing.T) {
	t.Parallel()
	seen := map[string]int{}
	for i, p := range turnedProgs() {
		for _, row := range [][]int{rowFor(i, 3), rowFor(i+2, 3)} {
			q := byHosts(t, p, row)
			for host, name := range row {
				leak, sway := leakOf(p, host), swayOf(p, host)
				seen[fmt.Sprint("leak ", leak.ok, ", same name ", host == name)]++
				seen[fmt.Sprint("sway ", sway.ok, ", same name ", host == name)]++
				if got := leakOf(q, name); !got.is(leak) {
					t.Fatalf("%s by %v: to %d %v leak, then %v", written(p), row, host, leak, got)
				}
				if got := swayOf(q, name); !got.is(sway) {
					t.Fatalf("%s by %v: what %d trusts is swayed by %v, then %v", written(p), row, host, sway, got)
				}
			}
		}
	}
	for _, what := range []string{"leak true", "leak false", "sway true", "sway false"} {
		for _, same := range []string{", same name true", ", same name false"} {
			if seen[what+same] < 300 {
				t.Errorf("%s%s: too few of %v", what, same, seen)
			}
		}
	}
}

// P57
func TestWithOtherNamesOfVariablesEachHasTheNumberItHad(t *testing.T) {
	t.Parallel()
	c := chance(23)
	others := 0
	for i, p := range turnedProgs() {
		for k := range 4 {
			row, nums := rowFor(i+5*k, len(p.Labels)), c.nums(len(p.Labels))
			q := byVars(t, p, row)
			a, b := run(t, p, nums), run(t, q, movedBy(nums, row))
			if !slices.Equal(a.Said, b.Said) || len(a.Nums) != len(b.Nums) || len(a.Writes) != len(b.Writes) {
				t.Fatalf("%s of %v by %v: %v, then %v", written(p), nums, row, a, b)
			}
			for v, n := range a.Nums {
				if b.Nums[row[v]] != n {
					t.Fatalf("%s of %v by %v: %v, then %v", written(p), nums, row, a, b)
				}
			}
			for n, w := range a.Writes {
				if b.Writes[n] != (impl.Write{Var: row[w.Var], Num: w.Num}) {
					t.Fatalf("%s of %v by %v: %v, then %v", written(p), nums, row, a, b)
				}
			}
			if !slices.Equal(a.Nums, b.Nums) && len(a.Said) > 0 && len(a.Writes) > 0 {
				others++
			}
			for host := range 3 {
				if !slices.Equal(impl.RunTo(a, host), impl.RunTo(b, host)) {
					t.Fatalf("%s of %v by %v: %d is told else", written(p), nums, row, host)
				}
			}
		}
	}
	if others < 1000 {
		t.Errorf("only %d have other numbers", others)
	}
}

// P57: each variable keeps its label, so that the same step is told, the same is known, and the same leaks or not.
func TestWithOtherNamesOfVariablesEachHasItsLabel(t *testing.T) {
	t.Parallel()
	for i, p := range turnedProgs() {
		row := rowFor(i, len(p.Labels))
		q := byVars(t, p, row)
		for v, a := range p.Labels {
			if q.Labels[row[v]] != a {
				t.Fatalf("%s by %v: %s", written(p), row, written(q))
			}
		}
		n, bad := impl.TypeWhy(p)
		if m, worse := impl.TypeWhy(q); m != n || worse != bad {
			t.Fatalf("%s: %d, %v, but by %v %d, %v", written(p), n, bad, row, m, worse)
		}
		if !slices.Equal(impl.TypeAt(p), impl.TypeAt(q)) || !slices.Equal(impl.TypeSets(p), impl.TypeSets(q)) {
			t.Fatalf("%s by %v: %v, %v", written(p), row, impl.TypeAt(q), impl.TypeSets(q))
		}
		for host := range 3 {
			if !slices.Equal(movedBy(impl.TypeKnows(p, host), row), impl.TypeKnows(q, host)) || !slices.Equal(movedBy(impl.TypeTrusts(p, host), row), impl.TypeTrusts(q, host)) {
				t.Fatalf("%s by %v: %d knows, or trusts, else", written(p), row, host)
			}
			// Which rows are told hangs on the names of variables, whether any are does not.
			if leakOf(p, host).ok != leakOf(q, host).ok || swayOf(p, host).ok != swayOf(q, host).ok {
				t.Fatalf("%s by %v: of %d %v, %v, then %v, %v", written(p), row, host, leakOf(p, host), swayOf(p, host), leakOf(q, host), swayOf(q, host))
			}
		}
	}
}

// P53, P57: labels that are found are those of the program turned.
func TestFoundLabelsOfTurnedPrograms(t *testing.T) {
	t.Parallel()
	seen := map[bool]int{}
	for i, x := range openProgs() {
		if i%4 != 0 {
			continue
		}
		found := inferOf(x.prog, x.free)
		seen[found.ok]++
		hosts, vars := rowFor(i/4, 3), rowFor(i/8, len(x.free))
		byHost := inferOf(byHosts(t, x.prog, hosts), x.free)
		byVar := inferOf(byVars(t, x.prog, vars), movedBy(x.free, vars))
		if !found.ok {
			if byHost.ok || byVar.ok {
				t.Fatalf("%s, free %v, by %v and %v: %v, %v", written(x.prog), x.free, hosts, vars, byHost, byVar)
			}
			continue
		}
		if !byHost.is(inferred(turnProg(found.prog, hosts))) || !byVar.is(inferred(turnVars(found.prog, vars))) {
			t.Fatalf("%s, free %v, by %v and %v: %v, %v", written(x.prog), x.free, hosts, vars, byHost, byVar)
		}
	}
	if seen[true] < 1000 || seen[false] < 1000 {
		t.Error(seen)
	}
}

// P58
func TestTurnedByNothingAProgramStays(t *testing.T) {
	t.Parallel()
	for _, p := range slices.Concat(turnedProgs(), unevenShapes(8)) {
		for _, got := range []turning{turnProg(p, unturned(3)), turnVars(p, unturned(len(p.Labels)))} {
			if !got.is(turning{p, true}) || impl.ProgText(got.prog) != impl.ProgText(p) {
				t.Fatalf("%s: %s", written(p), got)
			}
		}
	}
	for _, s := range setTexts() {
		if got := impl.TurnSet(setNumber(s), unturned(3)); got != setNumber(s) {
			t.Errorf("%q: %d", s, got)
		}
	}
}

// P52, P56, P58: without steps, or variables, with one variable and with four, and as many steps as there may be.
func TestTurnedProgramsOfNothingAndAtTheLimits(t *testing.T) {
	t.Parallel()
	for _, p := range []impl.Prog{{}, {Labels: []impl.Label{}, Steps: []impl.Step{}}} {
		for _, row := range nameRows(3) {
			if got := turnProg(p, row); !got.is(turning{impl.Prog{}, true}) {
				t.Errorf("by %v: %s", row, got)
			}
			checkNotTurned(t, p, row, turnVars, "no variables")
		}
		for _, row := range [][]int{nil, {}} {
			if got := turnVars(p, row); !got.is(turning{impl.Prog{}, true}) {
				t.Errorf("by %v: %s", row, got)
			}
			checkNotTurned(t, p, row, turnProg, "no hosts")
		}
	}
	for vars := range 5 {
		for i := range allLabels() {
			var p impl.Prog
			for v := range vars {
				p.Labels = append(p.Labels, allLabels()[(i+v*21)%64].label)
			}
			for _, row := range nameRows(3) {
				byHosts(t, p, row)
			}
			for _, row := range nameRows(vars) {
				byVars(t, p, row)
			}
		}
	}
	deep := when(2, []impl.Step{when(3, nil, []impl.Step{set(0, num(9))})}, nil)
	for _, steps := range [][]impl.Step{
		{deep, tell(3, 1), deep, tell(0, 2)}, {when(1, []impl.Step{deep.Then[0], deep.Then[0], deep.Then[0]}, []impl.Step{tell(1, 0)})},
		slices.Repeat([]impl.Step{set(3, sum(1, 2))}, 8), {when(0, slices.Repeat([]impl.Step{tell(2, 1)}, 3), slices.Repeat([]impl.Step{set(1, alike(3, 0))}, 4))},
	} {
		p := labelled([]string{"01!12", "12!0", "0!02", "012!2"}, steps...)
		if size := impl.ProgSize(p); size != 8 {
			t.Fatalf("%s: %d", written(p), size)
		}
		for _, row := range nameRows(3) {
			byHosts(t, p, row)
		}
		for _, row := range nameRows(4) {
			byVars(t, p, row)
		}
	}
}

// P52, P56: a row that is none turns no program, also if all that is in it stays unused.
func TestRowsThatAreNoneTurnNothing(t *testing.T) {
	t.Parallel()
	for vars := range 5 {
		labels := []string{"01!12", "12!0", "0!02", "012!2"}[:vars]
		progs := []impl.Prog{labelled(labels)}
		if vars > 0 {
			progs = append(progs, labelled(labels, set(0, num(7)), tell(0, 0), when(vars-1, nil, []impl.Step{tell(vars-1, 2)})))
		}
		for _, p := range progs {
			for _, row := range noRows(3) {
				checkNotTurned(t, p, row, turnProg, written(p))
			}
			for _, row := range noRows(vars) {
				checkNotTurned(t, p, row, turnVars, written(p))
			}
			// What is behind the end of a row is not of it.
			for _, row := range nameRows(4) {
				if vars < 4 && isNames(row[:vars], vars) {
					byVars(t, p, row[:vars])
				}
				if isNames(row[:3], 3) {
					byHosts(t, p, row[:3])
					checkNotTurned(t, p, row[:2], turnProg, written(p))
				}
				if vars > 0 {
					checkNotTurned(t, p, row[:vars-1], turnVars, written(p))
				}
			}
		}
	}
}

// checkNeverTurned asks for the one fixed answer with all rows of hosts, and of as many variables as there are labels, and others.
func checkNeverTurned(t *testing.T, p impl.Prog, what string) {
	t.Helper()
	for _, row := range slices.Concat(nameRows(3), [][]int{nil, {0, 0, 0}, {0, 1}}) {
		checkNotTurned(t, p, row, turnProg, what)
	}
	rows := [][]int{nil, {0}, {1, 0}, {2, 1, 0}, {0, 1, 2, 3}, {4, 3, 2, 1, 0}, unturned(len(p.Labels))}
	if many := len(p.Labels); many < 5 {
		rows = append(rows, nameRows(many)...)
	}
	for _, row := range rows {
		checkNotTurned(t, p, row, turnVars, what)
	}
}

// P52, P56
func TestWrongProgramsAreNotTurned(t *testing.T) {
	t.Parallel()
	leaf := []impl.Step{set(0, num(1))}
	for many := 5; many < 8; many++ {
		checkNeverTurned(t, progOf(many), "too many labels")
		checkNeverTurned(t, progOf(many, set(many-1, taken(0))), "too many labels")
	}
	for _, many := range []int{63, 64, 65, 1 << 12} {
		checkNeverTurned(t, progOf(many), "far too many labels")
	}
	for _, a := range noLabels() {
		for place := range 3 {
			p := progOf(3, set(place, num(1)), set((place+1)%3, taken(place)))
			p.Labels[place] = a
			checkNeverTurned(t, p, fmt.Sprintf("the label %v", a))
		}
	}
	checkNeverTurned(t, progOf(1, slices.Repeat(leaf, 9)...), "nine steps")
	checkNeverTurned(t, progOf(1, when(0, nil, slices.Repeat(leaf, 8))), "nine steps")
	checkNeverTurned(t, impl.Prog{Steps: leaf}, "a step without variables")
	checkNeverTurned(t, progOf(1, when(0, []impl.Step{when(0, []impl.Step{when(0, leaf, nil)}, nil)}, nil)), "too deep")
	checkNeverTurned(t, progOf(1, when(0, nil, []impl.Step{when(0, nil, []impl.Step{when(0, nil, leaf)})})), "too deep")
	loop := []impl.Step{set(0, num(0)), when(0, nil, nil)}
	loop[1].Then = loop
	checkNeverTurned(t, progOf(1, loop...), "steps in themselves")
	other := []impl.Step{when(0, nil, nil), set(0, num(0))}
	other[0].Else = other
	checkNeverTurned(t, progOf(1, other...), "steps in themselves")
	var wide []impl.Step
	for range 3 {
		wide = slices.Repeat([]impl.Step{when(0, wide, wide)}, 1<<12)
	}
	checkNeverTurned(t, progOf(1, wide...), "far too many steps")
}

// P52, P56: a wrong step stands anywhere.
func TestWrongStepsAreNotTurned(t *testing.T) {
	t.Parallel()
	for _, s := range wrongSteps() {
		for _, steps := range [][]impl.Step{
			{s}, {set(0, num(1)), s}, {s, set(0, taken(1))}, {when(0, []impl.Step{s}, nil)}, {when(1, nil, []impl.Step{set(0, num(1)), s})}, {when(0, nil, []impl.Step{when(1, []impl.Step{s}, nil)})},
		} {
			checkNeverTurned(t, labelled([]string{"012!012", "12!0"}, steps...), fmt.Sprint(s))
		}
	}
}

// checkNewMemory asks twice, spoils one answer, then all that came in, and looks whether anything shared that.
func checkNewMemory(t *testing.T, p impl.Prog, names []int, of turner) {
	t.Helper()
	mark := impl.Label{Know: 91, Trust: 92}
	var lists, were [][]impl.Step
	labels, whole := marked(p.Labels, mark)
	row, wholeRow := marked(names, 55)
	q := impl.Prog{Labels: labels, Steps: roomy(p.Steps, &lists)}
	for _, list := range lists {
		were = append(were, deepCopy(list))
	}
	got, again := of(q, row), of(q, row)
	want := turning{impl.Prog{Labels: slices.Clone(got.prog.Labels), Steps: deepCopy(got.prog.Steps)}, got.ok}
	spoilProg(again.prog)
	if !sameProg(p, q) || !slices.EqualFunc(lists, were, sameSteps) || !slices.Equal(whole[len(labels):], []impl.Label{mark, mark, mark}) {
		t.Fatalf("%s was written into", written(p))
	}
	if !slices.Equal(row, names) || !slices.Equal(wholeRow[len(row):], []int{55, 55, 55}) {
		t.Fatalf("%s: %v was written into: %v", written(p), names, wholeRow)
	}
	overwrite(labels, mark)
	overwrite(row, 66)
	for _, list := range lists {
		spoil(list)
	}
	if !got.is(want) || !of(p, names).is(want) {
		t.Fatalf("%s by %v: %v by now, not %v", written(p), names, got, want)
	}
}

// P52, P56, P58: nothing is written into a program, nor into a row, nor behind the end of them, and the program that is turned is new memory, also if nothing is turned.
func TestTurnedProgramsAreNewMemory(t *testing.T) {
	t.Parallel()
	for i, p := range turnedProgs() {
		for _, row := range [][]int{rowFor(i, 3), unturned(3), {0, 1, 1}} {
			checkNewMemory(t, p, row, turnProg)
		}
		vars := len(p.Labels)
		for _, row := range [][]int{rowFor(i, vars), unturned(vars), unturned(vars + 1)} {
			checkNewMemory(t, p, row, turnVars)
		}
	}
}

// checkNoListsShared overwrites each list of an answer, with what is behind its end, and looks at all others.
func checkNoListsShared(t *testing.T, p impl.Prog, row []int, of turner) {
	t.Helper()
	for place := range stepLists(of(p, row).prog.Steps) {
		got := of(p, row)
		labels := slices.Clone(got.prog.Labels[:cap(got.prog.Labels)])
		lists := stepLists(got.prog.Steps)
		var were [][]flatStep
		for _, list := range lists {
			were = append(were, flatAll(list))
		}
		overwrite(lists[place], markStep(0))
		for other, list := range lists {
			if other != place && !slices.Equal(flatAll(list), were[other]) {
				t.Errorf("%s by %v: %d shares memory with %d", written(p), row, place, other)
			}
		}
		if !slices.Equal(got.prog.Labels[:cap(got.prog.Labels)], labels) {
			t.Errorf("%s by %v: labels share memory", written(p), row)
		}
	}
}

// P52, P56, P58: no two lists of a turned program share any memory, also where those of the one that came in do.
func TestTurnedProgramsShareNoLists(t *testing.T) {
	t.Parallel()
	leaf := make([]impl.Step, 1, 4)
	leaf[0] = set(0, num(5))
	empty := make([]impl.Step, 0, 4)
	for _, steps := range [][]impl.Step{
		leaf, empty, {when(0, leaf, leaf)}, {when(0, empty, empty)}, {when(0, leaf[:1:2], leaf[:0])}, {when(0, leaf[1:1], leaf), when(0, leaf, leaf)},
		{when(0, []impl.Step{when(0, leaf, leaf)}, leaf)}, {when(0, []impl.Step{when(0, leaf, empty)}, []impl.Step{when(0, empty, leaf)})},
	} {
		p := progOf(2, steps...)
		for _, row := range nameRows(3) {
			checkNoListsShared(t, p, row, turnProg)
		}
		for _, row := range nameRows(2) {
			checkNoListsShared(t, p, row, turnVars)
		}
		if leaf[0].Val.A != 5 || leaf[:4][1].Kind != 0 || leaf[:4][3].Kind != 0 || empty[:4][0].Kind != 0 {
			t.Fatal("the lists that came in are shared")
		}
	}
}

// P52, P56: what is not ok is not written into either.
func TestWhatIsNotTurnedIsNotWrittenInto(t *testing.T) {
	t.Parallel()
	for _, s := range wrongSteps() {
		var lists, were [][]impl.Step
		wrong := labelled([]string{"0!", "12!0"}, set(0, num(2)), tell(1, 0), when(1, []impl.Step{set(0, num(2)), s}, nil))
		labels, whole := marked(wrong.Labels, impl.Label{Know: 5, Trust: 6})
		row, wholeRow := marked([]int{2, 0, 1}, 3)
		p := impl.Prog{Labels: labels, Steps: roomy(wrong.Steps, &lists)}
		wholeWas, wholeRowWas := slices.Clone(whole), slices.Clone(wholeRow)
		for _, list := range lists {
			were = append(were, deepCopy(list))
		}
		checkNotTurned(t, p, row, turnProg, fmt.Sprint(s))
		checkNotTurned(t, p, row[1:], turnVars, fmt.Sprint(s))
		if !slices.Equal(whole, wholeWas) || !slices.Equal(wholeRow, wholeRowWas) || !slices.EqualFunc(lists, were, sameSteps) {
			t.Fatalf("%v was written into", s)
		}
	}
}

// P52, P56, P58: the same is answered again, whatever was asked in between.
func TestTurningKeepsNothing(t *testing.T) {
	t.Parallel()
	progs := turnedProgs()
	var hosts, vars []turning
	for i, p := range progs {
		hosts = append(hosts, turnProg(p, rowFor(i, 3)))
		vars = append(vars, turnVars(p, rowFor(i, len(p.Labels))))
	}
	for i := len(progs) - 1; i >= 0; i-- {
		checkNotTurned(t, progOf(5), unturned(3), turnProg, "too many labels")
		checkNotTurned(t, progs[i], []int{1, 1, 0}, turnProg, "no row")
		if got := turnProg(progs[i], rowFor(i, 3)); !got.is(hosts[i]) {
			t.Fatalf("%s: %s, not %s", written(progs[i]), got, hosts[i])
		}
		if got := turnVars(progs[i], rowFor(i, len(progs[i].Labels))); !got.is(vars[i]) {
			t.Fatalf("%s: %s, not %s", written(progs[i]), got, vars[i])
		}
	}
}
