package tests

import (
	"fmt"
	"math"
	"slices"
	"testing"

	"loop.example/cloison/impl"
)

// taken, sum and alike are values of variables.
func taken(a int) impl.Val {
	return impl.Val{Kind: impl.ValVar, A: a}
}

func sum(a, b int) impl.Val {
	return impl.Val{Kind: impl.ValSum, A: a, B: b}
}

func alike(a, b int) impl.Val {
	return impl.Val{Kind: impl.ValSame, A: a, B: b}
}

func progOf(vars int, steps ...impl.Step) impl.Prog {
	return impl.Prog{Labels: freely(vars), Steps: steps}
}

// tableNumber is a value by the document's table.
func tableNumber(v impl.Val, nums []int) int {
	switch v.Kind {
	case 1:
		return v.A
	case 2:
		return nums[v.A]
	case 3:
		if both := nums[v.A] + nums[v.B]; both > 9 {
			return both - 10
		}
		return nums[v.A] + nums[v.B]
	case 4:
		if nums[v.A] == nums[v.B] {
			return 1
		}
	}
	return 0
}

// doneBy is what comes of steps by the document's tables, each step putting its own behind what was there.
func doneBy(steps []impl.Step, r impl.Run) impl.Run {
	if len(steps) == 0 {
		return r
	}
	s := steps[0]
	switch {
	case s.Kind == 1:
		r.Nums = slices.Clone(r.Nums)
		r.Nums[s.Var] = tableNumber(s.Val, r.Nums)
		r.Writes = slices.Concat(r.Writes, []impl.Write{{Var: s.Var, Num: r.Nums[s.Var]}})
	case s.Kind == 2 && r.Nums[s.Var] != 0:
		r = doneBy(s.Then, r)
	case s.Kind == 2:
		r = doneBy(s.Else, r)
	case s.Kind == 3:
		r.Said = slices.Concat(r.Said, []impl.Said{{Host: s.Host, Num: r.Nums[s.Var]}})
	}
	return doneBy(steps[1:], r)
}

func sameRun(a, b impl.Run) bool {
	return slices.Equal(a.Nums, b.Nums) && slices.Equal(a.Writes, b.Writes) && slices.Equal(a.Said, b.Said)
}

// run is what comes of a program that must be done.
func run(t *testing.T, p impl.Prog, nums []int) impl.Run {
	t.Helper()
	r, ok := impl.RunOf(p, nums)
	if !ok || !impl.NumsOk(p, nums) {
		t.Fatalf("%s of %v: %v, %v", written(p), nums, ok, impl.NumsOk(p, nums))
	}
	return r
}

// checkRun holds what comes of a program against the document's tables.
func checkRun(t *testing.T, p impl.Prog, nums []int) impl.Run {
	t.Helper()
	r := run(t, p, nums)
	if want := doneBy(p.Steps, impl.Run{Nums: nums}); !sameRun(r, want) {
		t.Fatalf("%s of %v: %v, not %v", written(p), nums, r, want)
	}
	return r
}

// checkNotRun asks for the one fixed answer where a program cannot be done; it does not print it, as that may not end.
func checkNotRun(t *testing.T, p impl.Prog, nums []int, what string) {
	t.Helper()
	if r, ok := impl.RunOf(p, nums); ok || !sameRun(r, impl.Run{}) || impl.NumsOk(p, nums) {
		t.Fatalf("%s, of %d numbers: %v, %v, %v", what, len(nums), r, ok, impl.NumsOk(p, nums))
	}
}

// nums is numbers of as many variables.
func (c *chance) nums(vars int) []int {
	out := make([]int, vars)
	for v := range out {
		// Many are 0, so that both sides of steps are done.
		out[v] = c.below(2) * c.below(10)
	}
	return out
}

// rowsOver is all rows of as many of these numbers.
func rowsOver(size int, nums ...int) [][]int {
	out := [][]int{nil}
	for range size {
		var longer [][]int
		for _, row := range out {
			for _, n := range nums {
				longer = append(longer, append(slices.Clone(row), n))
			}
		}
		out = longer
	}
	return out
}

// truths is a row of 0 and 1 as one of false and true.
func truths(row []int) []bool {
	var out []bool
	for _, n := range row {
		out = append(out, n == 1)
	}
	return out
}

func others(row []bool) []bool {
	var out []bool
	for _, b := range row {
		out = append(out, !b)
	}
	return out
}

// doneProg is a program that is ok, numbers of it, and what comes of that.
type doneProg struct {
	prog impl.Prog
	nums []int
	run  impl.Run
}

// doneProgs is programs of all kinds and shapes, with some numbers each.
func doneProgs(t *testing.T) []doneProg {
	t.Helper()
	c := chance(3)
	var out []doneProg
	for _, p := range slices.Concat(manyProgs(3000), okShapes(7)) {
		for range 4 {
			nums := c.nums(len(p.Labels))
			out = append(out, doneProg{p, nums, checkRun(t, p, nums)})
		}
	}
	return out
}

// P13
func TestNumsAreWhatWasSetLast(t *testing.T) {
	t.Parallel()
	most, again := 0, 0
	for _, d := range doneProgs(t) {
		last := slices.Clone(d.nums)
		times := make([]int, len(d.nums))
		for _, w := range d.run.Writes {
			last[w.Var] = w.Num
			times[w.Var]++
			again = max(again, times[w.Var])
		}
		if !slices.Equal(d.run.Nums, last) {
			t.Fatalf("%s of %v: %v", written(d.prog), d.nums, d.run)
		}
		many := len(d.run.Writes) + len(d.run.Said)
		if most = max(most, many); many > impl.ProgSize(d.prog) {
			t.Fatalf("%s of %v: %v", written(d.prog), d.nums, d.run)
		}
	}
	if most < 8 || again < 3 {
		t.Errorf("no more than %d are set and told, and one variable %d times", most, again)
	}
}

// P13: as many as there may be are set, or told, and all of them are there in order.
func TestAsMuchIsDoneAsThereMayBe(t *testing.T) {
	t.Parallel()
	p, q := progOf(2), progOf(2)
	var writes []impl.Write
	var said []impl.Said
	for n := range 8 {
		p.Steps = append(p.Steps, set(n%2, num(9-n)))
		q.Steps = append(q.Steps, tell(n%2, n%3))
		writes = append(writes, impl.Write{Var: n % 2, Num: 9 - n})
		said = append(said, impl.Said{Host: n % 3, Num: 4 + n%2})
	}
	if r := checkRun(t, p, []int{0, 0}); !sameRun(r, impl.Run{Nums: []int{3, 2}, Writes: writes}) {
		t.Error(r)
	}
	if r := checkRun(t, q, []int{4, 5}); !sameRun(r, impl.Run{Nums: []int{4, 5}, Said: said}) {
		t.Error(r)
	}
}

// P14
func TestFirstStepsThenTheRest(t *testing.T) {
	t.Parallel()
	for _, d := range doneProgs(t) {
		for k := range len(d.prog.Steps) + 1 {
			first := run(t, impl.Prog{Labels: d.prog.Labels, Steps: d.prog.Steps[:k]}, d.nums)
			rest := run(t, impl.Prog{Labels: d.prog.Labels, Steps: d.prog.Steps[k:]}, first.Nums)
			both := impl.Run{Nums: rest.Nums, Writes: slices.Concat(first.Writes, rest.Writes), Said: slices.Concat(first.Said, rest.Said)}
			if !sameRun(d.run, both) {
				t.Fatalf("%s of %v, the first %d: %v, not %v", written(d.prog), d.nums, k, both, d.run)
			}
		}
	}
}

// P15: numbers at and past both ends, at each place, and more or fewer than variables.
func TestNumbersOfVariables(t *testing.T) {
	t.Parallel()
	for vars := range 5 {
		steps := []impl.Step{tell(0, 0), set(0, num(3))}[:min(vars, 1)*2]
		for size := range 7 {
			for _, nums := range rowsOver(size, -1, 0, 9, 10) {
				for _, p := range []impl.Prog{progOf(vars), progOf(vars, steps...)} {
					if size == vars && !slices.Contains(nums, -1) && !slices.Contains(nums, 10) {
						checkRun(t, p, nums)
					} else {
						checkNotRun(t, p, nums, fmt.Sprintf("%d variables, %v", vars, nums))
					}
				}
			}
		}
		for place := range vars {
			for n := -20; n < 40; n++ {
				nums := make([]int, vars)
				nums[place] = n
				if n >= 0 && n <= 9 {
					checkRun(t, progOf(vars, steps...), nums)
				} else {
					checkNotRun(t, progOf(vars, steps...), nums, fmt.Sprint(nums))
				}
			}
			for _, n := range farNumbers() {
				nums := slices.Repeat([]int{5}, vars)
				nums[place] = n
				checkNotRun(t, progOf(vars, steps...), nums, fmt.Sprint(nums))
			}
		}
		checkNotRun(t, progOf(vars, steps...), make([]int, 1<<16), "far too many numbers")
		checkNotRun(t, progOf(vars, steps...), make([]int, 256+vars), "far too many numbers")
	}
}

// checkNeverRun asks at a program that is not ok with as many numbers as it has labels, and with others.
func checkNeverRun(t *testing.T, p impl.Prog, what string) {
	t.Helper()
	checkNotRun(t, p, make([]int, len(p.Labels)), what)
	for size := range 6 {
		checkNotRun(t, p, make([]int, size), what)
		checkNotRun(t, p, slices.Repeat([]int{9}, size), what)
	}
}

// P15: a program that is not ok is not done, also if what is wrong would not be.
func TestWrongProgramsAreNotDone(t *testing.T) {
	t.Parallel()
	for many := 5; many < 8; many++ {
		checkNeverRun(t, progOf(many), "too many labels")
		checkNeverRun(t, progOf(many, tell(0, 0), tell(many-1, 0)), "too many labels")
	}
	for _, a := range noLabels() {
		for place := range 4 {
			p := progOf(4, tell(0, 0))
			p.Labels[place] = a
			checkNotRun(t, p, []int{0, 0, 0, 0}, fmt.Sprintf("the label %v", a))
		}
	}
	leaf := []impl.Step{set(0, num(1))}
	checkNeverRun(t, progOf(1, slices.Repeat(leaf, 9)...), "nine steps")
	checkNeverRun(t, progOf(1, when(0, nil, slices.Repeat(leaf, 8))), "nine steps")
	for _, steps := range [][]impl.Step{{when(0, leaf, nil)}, {when(0, nil, leaf)}, leaf} {
		checkNeverRun(t, progOf(1, when(0, []impl.Step{when(0, []impl.Step{when(0, steps, nil)}, nil)}, nil)), "too deep")
		checkNeverRun(t, progOf(1, when(0, nil, []impl.Step{when(0, nil, []impl.Step{when(0, nil, steps)})})), "too deep")
	}
	loop := []impl.Step{set(0, num(0)), when(0, nil, nil)}
	loop[1].Then = loop
	checkNeverRun(t, progOf(1, loop...), "steps in themselves")
	other := []impl.Step{when(0, nil, nil)}
	other[0].Else = other
	checkNeverRun(t, progOf(1, other...), "steps in themselves")
	checkNeverRun(t, progOf(0, tell(0, 0)), "a step without variables")
}

// wrongSteps is steps that no program of two variables has.
func wrongSteps() []impl.Step {
	out := []impl.Step{
		{}, {Kind: 4}, set(0, impl.Val{}), set(0, impl.Val{Kind: 5}), set(2, num(1)), tell(2, 0), when(2, nil, nil), set(0, num(10)), set(0, num(-1)),
		set(0, taken(2)), set(0, sum(0, 2)), set(0, sum(2, 0)), set(0, alike(0, 2)), set(0, alike(2, 0)), set(0, impl.Val{Kind: 1, B: 1}), set(0, impl.Val{Kind: 2, B: 1}),
		tell(0, 3), tell(0, -1), {Kind: 1, Val: num(1), Host: 1}, {Kind: 2, Host: 1}, {Kind: 2, Val: num(0)}, {Kind: 3, Val: num(0)},
		{Kind: 1, Val: num(1), Then: []impl.Step{tell(0, 0)}}, {Kind: 3, Else: []impl.Step{tell(0, 0)}},
	}
	for _, n := range farNumbers() {
		out = append(out, impl.Step{Kind: n}, set(n, num(0)), set(0, impl.Val{Kind: n}), set(0, num(n)), set(0, taken(n)), set(1, sum(n, 0)), set(1, alike(0, n)), tell(n, 0), tell(0, n), when(n, nil, nil))
	}
	return out
}

// P15: a wrong step stands where it would be done, or where it would not.
func TestWrongStepsAreNotDone(t *testing.T) {
	t.Parallel()
	fine := []impl.Step{tell(0, 0)}
	for _, s := range wrongSteps() {
		for _, steps := range [][]impl.Step{
			{s}, {fine[0], s}, {s, fine[0]}, {when(0, []impl.Step{s}, fine)}, {when(0, fine, []impl.Step{s})},
			{set(0, num(0)), when(0, []impl.Step{when(0, []impl.Step{s}, nil)}, fine)},
			{set(0, num(7)), when(0, fine, []impl.Step{when(0, fine, []impl.Step{s})})},
		} {
			for _, nums := range [][]int{{0, 0}, {9, 0}} {
				checkNotRun(t, progOf(2, steps...), nums, fmt.Sprint(s))
			}
		}
	}
}

// P13, P15: without steps all stays as it was; without variables nothing comes of it, and that is done too.
func TestNothingToDo(t *testing.T) {
	t.Parallel()
	for _, p := range []impl.Prog{{}, {Labels: []impl.Label{}, Steps: []impl.Step{}}} {
		for _, nums := range [][]int{nil, {}} {
			if r := checkRun(t, p, nums); len(r.Nums)+len(r.Writes)+len(r.Said) != 0 {
				t.Error(r)
			}
		}
		checkNotRun(t, p, []int{0}, "a number without a variable")
	}
	for vars := range 5 {
		nums := []int{9, 0, 4, 1}[:vars]
		if r := checkRun(t, progOf(vars), nums); !sameRun(r, impl.Run{Nums: nums}) {
			t.Error(r)
		}
		for v := range vars {
			if r := checkRun(t, progOf(vars, when(v, nil, nil)), nums); !sameRun(r, impl.Run{Nums: nums}) {
				t.Error(r)
			}
		}
	}
}

// P16: what is told to the hosts, one by one, is all that is told, each in order; nothing is told to others.
func TestAllThatIsToldIsToldToSomeHost(t *testing.T) {
	t.Parallel()
	quiet := 0
	for _, d := range doneProgs(t) {
		var heard [3][]int
		for host := range heard {
			heard[host] = impl.RunTo(d.run, host)
			if len(heard[host]) == 0 {
				quiet++
			}
		}
		for _, s := range d.run.Said {
			if s.Host < 0 || s.Host > 2 || len(heard[s.Host]) == 0 || heard[s.Host][0] != s.Num {
				t.Fatalf("%s of %v: %v is not told", written(d.prog), d.nums, s)
			}
			heard[s.Host] = heard[s.Host][1:]
		}
		for host, more := range heard {
			if len(more) != 0 {
				t.Fatalf("%s of %v: %d is told %v, too", written(d.prog), d.nums, host, more)
			}
		}
		for _, host := range append(farNumbers(), 3, 4, 7, 8) {
			if got := impl.RunTo(d.run, host); len(got) != 0 {
				t.Fatalf("%s of %v: %d is told %v", written(d.prog), d.nums, host, got)
			}
		}
	}
	if quiet == 0 {
		t.Error("there is no host to which nothing is told")
	}
}

// P16: one host is told a number twice, one once, one never; a number is told as it was then.
func TestHostsAreToldOneByOne(t *testing.T) {
	t.Parallel()
	r := run(t, progOf(2, tell(0, 2), set(0, num(5)), tell(0, 0), tell(1, 2), set(1, taken(0)), tell(0, 2)), []int{1, 1})
	for host, want := range [][]int{{5}, nil, {1, 1, 5}} {
		if got := impl.RunTo(r, host); !slices.Equal(got, want) {
			t.Errorf("%d is told %v", host, got)
		}
	}
}

// P16: what is told to hosts is picked from any run, whatever else stands there.
func TestRunToOfAnyRun(t *testing.T) {
	t.Parallel()
	r := impl.Run{Said: []impl.Said{{Host: 1, Num: -5}, {Host: -1, Num: 1}, {Host: 3, Num: 2}, {Host: 0, Num: 77}, {Host: 1, Num: math.MaxInt}, {Host: 257, Num: 3}, {Host: 1 << 32, Num: 4}, {Host: 1, Num: -5}}}
	for host, want := range [][]int{{77}, {-5, math.MaxInt, -5}, nil} {
		if got := impl.RunTo(r, host); !slices.Equal(got, want) {
			t.Errorf("%d is told %v", host, got)
		}
	}
	for _, host := range []int{-2, 4, 256, 1 << 33, math.MinInt, math.MaxInt} {
		if got := impl.RunTo(r, host); len(got) != 0 {
			t.Errorf("%d is told %v", host, got)
		}
	}
	for host := -1; host < 4; host++ {
		if got := impl.RunTo(impl.Run{Nums: []int{1}, Writes: []impl.Write{{}}}, host); len(got) != 0 {
			t.Errorf("%d is told %v", host, got)
		}
	}
}

// setOf is all of a list that is of the variables with a true.
func setOf(writes []impl.Write, vars []bool) []impl.Write {
	var out []impl.Write
	for _, w := range writes {
		for v, is := range vars {
			if is && w.Var == v {
				out = append(out, w)
			}
		}
	}
	return out
}

// P17
func TestAllThatIsSetIsOfSomeOrOfAllOthers(t *testing.T) {
	t.Parallel()
	for _, d := range doneProgs(t) {
		for _, row := range rowsOver(len(d.nums), 0, 1) {
			some := truths(row)
			mine, theirs := impl.RunSets(d.run, some), impl.RunSets(d.run, others(some))
			if !slices.Equal(mine, setOf(d.run.Writes, some)) || len(mine)+len(theirs) != len(d.run.Writes) {
				t.Fatalf("%s of %v, %v: %v and %v", written(d.prog), d.nums, some, mine, theirs)
			}
			for _, w := range d.run.Writes {
				from := &theirs
				if some[w.Var] {
					from = &mine
				}
				if len(*from) == 0 || (*from)[0] != w {
					t.Fatalf("%s of %v, %v: %v is in neither", written(d.prog), d.nums, some, w)
				}
				*from = (*from)[1:]
			}
		}
	}
}

// P17: rows that are shorter or longer than there are variables; there is no true of what stands in none.
func TestRowsOfOtherSizes(t *testing.T) {
	t.Parallel()
	r := run(t, progOf(4, set(3, num(1)), set(0, num(2)), set(1, num(3)), set(2, num(4)), set(0, num(5)), set(3, num(6))), []int{0, 0, 0, 0})
	all := []impl.Write{{Var: 3, Num: 1}, {Var: 0, Num: 2}, {Var: 1, Num: 3}, {Var: 2, Num: 4}, {Var: 0, Num: 5}, {Var: 3, Num: 6}}
	for _, c := range []struct {
		row  []bool
		want []impl.Write
	}{
		{nil, nil}, {[]bool{}, nil}, {make([]bool, 4), nil}, {make([]bool, 1<<16), nil},
		{[]bool{true}, []impl.Write{all[1], all[4]}}, {[]bool{false, true}, []impl.Write{all[2]}}, {[]bool{true, false, true}, []impl.Write{all[1], all[3], all[4]}},
		{[]bool{true, true, true}, all[1:5]}, {[]bool{true, true, true, true}, all}, {slices.Repeat([]bool{true}, 100), all},
		{[]bool{false, false, false, true, true, true}, []impl.Write{all[0], all[5]}}, {[]bool{false, false, false, false, true, true}, nil},
	} {
		if got := impl.RunSets(r, c.row); !slices.Equal(got, c.want) {
			t.Errorf("%v: %v", c.row, got)
		}
	}
}

// P17: what was set of variables that there are not.
func TestRunSetsOfAnyRun(t *testing.T) {
	t.Parallel()
	r := impl.Run{Nums: []int{1, 2}}
	for _, v := range append(farNumbers(), 1, -2, 4, 0, 5, 7, 1) {
		r.Writes = append(r.Writes, impl.Write{Var: v, Num: v - 1})
	}
	for size := range 5 {
		for _, row := range rowsOver(size, 0, 1) {
			if got := impl.RunSets(r, truths(row)); !slices.Equal(got, setOf(r.Writes, truths(row))) {
				t.Errorf("%v: %v", row, got)
			}
		}
	}
	for _, row := range [][]bool{nil, {}, {true}, {false, true}} {
		if got := impl.RunSets(impl.Run{Nums: []int{1, 2}, Said: []impl.Said{{}}}, row); len(got) != 0 {
			t.Errorf("%v: %v", row, got)
		}
	}
}

// P18
func TestStepIfOfAllSteps(t *testing.T) {
	t.Parallel()
	done := map[bool]int{}
	for _, d := range doneProgs(t) {
		if len(inOrder(d.prog.Steps)) > 7 || depthOf(d.prog.Steps) > 2 {
			continue
		}
		for v, n := range d.nums {
			then := run(t, impl.Prog{Labels: d.prog.Labels, Steps: []impl.Step{when(v, d.prog.Steps, nil)}}, d.nums)
			not := run(t, impl.Prog{Labels: d.prog.Labels, Steps: []impl.Step{when(v, nil, d.prog.Steps)}}, d.nums)
			none := impl.Run{Nums: d.nums}
			if n != 0 && (!sameRun(then, d.run) || !sameRun(not, none)) || n == 0 && (!sameRun(then, none) || !sameRun(not, d.run)) {
				t.Fatalf("%s of %v, by %d: %v, %v", written(d.prog), d.nums, v, then, not)
			}
			done[n != 0]++
		}
	}
	if done[true] == 0 || done[false] == 0 {
		t.Error(done)
	}
}

// P18: every number but 0 does Then; which is looked at once, whatever is set in it.
func TestStepIfByEachNumber(t *testing.T) {
	t.Parallel()
	p := progOf(1, when(0, []impl.Step{set(0, num(0)), tell(0, 1)}, []impl.Step{set(0, num(8)), tell(0, 2)}))
	for n := range 10 {
		want := impl.Run{Nums: []int{0}, Writes: []impl.Write{{Var: 0, Num: 0}}, Said: []impl.Said{{Host: 1, Num: 0}}}
		if n == 0 {
			want = impl.Run{Nums: []int{8}, Writes: []impl.Write{{Var: 0, Num: 8}}, Said: []impl.Said{{Host: 2, Num: 8}}}
		}
		if r := checkRun(t, p, []int{n}); !sameRun(r, want) {
			t.Errorf("%d: %v", n, r)
		}
	}
}

// P13, P18: of steps in steps in steps those on one way are done, and no others.
func TestStepsThatAreNotDone(t *testing.T) {
	t.Parallel()
	mark := func(n int) []impl.Step { return []impl.Step{set(2, num(n))} }
	p := progOf(3, when(0, []impl.Step{when(1, mark(1), mark(2))}, []impl.Step{when(1, mark(3), mark(4))}), tell(2, 0))
	for _, c := range [][3]int{{1, 1, 1}, {9, 0, 2}, {0, 5, 3}, {0, 0, 4}} {
		want := impl.Run{Nums: []int{c[0], c[1], c[2]}, Writes: []impl.Write{{Var: 2, Num: c[2]}}, Said: []impl.Said{{Host: 0, Num: c[2]}}}
		if r := checkRun(t, p, []int{c[0], c[1], 7}); !sameRun(r, want) {
			t.Errorf("%v: %v", c, r)
		}
	}
	// By what is set ahead, and inside, the next ones go; what is set in a step that is not done changes nothing.
	p = progOf(3,
		set(1, num(0)),
		when(0, []impl.Step{when(1, []impl.Step{tell(0, 0)}, []impl.Step{tell(0, 1)}), set(1, num(6))}, []impl.Step{set(2, num(9))}),
		tell(1, 2),
	)
	for n, want := range []impl.Run{
		{Nums: []int{0, 0, 9}, Writes: []impl.Write{{Var: 1, Num: 0}, {Var: 2, Num: 9}}, Said: []impl.Said{{Host: 2, Num: 0}}},
		{Nums: []int{1, 6, 4}, Writes: []impl.Write{{Var: 1, Num: 0}, {Var: 1, Num: 6}}, Said: []impl.Said{{Host: 1, Num: 1}, {Host: 2, Num: 6}}},
	} {
		if r := checkRun(t, p, []int{n, 3, 4}); !sameRun(r, want) {
			t.Errorf("%d: %v", n, r)
		}
	}
}

// P13, P18: every shape of steps, with a number of each variable that does all Then, or all Else, or some.
func TestStepsOfEachShapeAreDone(t *testing.T) {
	t.Parallel()
	for _, p := range okShapes(8) {
		for _, row := range [][]int{{0, 0, 0, 0}, {1, 1, 1, 1}, {0, 9, 0, 9}, {5, 0, 0, 2}} {
			checkRun(t, p, row)
		}
	}
}

// P19
func TestEachValueIsWhatTheTableSays(t *testing.T) {
	t.Parallel()
	for text, val := range plainVals(4) {
		for a := range 10 {
			for b := range 10 {
				for v := range 4 {
					nums := []int{a, b, 3, a}
					r := checkRun(t, progOf(4, set(v, val), tell(v, 1)), nums)
					want := tableNumber(val, nums)
					nums[v] = want
					if !sameRun(r, impl.Run{Nums: nums, Writes: []impl.Write{{Var: v, Num: want}}, Said: []impl.Said{{Host: 1, Num: want}}}) {
						t.Fatalf("%s of %v: %v", text, nums, r)
					}
				}
			}
		}
	}
}

// P19: values at their edges, worked out by hand.
func TestValuesOneByOne(t *testing.T) {
	t.Parallel()
	for _, c := range []struct {
		val        impl.Val
		a, b, want int
	}{
		{num(0), 5, 6, 0}, {num(1), 0, 0, 1}, {num(4), 5, 6, 4}, {num(9), 5, 6, 9},
		{taken(0), 5, 6, 5}, {taken(1), 5, 6, 6}, {taken(1), 5, 0, 0}, {taken(0), 9, 0, 9},
		{sum(0, 1), 0, 0, 0}, {sum(0, 1), 4, 5, 9}, {sum(1, 0), 9, 0, 9}, {sum(0, 1), 5, 5, 0}, {sum(0, 1), 9, 1, 0}, {sum(1, 0), 5, 6, 1}, {sum(0, 1), 9, 9, 8},
		{sum(0, 0), 4, 9, 8}, {sum(0, 0), 5, 9, 0}, {sum(1, 1), 4, 9, 8}, {sum(1, 1), 0, 7, 4},
		{alike(0, 1), 0, 0, 1}, {alike(0, 1), 9, 9, 1}, {alike(0, 1), 0, 9, 0}, {alike(1, 0), 3, 4, 0}, {alike(1, 0), 4, 4, 1}, {alike(0, 0), 7, 1, 1}, {alike(1, 1), 7, 0, 1},
	} {
		for v := range 3 {
			r := run(t, progOf(3, set(v, c.val)), []int{c.a, c.b, 2})
			if !slices.Equal(r.Writes, []impl.Write{{Var: v, Num: c.want}}) || r.Nums[v] != c.want || len(r.Said) != 0 {
				t.Errorf("%v of %d and %d: %v", c.val, c.a, c.b, r)
			}
		}
	}
}

// P19: a value is of the numbers by then, not of those at first.
func TestValuesOfWhatWasSetAhead(t *testing.T) {
	t.Parallel()
	r := checkRun(t, progOf(2, set(0, sum(0, 1)), set(1, sum(0, 1)), set(0, sum(0, 1)), set(1, alike(0, 1)), set(0, sum(0, 0)), set(0, taken(1)), set(1, num(0)), set(1, alike(0, 1))), []int{3, 4})
	want := []impl.Write{{Var: 0, Num: 7}, {Var: 1, Num: 1}, {Var: 0, Num: 8}, {Var: 1, Num: 0}, {Var: 0, Num: 6}, {Var: 0, Num: 0}, {Var: 1, Num: 0}, {Var: 1, Num: 1}}
	if !sameRun(r, impl.Run{Nums: []int{0, 1}, Writes: want}) {
		t.Error(r)
	}
}

// P20
func TestNumberAndItselfInEitherOrder(t *testing.T) {
	t.Parallel()
	for vars := 2; vars < 5; vars++ {
		for a := range vars {
			for b := range vars {
				for n := range 10 {
					if a == b {
						continue
					}
					nums := []int{3, 0, 9, 1}[:vars]
					one := run(t, progOf(vars, set(a, num(n)), set(b, taken(b))), nums)
					two := run(t, progOf(vars, set(b, taken(b)), set(a, num(n))), nums)
					want := slices.Clone(nums)
					want[a] = n
					slices.Reverse(two.Writes)
					if !sameRun(one, two) || !slices.Equal(one.Nums, want) || !slices.Equal(one.Writes, []impl.Write{{Var: a, Num: n}, {Var: b, Num: nums[b]}}) {
						t.Errorf("%d is set to %d, and %d: %v, %v", a, n, b, one, two)
					}
				}
			}
		}
	}
}

// P20: also among other steps.
func TestNumberAndItselfAmongOthers(t *testing.T) {
	t.Parallel()
	c := chance(4)
	for _, d := range doneProgs(t) {
		vars := len(d.nums)
		if vars < 2 || len(inOrder(d.prog.Steps)) > 6 {
			continue
		}
		a := c.below(vars)
		b := (a + 1 + c.below(vars-1)) % vars
		k := c.below(len(d.prog.Steps) + 1)
		ahead, behind := d.prog.Steps[:k], d.prog.Steps[k:]
		one, two := d.prog, d.prog
		one.Steps = slices.Concat(ahead, []impl.Step{set(a, num(7)), set(b, taken(b))}, behind)
		two.Steps = slices.Concat(ahead, []impl.Step{set(b, taken(b)), set(a, num(7))}, behind)
		x, y := run(t, one, d.nums), run(t, two, d.nums)
		if !slices.Equal(x.Nums, y.Nums) || !slices.Equal(x.Said, y.Said) || len(x.Writes) != len(y.Writes) {
			t.Fatalf("%s of %v: %v, %v", written(one), d.nums, x, y)
		}
	}
}

// marked is the same list with a mark behind its end, thrice; the whole is the second.
func marked[T any](list []T, mark T) ([]T, []T) {
	whole := append(slices.Clone(list), mark, mark, mark)
	return whole[:len(list)], whole
}

// overwrite puts a mark everywhere in a list, and behind its end as far as there is room.
func overwrite[T any](list []T, mark T) {
	list = list[:cap(list)]
	for i := range list {
		list[i] = mark
	}
}

// overwriteRun does so with all lists of a run.
func overwriteRun(r impl.Run) {
	overwrite(r.Nums, 77)
	overwrite(r.Writes, impl.Write{Var: 77, Num: 78})
	overwrite(r.Said, impl.Said{Host: 77, Num: 78})
}

func copyRun(r impl.Run) impl.Run {
	return impl.Run{Nums: slices.Clone(r.Nums), Writes: slices.Clone(r.Writes), Said: slices.Clone(r.Said)}
}

// P13, P15: nothing is written into a program or its numbers, nor behind their ends, and what comes of it is new memory.
func TestRunOfIsNewMemory(t *testing.T) {
	t.Parallel()
	for _, d := range doneProgs(t)[:4000] {
		var lists, were [][]impl.Step
		labels, allLabels := marked(d.prog.Labels, impl.Label{Know: 91, Trust: 92})
		q := impl.Prog{Labels: labels, Steps: roomy(d.prog.Steps, &lists)}
		for _, list := range lists {
			were = append(were, deepCopy(list))
		}
		nums, allNums := marked(d.nums, 55)
		r, again := run(t, q, nums), run(t, q, nums)
		overwriteRun(again)
		if !sameProg(d.prog, q) || !slices.EqualFunc(lists, were, sameSteps) || !slices.Equal(nums, d.nums) || !slices.Equal(allNums[len(nums):], []int{55, 55, 55}) {
			t.Fatalf("%s of %v was written into", written(d.prog), d.nums)
		}
		if slices.ContainsFunc(allLabels[len(labels):], func(a impl.Label) bool { return a != impl.Label{Know: 91, Trust: 92} }) {
			t.Fatalf("%s was written into behind its labels", written(d.prog))
		}
		overwrite(nums, 66)
		for _, list := range lists {
			spoil(list)
		}
		if !sameRun(r, d.run) {
			t.Fatalf("%s of %v is %v by now", written(d.prog), d.nums, r)
		}
	}
}

// P15: where a program is not done nothing is written either, and nothing of it is handed out.
func TestWhatIsNotDoneIsNotWrittenInto(t *testing.T) {
	t.Parallel()
	for _, wrong := range [][]int{{3}, {3, 4, 5}, {3, 10}, {-1, 4}} {
		nums, whole := marked(wrong, 55)
		var lists, were [][]impl.Step
		p := progOf(2, roomy([]impl.Step{set(0, num(1)), when(1, []impl.Step{set(1, num(2))}, nil)}, &lists)...)
		for _, list := range lists {
			were = append(were, deepCopy(list))
		}
		r, _ := impl.RunOf(p, nums)
		overwriteRun(r)
		if !slices.Equal(whole, append(slices.Clone(wrong), 55, 55, 55)) || !slices.EqualFunc(lists, were, sameSteps) {
			t.Errorf("%v is %v by now", wrong, whole)
		}
	}
}

// P16, P17: nothing is written into a run, nor behind the end of its lists, and what is picked from it is new memory.
func TestWhatIsPickedIsNewMemory(t *testing.T) {
	t.Parallel()
	for _, d := range doneProgs(t)[:4000] {
		var r, whole impl.Run
		r.Nums, whole.Nums = marked(d.run.Nums, 55)
		r.Writes, whole.Writes = marked(d.run.Writes, impl.Write{Var: 0, Num: 56})
		r.Said, whole.Said = marked(d.run.Said, impl.Said{Host: 0, Num: 57})
		was := copyRun(whole)
		for host := -1; host < 4; host++ {
			got, again := impl.RunTo(r, host), impl.RunTo(r, host)
			want := slices.Clone(got)
			overwrite(again, 88)
			if !sameRun(whole, was) || !slices.Equal(got, want) {
				t.Fatalf("%v was written into for %d", d.run, host)
			}
		}
		for _, row := range rowsOver(len(d.nums), 0, 1) {
			vars, all := marked(truths(row), true)
			rowWas := slices.Clone(all)
			got, again := impl.RunSets(r, vars), impl.RunSets(r, vars)
			want := slices.Clone(got)
			overwrite(again, impl.Write{Var: 88, Num: 89})
			if !sameRun(whole, was) || !slices.Equal(got, want) || !slices.Equal(all, rowWas) {
				t.Fatalf("%v was written into for %v", d.run, row)
			}
			if len(got) > 0 {
				r.Writes[0].Num += 20
				if !slices.Equal(got, want) {
					t.Fatalf("%v is handed out for %v", d.run, row)
				}
				r.Writes[0].Num -= 20
			}
		}
	}
}

// P13, P15: the same is answered again, whatever was asked in between.
func TestRunsKeepNothing(t *testing.T) {
	t.Parallel()
	done := doneProgs(t)
	for i := len(done) - 1; i >= 0; i-- {
		d := done[i]
		checkNotRun(t, d.prog, append(slices.Clone(d.nums), 0), "one number more")
		if r := run(t, d.prog, d.nums); !sameRun(r, d.run) {
			t.Fatalf("%s of %v: %v, not %v", written(d.prog), d.nums, r, d.run)
		}
	}
}
