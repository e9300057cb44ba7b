package tests

import (
	"fmt"
	"math"
	"slices"
	"strings"
	"testing"

	"loop.example/cloison/impl"
)

// planned is what PlanFind answers.
type planned struct {
	plan impl.Plan
	ok   bool
}

func samePlan(a, b impl.Plan) bool {
	return slices.Equal(a.Trusts, b.Trusts) && slices.Equal(a.Homes, b.Homes) && slices.Equal(a.Does, b.Does)
}

func (a planned) is(b planned) bool {
	return a.ok == b.ok && samePlan(a.plan, b.plan)
}

func planFind(p impl.Prog, trusts []int) planned {
	plan, ok := impl.PlanFind(p, trusts)
	return planned{plan, ok}
}

// lack is what PlanLack answers.
type lack struct {
	number int
	is     bool
}

func planLack(p impl.Prog, trusts []int) lack {
	n, is := impl.PlanLack(p, trusts)
	return lack{n, is}
}

// members is, of each set, whether each host is in it, read once from the texts of sets.
func members() [8][3]bool {
	var out [8][3]bool
	for set := range out {
		for host := range 3 {
			out[set][host] = isIn(host, set)
		}
	}
	return out
}

var memberOf = members()

// ruled is a program, and what hangs on it alone, by the document's words.
type ruled struct {
	prog  impl.Prog
	steps []impl.Step
	at    []impl.Label
	sets  []int
}

func ruledBy(p impl.Prog) ruled {
	return ruled{p, inOrder(p.Steps), labelsBy(p), setsBy(p)}
}

// allTrust says whether all of a set trust a host.
func allTrust(set int, trusts []int, host int) bool {
	for who := range 3 {
		if memberOf[set][who] && !memberOf[trusts[who]][host] {
			return false
		}
	}
	return true
}

// asksFor is the variables of which a step makes something.
func asksFor(s impl.Step) []int {
	if s.Kind == 1 {
		return madeOf(s.Val)
	}
	return []int{s.Var}
}

// home says whether a variable may be at a host.
func (r ruled) home(trusts []int, v, host int) bool {
	a := r.prog.Labels[v]
	return memberOf[a.Know][host] && allTrust(a.Trust, trusts, host)
}

// step says whether a host may do a step.
func (r ruled) step(trusts, homes []int, n, host int) bool {
	s, known := r.steps[n], memberOf[r.at[n].Know]
	if !known[host] || !allTrust(r.sets[n], trusts, host) {
		return false
	}
	for _, v := range asksFor(s) {
		if !memberOf[r.prog.Labels[v].Know][host] || !known[homes[v]] {
			return false
		}
	}
	return s.Kind != 1 || known[homes[s.Var]]
}

// plan says whether all holds of all, of a program that is fine.
func (r ruled) plan(plan impl.Plan) bool {
	for v, home := range plan.Homes {
		if !r.home(plan.Trusts, v, home) {
			return false
		}
	}
	for n, host := range plan.Does {
		if !r.step(plan.Trusts, plan.Homes, n, host) {
			return false
		}
	}
	return true
}

// homes is all homes that may be.
func (r ruled) homes(trusts []int) [][]int {
	mayNot := func(homes []int) bool {
		for v, host := range homes {
			if !r.home(trusts, v, host) {
				return true
			}
		}
		return false
	}
	return slices.DeleteFunc(rowsOver(len(r.prog.Labels), 2, 0, 1), mayNot)
}

// doers is all hosts that may do a step, with these homes.
func (r ruled) doers(trusts, homes []int, n int) []int {
	return slices.DeleteFunc([]int{0, 1, 2}, func(host int) bool { return !r.step(trusts, homes, n, host) })
}

// find is the first plan: of all homes with which each step may be done by some host those that are least, and of all these hosts the least.
func (r ruled) find(trusts []int) planned {
	var best planned
	for _, homes := range r.homes(trusts) {
		var does []int
		for n := range r.steps {
			if hosts := r.doers(trusts, homes, n); len(hosts) > 0 {
				does = append(does, slices.Min(hosts))
			}
		}
		if len(does) == len(r.steps) && (!best.ok || slices.Compare(homes, best.plan.Homes) < 0) {
			best = planned{impl.Plan{Trusts: trusts, Homes: homes, Does: does}, true}
		}
	}
	return best
}

// lack is the first variable without a home, or else the first step that nobody may do with any homes that may be.
func (r ruled) lack(trusts []int) lack {
	for v := range r.prog.Labels {
		if !r.home(trusts, v, 0) && !r.home(trusts, v, 1) && !r.home(trusts, v, 2) {
			return lack{v, true}
		}
	}
	all := r.homes(trusts)
	for n := range r.steps {
		if !slices.ContainsFunc(all, func(homes []int) bool { return len(r.doers(trusts, homes, n)) > 0 }) {
			return lack{len(r.prog.Labels) + n, true}
		}
	}
	return lack{}
}

// allTrusts is all ways in which hosts trust one another, each itself.
func allTrusts() [][]int {
	return slices.DeleteFunc(rowsOver(3, 0, 1, 2, 3, 4, 5, 6, 7), func(row []int) bool {
		return !memberOf[row[0]][0] || !memberOf[row[1]][1] || !memberOf[row[2]][2]
	})
}

// alone is hosts that trust nobody else, trusting is hosts that trust everybody.
func alone() []int {
	return []int{1, 2, 4}
}

func trusting() []int {
	return []int{7, 7, 7}
}

// asking is a program, and who trusts whom.
type asking struct {
	ruled
	trusts []int
}

func (a asking) String() string {
	return fmt.Sprintf("%s, trusting %v", written(a.prog), a.trusts)
}

// wary is a fine program in which few trust what many know, so that homes are not all the same.
func (c *chance) wary() impl.Prog {
	p := c.ringed()
	if c.below(3) == 0 {
		vars, left := 2+c.below(3), 8
		p = impl.Prog{Labels: make([]impl.Label, vars)}
		for left > 0 {
			p.Steps = append(p.Steps, c.steps(vars, 1, &left)...)
		}
	}
	for v := range p.Labels {
		p.Labels[v] = impl.Label{Know: c.below(8) | c.below(8), Trust: c.below(8) & c.below(8)}
	}
	return mended(p)
}

// torn is a fine program that does something by the last variable where few may know of it, and again where some others may.
func (c *chance) torn() impl.Prog {
	last := 2 + c.below(2)
	var p impl.Prog
	for range last {
		p.Labels = append(p.Labels, impl.Label{Know: setNumber(fmt.Sprint(c.below(3))) | c.below(8)&c.below(8), Trust: c.below(8) & c.below(8)})
	}
	p.Labels = append(p.Labels, impl.Label{Know: 7, Trust: c.below(8) & c.below(8)})
	for v := range last {
		inside := [][]impl.Step{{when(last, nil, nil)}, {tell(last, c.below(3))}, {set(v, sum(last, v))}}[c.below(3)]
		p.Steps = append(p.Steps, [][]impl.Step{{when(v, inside, nil)}, {when(v, nil, inside)}}[c.below(2)]...)
	}
	return mended(p)
}

// plannedProgs is fine programs of all kinds and shapes, each with hosts that trust nobody else, that trust everybody, and that trust some.
func plannedProgs() []asking {
	c := chance(31)
	var progs []impl.Prog
	for i, p := range typedProgs() {
		if i%5 > 2 && c.below(4) == 0 {
			progs = append(progs, mended(p))
		}
	}
	for range 1500 {
		progs = append(progs, c.wary(), c.torn())
	}
	all := allTrusts()
	var out []asking
	for _, p := range progs {
		r := ruledBy(p)
		out = append(out, asking{r, alone()}, asking{r, trusting()}, asking{r, all[c.below(64)]}, asking{r, all[c.below(64)]})
	}
	return out
}

// oneHost says whether all hosts of a row are the same.
func oneHost(row []int) bool {
	return len(slices.Compact(slices.Clone(row))) < 2
}

// checkPlans holds the plan that is found, and what lacks, against the document's words.
func checkPlans(t *testing.T, a asking) planned {
	t.Helper()
	got, want := planFind(a.prog, a.trusts), a.find(a.trusts)
	if !got.is(want) || got.ok && !impl.PlanOk(a.prog, got.plan) {
		t.Fatalf("%v: %v, not %v", a, got, want)
	}
	if got, want := planLack(a.prog, a.trusts), a.lack(a.trusts); got != want {
		t.Fatalf("%v: %v lacks, not %v", a, got, want)
	}
	return got
}

// P59, P63, P64, P65
func TestPlansOfManyPrograms(t *testing.T) {
	t.Parallel()
	seen := map[string]int{}
	for _, a := range plannedProgs() {
		got, none, vars := checkPlans(t, a), a.lack(a.trusts), len(a.prog.Labels)
		switch {
		case got.ok:
			seen[fmt.Sprint("one home ", oneHost(got.plan.Homes))]++
			seen[fmt.Sprint("one does all ", oneHost(got.plan.Does))]++
			seen[fmt.Sprint("the first homes ", slices.Equal(got.plan.Homes, slices.MinFunc(a.homes(a.trusts), slices.Compare)))]++
		case none.is && none.number < vars:
			seen[fmt.Sprint("variable ", none.number)]++
		case none.is:
			n := none.number - vars
			seen[fmt.Sprint("a step, but not with other homes ", slices.ContainsFunc(rowsOver(vars, 0, 1, 2), func(homes []int) bool { return len(a.doers(a.trusts, homes, n)) > 0 }))]++
		default:
			seen["nothing lacks"]++
		}
	}
	for _, what := range []string{
		"one home true", "one home false", "one does all true", "one does all false", "the first homes true", "the first homes false",
		"variable 0", "variable 1", "variable 2", "variable 3", "a step, but not with other homes true", "a step, but not with other homes false", "nothing lacks",
	} {
		if seen[what] < 20 {
			t.Errorf("%s: too few of %v", what, seen)
		}
	}
}

// smallProgs is programs with not many plans, and each plain step beside and inside another one.
func smallProgs() []asking {
	c := chance(32)
	all := allTrusts()
	var out []asking
	for i, a := range plannedProgs() {
		if many := len(a.prog.Labels) + len(a.steps); many < 5 && i%3 == 0 || many == 5 && i%9 == 0 {
			out = append(out, a)
		}
	}
	for _, s := range plainSteps(2) {
		for _, steps := range [][]impl.Step{{s}, {tell(0, 1), s}, {when(1, []impl.Step{s}, nil)}} {
			p := impl.Prog{Labels: []impl.Label{c.label(), {Know: c.below(8), Trust: c.below(8) & c.below(8)}}, Steps: steps}
			out = append(out, asking{ruledBy(mended(p)), all[c.below(64)]})
		}
	}
	return out
}

// P59, P63, P64: each plan that there may be, in the order of its homes, then of who does what; the one that is found is the first that is one.
func TestEachPlanOfSmallPrograms(t *testing.T) {
	t.Parallel()
	seen := map[string]int{}
	for _, a := range smallProgs() {
		var first planned
		vars := len(a.prog.Labels)
		for _, row := range rowsOver(vars+len(a.steps), 0, 1, 2) {
			plan := impl.Plan{Trusts: a.trusts, Homes: row[:vars], Does: row[vars:]}
			is := impl.PlanOk(a.prog, plan)
			if is != a.plan(plan) {
				t.Fatalf("%v: %v is a plan %v", a, plan, is)
			}
			if is && !first.ok {
				first = planned{plan, true}
			}
			seen[fmt.Sprint("plan ", is)]++
		}
		if got := planFind(a.prog, a.trusts); !got.is(first) {
			t.Fatalf("%v: %v, not %v", a, got, first)
		}
		seen[fmt.Sprint("found ", first.ok)]++
	}
	if seen["plan true"] < 3000 || seen["plan false"] < 10000 || seen["found true"] < 300 || seen["found false"] < 300 {
		t.Error(seen)
	}
}

// plansFound is programs, and plans of them: those that are found, and those that stand behind with other homes and hosts.
func plansFound(t *testing.T) []planOf {
	t.Helper()
	c := chance(33)
	var out []planOf
	for _, a := range plannedProgs() {
		got := planFind(a.prog, a.trusts)
		if !got.ok {
			continue
		}
		out = append(out, planOf{a, got.plan})
		homes := a.homes(a.trusts)
		other := impl.Plan{Trusts: a.trusts, Homes: homes[c.below(len(homes))]}
		for n := range a.steps {
			if hosts := a.doers(a.trusts, other.Homes, n); len(hosts) > 0 {
				other.Does = append(other.Does, hosts[c.below(len(hosts))])
			}
		}
		if len(other.Does) == len(a.steps) && !samePlan(other, got.plan) {
			out = append(out, planOf{a, other})
		}
	}
	if len(out) < 12000 {
		t.Fatalf("only %d plans", len(out))
	}
	return out
}

// planOf is a program, and a plan of it.
type planOf struct {
	asking
	plan impl.Plan
}

func checkIs(t *testing.T, p impl.Prog, plan impl.Plan, want bool, what string) {
	t.Helper()
	if got := impl.PlanOk(p, plan); got != want {
		t.Fatalf("%s: by %v, %s, it is parted %v", written(p), plan, what, got)
	}
}

// P59, P60, P61: all is where it may be, the program is fine, and that is what the chapters of labels and of what is fine say.
func TestInAPlanAllIsWhereItMayBe(t *testing.T) {
	t.Parallel()
	for _, x := range plansFound(t) {
		p, plan := x.prog, x.plan
		checkIs(t, p, plan, true, "a plan")
		if !impl.TypeOk(p) || len(plan.Homes) != len(p.Labels) || len(plan.Does) != impl.ProgSize(p) {
			t.Fatalf("%v: %v", x.asking, plan)
		}
		for v, home := range plan.Homes {
			if !impl.PlanHome(p, plan.Trusts, v, home) || !impl.TypeKnows(p, home)[v] {
				t.Fatalf("%v: %v, but %d may not be there", x.asking, plan, v)
			}
			for who := range 3 {
				if impl.TypeTrusts(p, who)[v] && !isIn(home, plan.Trusts[who]) {
					t.Fatalf("%v: %v, but %d does not trust who has %d", x.asking, plan, who, v)
				}
			}
		}
		at, sets := impl.TypeAt(p), impl.TypeSets(p)
		for n, host := range plan.Does {
			if !impl.PlanStep(p, plan.Trusts, plan.Homes, n, host) || !letKnow(at[n], host) {
				t.Fatalf("%v: %v, but %d may not be done there", x.asking, plan, n)
			}
			for who := range 3 {
				if isIn(who, sets[n]) && !isIn(host, plan.Trusts[who]) {
					t.Fatalf("%v: %v, but %d does not trust who does %d", x.asking, plan, who, n)
				}
			}
		}
	}
}

// P59: with another home of one variable, or another host that does one step, it is a plan just if that may be.
func TestPlansWithOneOtherHost(t *testing.T) {
	t.Parallel()
	seen := map[bool]int{}
	for i, x := range plansFound(t) {
		if i%5 > 0 {
			continue
		}
		for v := range x.plan.Homes {
			for host := range 3 {
				other := x.plan
				other.Homes = slices.Clone(x.plan.Homes)
				other.Homes[v] = host
				checkIs(t, x.prog, other, x.asking.plan(other), "another home")
				seen[x.asking.plan(other)]++
			}
		}
		for n := range x.plan.Does {
			for host := range 3 {
				other := x.plan
				other.Does = slices.Clone(x.plan.Does)
				other.Does[n] = host
				checkIs(t, x.prog, other, impl.PlanStep(x.prog, x.trusts, x.plan.Homes, n, host), "another who does it")
				seen[impl.PlanStep(x.prog, x.trusts, x.plan.Homes, n, host)]++
			}
		}
	}
	if seen[true] < 20000 || seen[false] < 20000 {
		t.Error(seen)
	}
}

// P60: each label, at each place among others, whoever trusts whom.
func TestAHomeMayKnowItsVariableAndIsTrusted(t *testing.T) {
	t.Parallel()
	for i, a := range allLabels() {
		vars := 1 + i%4
		for _, trusts := range allTrusts() {
			p := impl.Prog{Labels: freely(vars)}
			v := (i + trusts[0]) % vars
			p.Labels[v] = a.label
			for host, h := range []string{"0", "1", "2"} {
				want := within(h, a.know)
				for who, w := range []string{"0", "1", "2"} {
					want = want && (!within(w, a.trust) || within(h, hostsText(trusts[who])))
				}
				if got := impl.PlanHome(p, trusts, v, host); got != want {
					t.Fatalf("%s, trusting %v: %d at %d %v", written(p), trusts, v, host, got)
				}
			}
		}
	}
}

// P60: of programs with steps, fine or not, it is the label alone.
func TestHomesHangOnLabelsAlone(t *testing.T) {
	t.Parallel()
	c := chance(34)
	all := allTrusts()
	for _, p := range leakyProgs()[:4000] {
		bare, trusts := impl.Prog{Labels: p.Labels}, all[c.below(64)]
		for v := range p.Labels {
			for host := range 3 {
				if got := impl.PlanHome(p, trusts, v, host); got != impl.PlanHome(bare, trusts, v, host) || got != ruledBy(bare).home(trusts, v, host) {
					t.Fatalf("%s, trusting %v: %d at %d %v", written(p), trusts, v, host, got)
				}
			}
		}
	}
}

// checkSteps holds who may do each step, with these homes, against the document's words.
func checkSteps(t *testing.T, a asking, homes []int, seen map[bool]int) {
	t.Helper()
	for n := range a.steps {
		for host := range 3 {
			got := impl.PlanStep(a.prog, a.trusts, homes, n, host)
			if got != a.step(a.trusts, homes, n, host) {
				t.Fatalf("%v, homes %v: %d by %d %v", a, homes, n, host, got)
			}
			seen[got]++
		}
	}
}

// P61: programs of all kinds and shapes, fine or not, with homes that may be and others.
func TestWhoMayDoStepsOfManyPrograms(t *testing.T) {
	t.Parallel()
	c := chance(35)
	all := allTrusts()
	seen := map[bool]int{}
	var progs []impl.Prog
	for i, p := range slices.Concat(leakyProgs(), unevenShapes(6)) {
		if i%2 == 0 {
			progs = append(progs, p)
		}
	}
	for range 1000 {
		progs = append(progs, c.wary(), c.torn())
	}
	for _, p := range progs {
		a := asking{ruledBy(p), all[c.below(64)]}
		homes := rowsOver(len(p.Labels), 0, 1, 2)
		for range 3 {
			checkSteps(t, a, homes[c.below(len(homes))], seen)
		}
	}
	if seen[true] < 10000 || seen[false] < 10000 {
		t.Error(seen)
	}
}

// P61: each plain step, alone and in others, with all homes.
func TestWhoMayDoEachStep(t *testing.T) {
	t.Parallel()
	c := chance(36)
	all := allTrusts()
	seen := map[bool]int{}
	for _, s := range plainSteps(2) {
		for _, steps := range [][]impl.Step{{s}, {when(2, []impl.Step{s}, nil)}, {when(2, nil, []impl.Step{tell(2, 0), s})}, {when(2, []impl.Step{when(0, nil, []impl.Step{s})}, nil)}} {
			for range 3 {
				p := impl.Prog{Labels: []impl.Label{c.label(), c.label(), {Know: c.below(8) | c.below(8), Trust: c.below(8)}}, Steps: steps}
				for v := range p.Labels {
					p.Labels[v].Trust &= c.below(8)
				}
				a := asking{ruledBy(p), all[c.below(64)]}
				for _, homes := range rowsOver(3, 0, 1, 2) {
					checkSteps(t, a, homes, seen)
				}
			}
		}
	}
	if seen[true] < 5000 || seen[false] < 5000 {
		t.Error(seen)
	}
}

// doing is a step of a program, whoever trusts whom, with homes, and which hosts may do it.
type doing struct {
	labels []string
	steps  []impl.Step
	trusts []int
	homes  []int
	n      int
	want   string
}

func checkDoing(t *testing.T, cases []doing) {
	t.Helper()
	for _, c := range cases {
		p := labelled(c.labels, c.steps...)
		got := keep(func(h string) bool { return impl.PlanStep(p, c.trusts, c.homes, c.n, int(h[0]-'0')) })
		if got != c.want {
			t.Errorf("%s, trusting %v, homes %v: %d is done by %q, not %q", written(p), c.trusts, c.homes, c.n, got, c.want)
		}
	}
}

// P61: worked out by hand.
func TestWhoMayDoStepsOneByOne(t *testing.T) {
	t.Parallel()
	labels := []string{"01!0", "12!1", "012!2"}
	inside := []impl.Step{when(0, []impl.Step{set(2, taken(1)), tell(1, 1), when(1, nil, nil), set(0, num(3)), set(1, alike(2, 2))}, nil)}
	// Who trusts what is set in it, too: all, by its last ones.
	checkDoing(t, []doing{
		{labels, inside, trusting(), []int{0, 0, 0}, 0, "01"},
		{labels, inside, trusting(), []int{2, 2, 2}, 0, "01"},
		{labels, inside, alone(), []int{0, 0, 0}, 0, ""},
		{labels, inside, []int{3, 2, 6}, []int{0, 0, 0}, 0, "1"},
		{labels, inside, []int{3, 3, 7}, []int{0, 0, 0}, 0, "01"},
		{labels, inside, []int{3, 6, 6}, []int{0, 0, 0}, 0, "1"},
		{labels, inside, []int{7, 6, 4}, []int{0, 0, 0}, 0, ""},
	})
	// All in it is done where 0 and 1 may know that.
	checkDoing(t, []doing{
		// c:b, which 2 trusts: 1 knows b; homes of b and c must know that it is done.
		{labels, inside, alone(), []int{0, 1, 0}, 1, ""},
		{labels, inside, []int{1, 2, 6}, []int{0, 1, 0}, 1, "1"},
		{labels, inside, []int{1, 2, 5}, []int{0, 1, 0}, 1, ""},
		{labels, inside, trusting(), []int{2, 0, 1}, 1, "1"},
		{labels, inside, trusting(), []int{0, 2, 0}, 1, ""},
		{labels, inside, trusting(), []int{0, 0, 2}, 1, ""},
		// b>1, which sets nothing: nobody need trust who does it.
		{labels, inside, alone(), []int{2, 0, 2}, 2, "1"},
		{labels, inside, alone(), []int{0, 2, 0}, 2, ""},
		// b?()(), in which nothing is set.
		{labels, inside, alone(), []int{2, 1, 2}, 3, "1"},
		{labels, inside, alone(), []int{1, 2, 1}, 3, ""},
		// a:3, which 0 trusts, is made of nothing, but a must be where it is known.
		{labels, inside, alone(), []int{1, 2, 2}, 4, "0"},
		{labels, inside, []int{3, 2, 4}, []int{0, 2, 2}, 4, "01"},
		{labels, inside, trusting(), []int{2, 0, 0}, 4, ""},
		// b:c=c, which 1 trusts.
		{labels, inside, alone(), []int{2, 0, 1}, 5, "1"},
		{labels, inside, []int{1, 3, 4}, []int{2, 0, 1}, 5, "01"},
		{labels, inside, []int{1, 6, 4}, []int{2, 0, 1}, 5, "1"},
		{labels, inside, trusting(), []int{2, 2, 1}, 5, ""},
		{labels, inside, trusting(), []int{2, 1, 2}, 5, ""},
	})
	// Outside all may know that it is done, and homes may be anywhere; who does it may know what it is made of, not what is set.
	outside := []impl.Step{set(0, num(1)), set(0, taken(1)), set(1, sum(0, 2)), tell(0, 2), when(1, nil, nil), set(2, alike(0, 1))}
	checkDoing(t, []doing{
		{labels, outside, trusting(), []int{2, 0, 0}, 0, "012"}, {labels, outside, trusting(), []int{2, 0, 0}, 1, "12"}, {labels, outside, trusting(), []int{2, 0, 0}, 2, "01"},
		{labels, outside, alone(), []int{2, 0, 0}, 3, "01"}, {labels, outside, alone(), []int{2, 0, 0}, 4, "12"}, {labels, outside, trusting(), []int{2, 0, 0}, 5, "1"},
		{labels, outside, alone(), []int{2, 0, 0}, 0, "0"}, {labels, outside, alone(), []int{2, 0, 0}, 1, ""}, {labels, outside, alone(), []int{2, 0, 0}, 2, "1"},
		{labels, outside, []int{5, 2, 4}, []int{2, 0, 0}, 1, "2"}, {labels, outside, alone(), []int{2, 0, 0}, 5, ""}, {labels, outside, []int{1, 2, 6}, []int{2, 0, 0}, 5, "1"},
	})
}

// P60, P61: homes that may not know that a step is done: of what is read, and of what is set, in each kind of step, by a host, or by another.
func TestHomesThatMayNotKnowThatItIsDone(t *testing.T) {
	t.Parallel()
	for host := range 3 {
		other := (host + 1) % 3
		h := fmt.Sprint(host)
		labels := []string{h + "!", "012!", "012!", "012!"}
		for _, c := range []struct {
			step  impl.Step
			needs []int
		}{
			{set(1, num(4)), []int{1}}, {set(1, taken(1)), []int{1}}, {set(1, taken(2)), []int{1, 2}}, {set(2, taken(1)), []int{1, 2}},
			{set(1, sum(2, 3)), []int{1, 2, 3}}, {set(3, alike(2, 1)), []int{1, 2, 3}}, {set(1, sum(1, 2)), []int{1, 2}}, {set(2, alike(1, 1)), []int{1, 2}},
			{tell(1, other), []int{1}}, {tell(2, host), []int{2}}, {when(3, nil, nil), []int{3}}, {when(0, nil, nil), []int{0}}, {set(0, num(1)), []int{0}}, {set(0, taken(2)), []int{0, 2}},
		} {
			for _, homes := range rowsOver(4, host, other) {
				want := h
				for _, v := range c.needs {
					if homes[v] != host {
						want = ""
					}
				}
				checkDoing(t, []doing{
					{labels, []impl.Step{when(0, []impl.Step{c.step}, nil)}, alone(), homes, 1, want},
					{labels, []impl.Step{when(0, nil, []impl.Step{when(1, []impl.Step{c.step}, nil)})}, trusting(), homes, 2, want},
				})
			}
		}
	}
}

// P62: also of all plans that there are of a small program, and of what more trust makes of one.
func TestWithEverybodyTrustingEverybodyAPlanIsOneStill(t *testing.T) {
	t.Parallel()
	c := chance(37)
	for _, x := range plansFound(t) {
		more := impl.Plan{Trusts: trusting(), Homes: x.plan.Homes, Does: x.plan.Does}
		checkIs(t, x.prog, more, true, "trusting everybody")
		for who := range 3 {
			more.Trusts[who] = x.trusts[who] | c.below(8)
		}
		checkIs(t, x.prog, more, true, "trusting more")
		if free := planFind(x.prog, trusting()); !free.ok || slices.Compare(slices.Concat(free.plan.Homes, free.plan.Does), slices.Concat(x.plan.Homes, x.plan.Does)) > 0 {
			t.Fatalf("%v: %v, but trusting everybody %v", x.asking, x.plan, free)
		}
	}
	for i, a := range smallProgs() {
		vars := len(a.prog.Labels)
		for _, row := range rowsOver(vars+len(a.steps), 0, 1, 2) {
			plan := impl.Plan{Trusts: a.trusts, Homes: row[:vars], Does: row[vars:]}
			if i%4 == 0 && impl.PlanOk(a.prog, plan) {
				plan.Trusts = trusting()
				checkIs(t, a.prog, plan, true, "trusting everybody")
			}
		}
	}
}

// P64: none stands ahead: neither with homes that are less, nor with less who do the steps.
func TestAPlanThatIsFoundDoesNotStandBehind(t *testing.T) {
	t.Parallel()
	for _, x := range plansFound(t) {
		got := planFind(x.prog, x.trusts)
		if !got.ok || slices.Compare(slices.Concat(got.plan.Homes, got.plan.Does), slices.Concat(x.plan.Homes, x.plan.Does)) > 0 || !slices.Equal(got.plan.Trusts, x.trusts) {
			t.Fatalf("%v: %v is found, but there is %v", x.asking, got, x.plan)
		}
	}
}

// P65: with all homes, whatever may be.
func TestWhereSomethingLacksThereIsNoPlan(t *testing.T) {
	t.Parallel()
	variables, steps := 0, 0
	for _, a := range plannedProgs() {
		got := planLack(a.prog, a.trusts)
		if !got.is {
			continue
		}
		vars := len(a.prog.Labels)
		if planFind(a.prog, a.trusts).ok || got.number < 0 || got.number >= vars+len(a.steps) {
			t.Fatalf("%v: %v", a, got)
		}
		if got.number < vars {
			variables++
			for host := range 3 {
				if impl.PlanHome(a.prog, a.trusts, got.number, host) {
					t.Fatalf("%v: %v, but %d has a home", a, got, got.number)
				}
			}
			continue
		}
		steps++
		for _, homes := range rowsOver(vars, 0, 1, 2) {
			for host := range 3 {
				may := impl.PlanStep(a.prog, a.trusts, homes, got.number-vars, host)
				for v, home := range homes {
					may = may && impl.PlanHome(a.prog, a.trusts, v, home)
				}
				if may {
					t.Fatalf("%v: %v, but with homes %v %d may do it", a, got, homes, host)
				}
			}
		}
	}
	if variables < 3000 || steps < 500 {
		t.Errorf("only %d variables and %d steps lack", variables, steps)
	}
}

// P66
func TestAHostThatAllTrustMayDoAllJustIfItMayKnowAll(t *testing.T) {
	t.Parallel()
	seen := map[string]int{}
	for i, a := range plannedProgs() {
		for host, h := range []string{"0", "1", "2"} {
			if (i/4+host)%2 > 0 {
				continue
			}
			trusts := slices.Clone(a.trusts)
			for who := range trusts {
				trusts[who] = setNumber(joined(hostsText(trusts[who]), h))
			}
			plan := impl.Plan{Trusts: trusts, Homes: slices.Repeat([]int{host}, len(a.prog.Labels)), Does: slices.Repeat([]int{host}, len(a.steps))}
			knows := !slices.Contains(impl.TypeKnows(a.prog, host), false)
			checkIs(t, a.prog, plan, knows, "one host that all trust")
			if knows && !planFind(a.prog, trusts).ok {
				t.Fatalf("%s, trusting %v: no plan, but %d may do all", written(a.prog), trusts, host)
			}
			seen[fmt.Sprint("knows ", knows)]++
			// Whom not all trust may not, if those who do not trust something.
			plan.Trusts = allTrusts()[i%64]
			may := a.plan(plan)
			checkIs(t, a.prog, plan, may, "one host")
			seen[fmt.Sprint("knows ", knows, " and may ", may)]++
		}
	}
	if seen["knows true"] < 3000 || seen["knows false"] < 3000 || seen["knows true and may true"] < 1000 || seen["knows true and may false"] < 1000 {
		t.Error(seen)
	}
}

// P67
func TestWithEverybodyTrustingEverybodyAHomeIsOneStill(t *testing.T) {
	t.Parallel()
	for _, a := range allLabels() {
		p := impl.Prog{Labels: []impl.Label{a.label}}
		for host, h := range []string{"0", "1", "2"} {
			free := impl.PlanHome(p, trusting(), 0, host)
			if free != within(h, a.know) {
				t.Fatalf("%s: at %d %v", written(p), host, free)
			}
			for _, trusts := range allTrusts() {
				if impl.PlanHome(p, trusts, 0, host) && !free {
					t.Fatalf("%s, trusting %v: at %d, but not if all trust all", written(p), trusts, host)
				}
			}
		}
	}
}

// P68
func TestWithEverybodyTrustingEverybodyWhoMayDoAStepMayDoItStill(t *testing.T) {
	t.Parallel()
	c := chance(38)
	all := allTrusts()
	more := 0
	for i, p := range turnedProgs() {
		if i%2 == 1 {
			continue
		}
		r, trusts := ruledBy(p), all[c.below(64)]
		homes := rowsOver(len(p.Labels), 0, 1, 2)
		row := homes[c.below(len(homes))]
		for n := range r.steps {
			for host := range 3 {
				few, free := impl.PlanStep(p, trusts, row, n, host), impl.PlanStep(p, trusting(), row, n, host)
				if few && !free {
					t.Fatalf("%s, trusting %v, homes %v: %d by %d, but not if all trust all", written(p), trusts, row, n, host)
				}
				if free && !few {
					more++
				}
			}
		}
	}
	if more < 1000 {
		t.Errorf("only %d may more", more)
	}
}

// longer is a list with one more at each place; shorter is it with one less.
func longer(list []int, n int) [][]int {
	var out [][]int
	for place := range len(list) + 1 {
		out = append(out, slices.Insert(slices.Clone(list), place, n))
	}
	return out
}

func shorter(list []int) [][]int {
	var out [][]int
	for place := range list {
		out = append(out, slices.Delete(slices.Clone(list), place, place+1))
	}
	return out
}

// P69
func TestWithOneMoreOrAHostLessItIsNoPlan(t *testing.T) {
	t.Parallel()
	for i, x := range plansFound(t) {
		if i%5 > 0 {
			continue
		}
		for n := range 3 {
			for _, homes := range slices.Concat(longer(x.plan.Homes, n), shorter(x.plan.Homes)) {
				checkIs(t, x.prog, impl.Plan{Trusts: x.trusts, Homes: homes, Does: x.plan.Does}, false, "too many homes, or too few")
			}
			for _, does := range slices.Concat(longer(x.plan.Does, n), shorter(x.plan.Does)) {
				checkIs(t, x.prog, impl.Plan{Trusts: x.trusts, Homes: x.plan.Homes, Does: does}, false, "too many, or too few, do it")
			}
		}
		for _, trusts := range slices.Concat(longer(x.trusts, 7), shorter(x.trusts), [][]int{nil, slices.Repeat(x.trusts, 2)}) {
			checkIs(t, x.prog, impl.Plan{Trusts: trusts, Homes: x.plan.Homes, Does: x.plan.Does}, false, "too many hosts, or too few")
		}
		for _, many := range []int{8, 64, 256, 1 << 12} {
			more := make([]int, many)
			checkIs(t, x.prog, impl.Plan{Trusts: x.trusts, Homes: slices.Concat(x.plan.Homes, more), Does: x.plan.Does}, false, "far too many homes")
			checkIs(t, x.prog, impl.Plan{Trusts: x.trusts, Homes: x.plan.Homes, Does: slices.Concat(x.plan.Does, more)}, false, "far too many do it")
		}
		if len(x.plan.Homes) > 0 {
			checkIs(t, x.prog, impl.Plan{Trusts: x.trusts, Does: x.plan.Does}, false, "no homes")
		}
		if len(x.plan.Does) > 0 {
			checkIs(t, x.prog, impl.Plan{Trusts: x.trusts, Homes: x.plan.Homes}, false, "nobody does it")
		}
	}
}

// turnedTrusts is who trusts whom by new names.
func turnedTrusts(trusts []int, row []int) []int {
	var sets []int
	for _, s := range trusts {
		sets = append(sets, impl.TurnSet(s, row))
	}
	return movedBy(sets, row)
}

// P70: of hosts by other names the plan is one, and what lacks lacks still.
func TestAPlanTurnedIsOneOfTheProgramTurned(t *testing.T) {
	t.Parallel()
	seen := map[bool]int{}
	for i, x := range plansFound(t) {
		row := rowFor(i, 3)
		q, _ := impl.TurnProg(x.prog, row)
		checkIs(t, q, impl.Plan{Trusts: turnedTrusts(x.trusts, row), Homes: behind(x.plan.Homes, row), Does: behind(x.plan.Does, row)}, true, "turned")
	}
	for i, a := range plannedProgs() {
		row := rowFor(i, 3)
		q, _ := impl.TurnProg(a.prog, row)
		trusts := turnedTrusts(a.trusts, row)
		if was, is := planFind(a.prog, a.trusts), planFind(q, trusts); was.ok != is.ok {
			t.Fatalf("%v: %v, but by %v %v", a, was, row, is)
		}
		was, is := planLack(a.prog, a.trusts), planLack(q, trusts)
		if was != is {
			t.Fatalf("%v: %v lacks, but by %v %v", a, was, row, is)
		}
		seen[was.is]++
		homes := rowsOver(len(a.prog.Labels), 2, 0, 1)
		some, host := homes[i%len(homes)], i%5%3
		for v := range a.prog.Labels {
			if impl.PlanHome(a.prog, a.trusts, v, host) != impl.PlanHome(q, trusts, v, row[host]) {
				t.Fatalf("%v: by %v %d is at %d else", a, row, v, host)
			}
		}
		for n := range a.steps {
			if impl.PlanStep(a.prog, a.trusts, some, n, host) != impl.PlanStep(q, trusts, behind(some, row), n, row[host]) {
				t.Fatalf("%v: by %v, homes %v, %d is done by %d else", a, row, some, n, host)
			}
		}
	}
	if seen[true] < 3000 || seen[false] < 3000 {
		t.Error(seen)
	}
}

// lacking is all variables that have no home, by the program's own answers.
func lacking(a asking) []int {
	var out []int
	for v := range a.prog.Labels {
		if !impl.PlanHome(a.prog, a.trusts, v, 0) && !impl.PlanHome(a.prog, a.trusts, v, 1) && !impl.PlanHome(a.prog, a.trusts, v, 2) {
			out = append(out, v)
		}
	}
	return out
}

// P71: a step that lacks is the same; of variables the one that is first by the new names.
func TestWithOtherNamesOfVariablesTheSameStepIsTold(t *testing.T) {
	t.Parallel()
	seen := map[string]int{}
	for i, a := range plannedProgs() {
		vars := len(a.prog.Labels)
		row := rowFor(i, vars)
		q, _ := impl.TurnVars(a.prog, row)
		was, is := planFind(a.prog, a.trusts), planFind(q, a.trusts)
		if was.ok != is.ok {
			t.Fatalf("%v: %v, but by %v %v", a, was, row, is)
		}
		if was.ok {
			checkIs(t, q, impl.Plan{Trusts: a.trusts, Homes: movedBy(was.plan.Homes, row), Does: was.plan.Does}, true, "with other names of variables")
			seen["plan"]++
		}
		want := planLack(a.prog, a.trusts)
		if none := lacking(a); len(none) > 0 {
			want.number = slices.Min(behind(none, row))
			seen["variable"]++
		} else if want.is {
			seen["step"]++
		}
		if got := planLack(q, a.trusts); got != want {
			t.Fatalf("%v: by %v %v lacks, not %v", a, row, got, want)
		}
		homes := rowsOver(vars, 2, 0, 1)
		some := homes[i%len(homes)]
		for n := range a.steps {
			if impl.PlanStep(a.prog, a.trusts, some, n, i%3) != impl.PlanStep(q, a.trusts, movedBy(some, row), n, i%3) {
				t.Fatalf("%v: by %v, homes %v, %d is done else", a, row, some, n)
			}
		}
	}
	if seen["plan"] < 3000 || seen["variable"] < 3000 || seen["step"] < 500 {
		t.Error(seen)
	}
}

// handPlanned is who trusts whom, and the plan that is found: homes, `/`, and who does the steps; or what lacks; or `none`.
type handPlanned struct {
	labels []string
	steps  []impl.Step
	trusts []int
	want   string
}

func digits(row []int) string {
	var out strings.Builder
	for _, n := range row {
		fmt.Fprint(&out, n)
	}
	return out.String()
}

// checkHandPlanned holds both answers against what was worked out.
func checkHandPlanned(t *testing.T, cases []handPlanned) {
	t.Helper()
	for _, c := range cases {
		p := labelled(c.labels, c.steps...)
		found, none := planFind(p, c.trusts), planLack(p, c.trusts)
		got := "something beside what is told"
		switch {
		case found.ok && none == lack{} && slices.Equal(found.plan.Trusts, c.trusts):
			got = digits(found.plan.Homes) + "/" + digits(found.plan.Does)
		case found.is(planned{}) && none.is:
			got = fmt.Sprint("lack ", none.number)
		case found.is(planned{}) && none == lack{}:
			got = "none"
		}
		if got != c.want {
			t.Errorf("%s, trusting %v: %q, %v, %v, not %q", written(p), c.trusts, got, found, none, c.want)
		}
	}
}

// P60, P63, P64, P65, P67: homes alone, worked out by hand; of several the first is taken.
func TestHomesOneByOne(t *testing.T) {
	t.Parallel()
	checkHandPlanned(t, []handPlanned{
		{nil, nil, alone(), "/"}, {nil, nil, trusting(), "/"}, {nil, nil, []int{3, 6, 5}, "/"},
		{[]string{"012!"}, nil, alone(), "0/"}, {[]string{"12!"}, nil, alone(), "1/"}, {[]string{"02!"}, nil, alone(), "0/"}, {[]string{"2!"}, nil, alone(), "2/"},
		{[]string{"!"}, nil, alone(), "lack 0"}, {[]string{"!"}, nil, trusting(), "lack 0"}, {[]string{"!012"}, nil, trusting(), "lack 0"},
		{[]string{"012!0"}, nil, alone(), "0/"}, {[]string{"012!1"}, nil, alone(), "1/"}, {[]string{"012!2"}, nil, alone(), "2/"},
		{[]string{"12!0"}, nil, alone(), "lack 0"}, {[]string{"12!0"}, nil, []int{3, 2, 4}, "1/"}, {[]string{"12!0"}, nil, []int{5, 2, 4}, "2/"}, {[]string{"12!0"}, nil, trusting(), "1/"},
		// That 1 and 2 trust 0 is nothing: 0 must trust who has it.
		{[]string{"12!0"}, nil, []int{1, 3, 5}, "lack 0"}, {[]string{"12!0"}, nil, []int{1, 7, 7}, "lack 0"},
		{[]string{"012!01"}, nil, alone(), "lack 0"}, {[]string{"012!01"}, nil, []int{3, 2, 4}, "1/"}, {[]string{"012!01"}, nil, []int{1, 3, 4}, "0/"}, {[]string{"012!01"}, nil, []int{3, 3, 4}, "0/"},
		{[]string{"012!01"}, nil, []int{5, 6, 4}, "2/"}, {[]string{"01!01"}, nil, []int{5, 6, 4}, "lack 0"}, {[]string{"012!01"}, nil, []int{5, 2, 4}, "lack 0"},
		{[]string{"012!012"}, nil, alone(), "lack 0"}, {[]string{"012!012"}, nil, []int{1, 3, 5}, "0/"}, {[]string{"012!012"}, nil, []int{3, 2, 6}, "1/"}, {[]string{"012!012"}, nil, []int{5, 6, 4}, "2/"},
		{[]string{"012!012"}, nil, []int{3, 6, 5}, "lack 0"}, {[]string{"12!012"}, nil, trusting(), "1/"},
		{[]string{"012!1", "12!2", "01!0", "2!"}, nil, alone(), "1202/"}, {[]string{"012!1", "12!2", "01!0", "2!"}, nil, trusting(), "0102/"},
		{[]string{"012!", "12!", "2!", "!"}, nil, alone(), "lack 3"}, {[]string{"012!", "!", "2!", "!"}, nil, alone(), "lack 1"}, {[]string{"1!0", "2!1", "0!2", "!"}, nil, alone(), "lack 0"},
		{[]string{"1!0", "2!1", "0!2", "!"}, nil, []int{3, 6, 4}, "lack 2"}, {[]string{"1!0", "2!1", "0!2"}, nil, []int{3, 6, 5}, "120/"},
	})
}

// P61, P63, P64, P65, P68: with steps, worked out by hand.
func TestPlansOneByOne(t *testing.T) {
	t.Parallel()
	checkHandPlanned(t, []handPlanned{
		{[]string{"012!"}, []impl.Step{tell(0, 2)}, alone(), "0/0"}, {[]string{"12!"}, []impl.Step{tell(0, 2)}, alone(), "1/1"}, {[]string{"2!"}, []impl.Step{tell(0, 2)}, alone(), "2/2"},
		{[]string{"012!", "2!"}, []impl.Step{tell(1, 2), tell(0, 2)}, alone(), "02/20"},
		// Who does it is trusted by who trusts what is set, and may know what it is made of; of what is set he need not.
		{[]string{"012!1", "012!"}, []impl.Step{set(0, num(3)), tell(1, 0)}, alone(), "10/10"},
		{[]string{"012!1", "012!"}, []impl.Step{set(0, num(3)), tell(1, 0)}, trusting(), "00/00"},
		{[]string{"012!1", "012!"}, []impl.Step{set(0, num(3)), tell(1, 0)}, []int{1, 6, 4}, "10/10"},
		{[]string{"012!1", "012!"}, []impl.Step{set(0, num(3)), tell(1, 0)}, []int{1, 3, 4}, "00/00"},
		{[]string{"2!"}, []impl.Step{set(0, num(3))}, alone(), "2/0"},
		{[]string{"12!2", "2!"}, []impl.Step{set(1, taken(0))}, alone(), "22/1"},
		{[]string{"12!2", "2!2"}, []impl.Step{set(1, taken(0))}, alone(), "22/2"},
		{[]string{"01!1", "02!0", "0!"}, []impl.Step{set(0, num(5)), set(1, num(6)), set(2, sum(0, 1)), tell(2, 0)}, alone(), "100/1000"},
		{[]string{"01!1", "02!0", "0!"}, []impl.Step{set(0, num(5)), set(1, num(6)), set(2, sum(0, 1)), tell(2, 0)}, []int{1, 3, 4}, "000/0000"},
		// A home must know that what is in a StepIf is done, of what is read there and of what is set; the StepIf itself is done where all know.
		{[]string{"012!", "12!"}, []impl.Step{when(1, []impl.Step{tell(0, 1)}, nil)}, alone(), "11/11"},
		{[]string{"012!", "12!"}, []impl.Step{when(1, nil, []impl.Step{tell(0, 2)})}, trusting(), "11/11"},
		{[]string{"012!", "12!"}, []impl.Step{when(1, nil, nil), tell(0, 1)}, alone(), "01/10"},
		{[]string{"01!", "12!"}, []impl.Step{when(0, []impl.Step{when(1, nil, nil)}, nil)}, alone(), "01/01"},
		{[]string{"01!", "12!"}, []impl.Step{when(1, []impl.Step{when(0, nil, nil)}, nil)}, alone(), "11/11"},
		{[]string{"01!", "012!", "01!"}, []impl.Step{when(0, []impl.Step{set(2, taken(1))}, nil)}, alone(), "000/00"},
		{[]string{"12!", "012!", "1!"}, []impl.Step{when(0, []impl.Step{set(2, taken(1))}, nil)}, alone(), "111/11"},
		{[]string{"12!", "012!", "2!"}, []impl.Step{when(0, []impl.Step{set(2, sum(2, 1))}, nil)}, alone(), "112/12"},
		// What is set in a StepIf is trusted by some: they trust who does the StepIf; in it stands what sets nothing that anybody trusts.
		{[]string{"01!01", "1!"}, []impl.Step{when(0, []impl.Step{set(1, num(2)), set(0, num(1))}, nil)}, alone(), "lack 0"},
		{[]string{"01!01", "1!"}, []impl.Step{when(0, []impl.Step{set(1, num(2)), set(0, num(1))}, nil)}, []int{3, 2, 4}, "11/101"},
		{[]string{"01!01", "1!"}, []impl.Step{when(0, []impl.Step{set(1, num(2))}, []impl.Step{set(0, num(1))})}, []int{3, 2, 4}, "11/101"},
		{[]string{"01!01", "1!"}, []impl.Step{when(0, []impl.Step{set(1, num(2))}, nil)}, []int{3, 2, 4}, "11/00"},
		{[]string{"01!01", "1!"}, []impl.Step{when(0, []impl.Step{set(1, num(2)), set(0, num(1))}, nil)}, trusting(), "01/000"},
		// Steps in steps in steps, and eight of them.
		{[]string{"012!", "01!", "1!"}, []impl.Step{when(0, []impl.Step{when(1, []impl.Step{when(2, nil, nil)}, nil)}, nil)}, alone(), "001/001"},
		{[]string{"012!", "01!", "12!"}, []impl.Step{when(0, nil, []impl.Step{when(1, nil, []impl.Step{when(2, nil, nil)})})}, trusting(), "001/001"},
		{[]string{"12!", "01!", "012!"}, []impl.Step{when(0, nil, []impl.Step{when(1, nil, []impl.Step{when(2, nil, nil)})})}, trusting(), "111/111"},
		{[]string{"012!", "12!", "2!"}, []impl.Step{set(0, num(1)), set(1, taken(0)), set(2, taken(1)), tell(0, 0), tell(1, 1), tell(2, 2), when(0, nil, []impl.Step{tell(0, 1)})}, alone(), "012/00101200"},
	})
}

// P64, P65: a step that lacks whatever the homes are, one that lacks just with all that may be, one that lacks with some, and two that lack with none alike.
func TestStepsThatLackOneByOne(t *testing.T) {
	t.Parallel()
	checkHandPlanned(t, []handPlanned{
		// Who may know b may not know that it is asked.
		{[]string{"0!", "1!"}, []impl.Step{when(0, []impl.Step{when(1, nil, nil)}, nil)}, trusting(), "lack 3"},
		{[]string{"0!", "1!"}, []impl.Step{when(1, []impl.Step{when(0, nil, nil)}, nil), when(0, nil, nil)}, alone(), "lack 3"},
		{[]string{"0!", "12!"}, []impl.Step{tell(0, 0), tell(1, 2), when(0, nil, []impl.Step{when(0, nil, nil), when(1, nil, nil)})}, trusting(), "lack 6"},
		{[]string{"0!", "1!"}, []impl.Step{when(0, nil, nil), when(1, nil, nil)}, trusting(), "01/01"},
		// What 2 trusts may be at 2 alone, who may not know that it is read.
		{[]string{"01!", "012!2"}, []impl.Step{when(0, []impl.Step{tell(1, 0)}, nil)}, alone(), "lack 3"},
		{[]string{"01!", "012!2"}, []impl.Step{when(0, []impl.Step{tell(1, 0)}, nil)}, []int{1, 2, 6}, "01/00"},
		{[]string{"01!", "012!2"}, []impl.Step{when(0, []impl.Step{tell(1, 0)}, nil)}, []int{7, 7, 4}, "lack 3"},
		{[]string{"01!", "012!2"}, []impl.Step{when(0, []impl.Step{tell(1, 0)}, nil)}, trusting(), "00/00"},
		{[]string{"01!", "012!2", "0!"}, []impl.Step{when(0, nil, []impl.Step{tell(2, 0), set(2, taken(1))}), tell(1, 0)}, alone(), "lack 5"},
		{[]string{"01!", "012!2", "0!"}, []impl.Step{when(0, nil, []impl.Step{tell(2, 0), set(2, alike(2, 1))}), tell(1, 0)}, []int{1, 2, 6}, "010/0000"},
		{[]string{"01!", "012!2"}, []impl.Step{when(0, []impl.Step{when(1, nil, nil)}, nil)}, alone(), "lack 3"},
		// A variable lacks ahead of a step.
		{[]string{"0!", "1!", "!"}, []impl.Step{when(0, []impl.Step{when(1, nil, nil)}, nil)}, trusting(), "lack 2"},
		{[]string{"0!", "1!", "012!01"}, []impl.Step{when(0, []impl.Step{when(1, nil, nil)}, nil)}, []int{1, 2, 7}, "lack 2"},
		{[]string{"0!", "1!", "012!01"}, []impl.Step{when(0, []impl.Step{when(1, nil, nil)}, nil)}, []int{3, 2, 4}, "lack 4"},
		// c is at 0, or at 1, but not at both.
		{[]string{"0!", "1!", "012!"}, []impl.Step{when(0, []impl.Step{tell(2, 0)}, nil), when(1, []impl.Step{tell(2, 1)}, nil)}, alone(), "none"},
		{[]string{"0!", "1!", "012!"}, []impl.Step{when(0, []impl.Step{tell(2, 0)}, nil), when(1, []impl.Step{tell(2, 1)}, nil)}, trusting(), "none"},
		{[]string{"01!", "1!", "012!"}, []impl.Step{when(0, []impl.Step{tell(2, 0)}, nil), when(1, []impl.Step{tell(2, 1)}, nil)}, alone(), "011/0011"},
		{[]string{"01!", "12!", "012!"}, []impl.Step{when(0, []impl.Step{tell(2, 0)}, nil), when(1, []impl.Step{tell(2, 1)}, nil)}, alone(), "011/0011"},
		{[]string{"02!", "12!", "012!"}, []impl.Step{when(0, []impl.Step{tell(2, 0)}, nil), when(1, []impl.Step{tell(2, 1)}, nil)}, alone(), "012/0011"},
		{[]string{"02!", "12!", "012!1"}, []impl.Step{when(0, []impl.Step{when(2, nil, nil)}, nil), when(1, []impl.Step{when(2, nil, nil)}, nil)}, []int{1, 3, 4}, "none"},
		{[]string{"02!", "12!", "012!1"}, []impl.Step{when(0, []impl.Step{when(2, nil, nil)}, nil), when(1, []impl.Step{when(2, nil, nil)}, nil)}, []int{1, 2, 4}, "lack 4"},
		{[]string{"02!", "12!", "012!1"}, []impl.Step{when(0, []impl.Step{when(2, nil, nil)}, nil), when(1, []impl.Step{when(2, nil, nil)}, nil)}, []int{1, 6, 4}, "012/0011"},
		// Of what is not fine nothing lacks, and there is no plan.
		{[]string{"1!"}, []impl.Step{tell(0, 0)}, trusting(), "none"}, {[]string{"!"}, []impl.Step{tell(0, 0)}, trusting(), "none"}, {[]string{"!", "012!012"}, []impl.Step{set(1, taken(0))}, trusting(), "none"},
	})
}

// checkNoPlan asks for the one fixed answer of each function, also with homes and hosts that would be right; it does not print the program, as that may not end.
func checkNoPlan(t *testing.T, p impl.Prog, trusts []int, what string) {
	t.Helper()
	vars := min(len(p.Labels), 6)
	for host := range 3 {
		homes := slices.Repeat([]int{host}, len(p.Labels))
		for size := range 10 {
			if impl.PlanOk(p, impl.Plan{Trusts: trusts, Homes: homes, Does: slices.Repeat([]int{host}, size)}) {
				t.Fatalf("%s: %d does %d steps, trusting %v", what, host, size, trusts)
			}
			if impl.PlanStep(p, trusts, homes, size, host) || impl.PlanStep(p, trusts, homes, -size, host) {
				t.Fatalf("%s: %d does step %d, trusting %v", what, host, size, trusts)
			}
		}
		for v := range vars + 1 {
			if impl.PlanHome(p, trusts, v, host) {
				t.Fatalf("%s: %d is at %d, trusting %v", what, v, host, trusts)
			}
		}
	}
	if got := planFind(p, trusts); !got.is(planned{}) {
		t.Fatalf("%s: %v, trusting %v", what, got, trusts)
	}
	if got := planLack(p, trusts); got != (lack{}) {
		t.Fatalf("%s: %v lacks, trusting %v", what, got, trusts)
	}
}

// noTrusts is what does not tell who trusts whom: too few hosts, or too many, what is no set, and a host that does not trust itself.
func noTrusts() [][]int {
	out := [][]int{nil, {}, {7}, {7, 7}, {1, 2}, {7, 7, 7, 7}, {1, 2, 4, 8}, {1, 2, 4, 0}, slices.Repeat(trusting(), 2), make([]int, 3), slices.Repeat([]int{7}, 64), slices.Repeat([]int{7}, 1<<12)}
	for host := range 3 {
		for set := range 8 {
			for _, row := range [][]int{alone(), trusting()} {
				if row[host] = set; !memberOf[set][host] {
					out = append(out, row)
				}
			}
		}
		for _, n := range noSets() {
			row := trusting()
			row[host] = n
			out = append(out, row)
		}
	}
	return out
}

// P59, P60, P61, P63, P65, P69: also of a program without steps, and of one without variables.
func TestWhoTrustsWhomIsNotTold(t *testing.T) {
	t.Parallel()
	for _, p := range []impl.Prog{{}, progOf(1), labelled([]string{"!"}), labelled([]string{"012!"}, tell(0, 0)), labelled([]string{"012!", "12!"}, set(1, taken(0)), when(1, []impl.Step{tell(0, 2)}, nil)), progOf(4, slices.Repeat([]impl.Step{set(3, num(9))}, 8)...)} {
		for _, trusts := range noTrusts() {
			checkNoPlan(t, p, trusts, written(p))
		}
		// What is behind the end is not told.
		for _, trusts := range [][]int{alone(), trusting()} {
			behind := slices.Concat(trusts, []int{0, 9, -1})
			checkPlans(t, asking{ruledBy(p), behind[:3]})
			checkNoPlan(t, p, behind[:2], written(p))
			checkNoPlan(t, p, behind[:4], written(p))
		}
	}
}

// noHosts is numbers that are no host, many of which would be one if their high bits were lost, or if they were taken as shifts.
func noHosts() []int {
	out := []int{-1, -2, -3, 3, 4, 5, 7, 8, 31, 32, 63, 64, 65, 128, 1 << 31, math.MinInt, math.MaxInt}
	for host := range 3 {
		out = append(out, farNames(host, 3)...)
	}
	return out
}

// P59, P60, P61, P69: hosts that there are not.
func TestHomesAndHostsThatThereAreNot(t *testing.T) {
	t.Parallel()
	p := labelled([]string{"012!", "012!", "012!"}, set(0, num(1)), when(1, []impl.Step{tell(0, 0)}, nil), set(0, sum(0, 1)))
	plan := impl.Plan{Trusts: alone(), Homes: []int{0, 1, 2}, Does: []int{0, 1, 2, 0}}
	checkIs(t, p, plan, true, "a plan")
	for _, host := range noHosts() {
		for v := range p.Labels {
			if impl.PlanHome(p, plan.Trusts, v, host) || impl.PlanHome(p, trusting(), v, host) {
				t.Fatalf("%d is at %d", v, host)
			}
			wrong := plan
			wrong.Homes = slices.Clone(plan.Homes)
			wrong.Homes[v] = host
			checkIs(t, p, wrong, false, "no home")
			// Also where the step has nothing to do with that variable.
			for n := range plan.Does {
				for who := range 3 {
					if !impl.PlanStep(p, plan.Trusts, plan.Homes, n, who) || impl.PlanStep(p, plan.Trusts, wrong.Homes, n, who) {
						t.Fatalf("%d by %d, homes %v", n, who, wrong.Homes)
					}
				}
			}
		}
		for n := range plan.Does {
			wrong := plan
			wrong.Does = slices.Clone(plan.Does)
			wrong.Does[n] = host
			checkIs(t, p, wrong, false, "nobody does it")
			if impl.PlanStep(p, plan.Trusts, plan.Homes, n, host) || impl.PlanStep(p, trusting(), plan.Homes, n, host) {
				t.Fatalf("%d is done by %d", n, host)
			}
		}
	}
}

// P60, P61: variables and numbers of steps that there are not, and homes that are too few or too many.
func TestVariablesAndStepsThatThereAreNot(t *testing.T) {
	t.Parallel()
	for vars := range 5 {
		for size := range 9 {
			if vars == 0 && size > 0 {
				continue
			}
			p := labelled(slices.Repeat([]string{"012!"}, vars), slices.Repeat([]impl.Step{set(0, num(3))}, size)...)
			homes := make([]int, vars)
			for host := range 3 {
				for v := range vars {
					if !impl.PlanHome(p, alone(), v, host) {
						t.Fatalf("%s: %d is not at %d", written(p), v, host)
					}
				}
				for _, v := range slices.Concat(farNames(0, vars), farNames(vars, vars), []int{-1, vars, 4, 64, math.MaxInt}) {
					if impl.PlanHome(p, alone(), v, host) {
						t.Fatalf("%s: %d is at %d", written(p), v, host)
					}
				}
				for n := range size {
					if !impl.PlanStep(p, alone(), homes, n, host) {
						t.Fatalf("%s: %d is not done by %d", written(p), n, host)
					}
					for _, wrong := range slices.Concat(longer(homes, 0), shorter(homes), [][]int{make([]int, vars+64), make([]int, vars+256)}) {
						if impl.PlanStep(p, alone(), wrong, n, host) {
							t.Fatalf("%s: %d is done by %d, homes %v", written(p), n, host, wrong)
						}
					}
				}
				for _, n := range noNumbers(size) {
					if impl.PlanStep(p, alone(), homes, n, host) {
						t.Fatalf("%s: %d is done by %d", written(p), n, host)
					}
				}
			}
		}
	}
}

// P59, P63, P65: a program that is ok and not fine: there is no plan, and nothing lacks; who may have what, and do what, is told still.
func TestPlansOfProgramsThatAreNotFine(t *testing.T) {
	t.Parallel()
	many := 0
	seen := map[bool]int{}
	for i, p := range leakyProgs() {
		if i%3 > 0 || len(faultsBy(p)) == 0 {
			continue
		}
		many++
		r := ruledBy(p)
		for _, trusts := range [][]int{trusting(), allTrusts()[i%64]} {
			if got, none := planFind(p, trusts), planLack(p, trusts); !got.is(planned{}) || none != (lack{}) {
				t.Fatalf("%s, trusting %v: %v, and %v lacks", written(p), trusts, got, none)
			}
			for _, homes := range r.homes(trusts)[:min(9, len(r.homes(trusts)))] {
				plan := impl.Plan{Trusts: trusts, Homes: homes}
				for n := range r.steps {
					if hosts := r.doers(trusts, homes, n); len(hosts) > 0 {
						plan.Does = append(plan.Does, hosts[0])
					}
				}
				checkIs(t, p, plan, false, "though it is not fine")
				seen[len(plan.Does) == len(r.steps)]++
			}
			checkSteps(t, asking{r, trusts}, make([]int, len(p.Labels)), map[bool]int{})
		}
	}
	if many < 1000 || seen[true] < 500 || seen[false] < 300 {
		t.Errorf("only %d are not fine, %v", many, seen)
	}
}

// checkNeverPlan asks for the one fixed answer whoever trusts whom.
func checkNeverPlan(t *testing.T, p impl.Prog, what string) {
	t.Helper()
	for _, trusts := range [][]int{alone(), trusting(), {7, 7, 0}, nil} {
		checkNoPlan(t, p, trusts, what)
	}
}

// P59, P60, P61, P63, P65
func TestPlansOfWrongPrograms(t *testing.T) {
	t.Parallel()
	leaf := []impl.Step{set(0, num(1))}
	for many := 5; many < 8; many++ {
		checkNeverPlan(t, progOf(many), "too many labels")
		checkNeverPlan(t, progOf(many, set(many-1, taken(0))), "too many labels")
	}
	for _, many := range []int{63, 64, 65, 1 << 12} {
		checkNeverPlan(t, progOf(many), "far too many labels")
	}
	for _, a := range noLabels() {
		for place := range 3 {
			p := progOf(3, set(place, num(1)), set((place+1)%3, taken(place)))
			p.Labels[place] = a
			checkNeverPlan(t, p, fmt.Sprintf("the label %v", a))
		}
	}
	checkNeverPlan(t, progOf(1, slices.Repeat(leaf, 9)...), "nine steps")
	checkNeverPlan(t, progOf(1, when(0, nil, slices.Repeat(leaf, 8))), "nine steps")
	checkNeverPlan(t, impl.Prog{Steps: leaf}, "a step without variables")
	checkNeverPlan(t, progOf(1, when(0, []impl.Step{when(0, []impl.Step{when(0, leaf, nil)}, nil)}, nil)), "too deep")
	checkNeverPlan(t, progOf(1, when(0, nil, []impl.Step{when(0, nil, []impl.Step{when(0, nil, leaf)})})), "too deep")
	loop := []impl.Step{set(0, num(0)), when(0, nil, nil)}
	loop[1].Then = loop
	checkNeverPlan(t, progOf(1, loop...), "steps in themselves")
	other := []impl.Step{when(0, nil, nil), set(0, num(0))}
	other[0].Else = other
	checkNeverPlan(t, progOf(1, other...), "steps in themselves")
	var wide []impl.Step
	for range 3 {
		wide = slices.Repeat([]impl.Step{when(0, wide, wide)}, 1<<12)
	}
	checkNeverPlan(t, progOf(1, wide...), "far too many steps")
}

// P59, P60, P61, P63, P65: a wrong step stands anywhere.
func TestPlansOfWrongSteps(t *testing.T) {
	t.Parallel()
	for _, s := range wrongSteps() {
		for _, steps := range [][]impl.Step{
			{s}, {set(0, num(1)), s}, {s, set(0, taken(1))}, {when(0, []impl.Step{s}, nil)}, {when(1, nil, []impl.Step{set(0, num(1)), s})}, {when(0, nil, []impl.Step{when(1, []impl.Step{s}, nil)})},
		} {
			checkNeverPlan(t, labelled([]string{"012!012", "012!"}, steps...), fmt.Sprint(s))
		}
	}
}

// P59, P63, P64: the empty list and the nil list are the same.
func TestPlansOfNothing(t *testing.T) {
	t.Parallel()
	for _, p := range []impl.Prog{{}, {Labels: []impl.Label{}, Steps: []impl.Step{}}} {
		for _, trusts := range allTrusts() {
			for _, none := range [][]int{nil, {}} {
				checkIs(t, p, impl.Plan{Trusts: trusts, Homes: none, Does: none}, true, "nothing")
				for _, one := range [][]int{{0}, {1}, {2}} {
					checkIs(t, p, impl.Plan{Trusts: trusts, Homes: one, Does: none}, false, "a home of nothing")
					checkIs(t, p, impl.Plan{Trusts: trusts, Homes: none, Does: one}, false, "who does nothing")
				}
				for n := -1; n < 2; n++ {
					if impl.PlanHome(p, trusts, n, 0) || impl.PlanStep(p, trusts, none, n, 0) {
						t.Fatalf("%d, trusting %v", n, trusts)
					}
				}
			}
			if got, none := planFind(p, trusts), planLack(p, trusts); !got.is(planned{impl.Plan{Trusts: trusts}, true}) || none.is {
				t.Errorf("trusting %v: %v, and %v lacks", trusts, got, none)
			}
		}
	}
}

// P59 to P65: as much as there may be, of each shape.
func TestPlansAtTheLimits(t *testing.T) {
	t.Parallel()
	all := allTrusts()
	found := 0
	for i, p := range okShapes(9) {
		if len(inOrder(p.Steps)) < 7 || i%9 > 0 {
			continue
		}
		p.Labels = labelled([]string{"012!1", "01!", "12!2", "012!"}).Labels
		q := mended(p)
		for _, trusts := range [][]int{alone(), trusting(), all[i%64]} {
			if checkPlans(t, asking{ruledBy(q), trusts}).ok {
				found++
			}
		}
	}
	if found < 100 {
		t.Errorf("only %d plans are found", found)
	}
}

// P59, P63: nothing is written into a program, into who trusts whom, or into a plan, nor behind the end of them; each plan that is answered is new memory.
func TestPlansAreNewMemory(t *testing.T) {
	t.Parallel()
	mark := impl.Label{Know: 91, Trust: 92}
	for i, a := range plannedProgs() {
		if i%3 > 0 {
			continue
		}
		var lists, were [][]impl.Step
		labels, wholeLabels := marked(a.prog.Labels, mark)
		trusts, wholeTrusts := marked(a.trusts, 7)
		q := impl.Prog{Labels: labels, Steps: roomy(a.prog.Steps, &lists)}
		for _, list := range lists {
			were = append(were, deepCopy(list))
		}
		got, again := planFind(q, trusts), planFind(q, trusts)
		want := a.find(a.trusts)
		for _, list := range [][]int{again.plan.Trusts, again.plan.Homes, again.plan.Does} {
			overwrite(list, 77)
		}
		homes, wholeHomes := marked(got.plan.Homes, 1)
		does, wholeDoes := marked(got.plan.Does, 2)
		if got.ok != impl.PlanOk(q, impl.Plan{Trusts: trusts, Homes: homes, Does: does}) || planLack(q, trusts) != a.lack(a.trusts) {
			t.Fatalf("%v: %v", a, got)
		}
		for host := range 3 {
			impl.PlanHome(q, trusts, 0, host)
			impl.PlanStep(q, trusts, homes, 0, host)
		}
		if !sameProg(a.prog, q) || !slices.EqualFunc(lists, were, sameSteps) || !slices.Equal(wholeLabels[len(labels):], []impl.Label{mark, mark, mark}) {
			t.Fatalf("%v was written into", a)
		}
		if !slices.Equal(wholeTrusts, slices.Concat(a.trusts, trusting())) || !slices.Equal(wholeHomes, slices.Concat(got.plan.Homes, []int{1, 1, 1})) || !slices.Equal(wholeDoes, slices.Concat(got.plan.Does, []int{2, 2, 2})) {
			t.Fatalf("%v was written into: %v, %v, %v", a, wholeTrusts, wholeHomes, wholeDoes)
		}
		overwrite(labels, mark)
		overwrite(trusts, 66)
		for _, list := range lists {
			spoil(list)
		}
		if !got.is(want) || !planFind(a.prog, a.trusts).is(want) {
			t.Fatalf("%v: %v by now, not %v", a, got, want)
		}
	}
}

// P63: no two lists of a plan share any memory, also behind the end of them.
func TestPlansShareNoLists(t *testing.T) {
	t.Parallel()
	for i, a := range plannedProgs() {
		if i%3 > 0 {
			continue
		}
		for place := range 3 {
			got := planFind(a.prog, a.trusts)
			lists := [][]int{got.plan.Trusts, got.plan.Homes, got.plan.Does}
			var were [][]int
			for _, list := range lists {
				were = append(were, slices.Clone(list[:cap(list)]))
			}
			overwrite(lists[place], 77)
			for other, list := range lists {
				if other != place && !slices.Equal(list[:cap(list)], were[other]) {
					t.Fatalf("%v: %d shares memory with %d", a, place, other)
				}
			}
			if slices.Contains(a.trusts, 77) {
				t.Fatalf("%v was written into", a)
			}
		}
	}
}

// P59, P63: what is not ok is not written into either.
func TestWhatIsNoPlanIsNotWrittenInto(t *testing.T) {
	t.Parallel()
	for _, wrong := range noTrusts()[:40] {
		trusts, whole := marked(wrong, 7)
		was := slices.Clone(whole)
		checkNoPlan(t, progOf(2, tell(0, 0)), trusts, "no trusts")
		if !slices.Equal(whole, was) {
			t.Fatalf("%v is %v by now", wrong, whole)
		}
	}
	for _, s := range wrongSteps() {
		var lists, were [][]impl.Step
		labels, whole := marked(freely(2), impl.Label{Know: 5, Trust: 6})
		p := impl.Prog{Labels: labels, Steps: roomy([]impl.Step{set(0, num(2)), when(1, []impl.Step{set(0, num(2)), s}, nil)}, &lists)}
		wholeWas := slices.Clone(whole)
		for _, list := range lists {
			were = append(were, deepCopy(list))
		}
		checkNeverPlan(t, p, fmt.Sprint(s))
		if !slices.Equal(whole, wholeWas) || !slices.EqualFunc(lists, were, sameSteps) {
			t.Fatalf("%v was written into", s)
		}
	}
}

// P59, P63, P65: the same is answered again, whatever was asked in between.
func TestPlansKeepNothing(t *testing.T) {
	t.Parallel()
	asked := plannedProgs()
	var found []planned
	var none []lack
	for _, a := range asked {
		found = append(found, planFind(a.prog, a.trusts))
		none = append(none, planLack(a.prog, a.trusts))
	}
	for i := len(asked) - 1; i >= 0; i-- {
		a := asked[i]
		if planFind(progOf(5), trusting()).ok || planLack(a.prog, []int{1, 2, 3}).is {
			t.Fatalf("%v: what is not ok has a plan, or lacks", a)
		}
		if got, lacks := planFind(a.prog, a.trusts), planLack(a.prog, a.trusts); !got.is(found[i]) || lacks != none[i] {
			t.Fatalf("%v: %v, and %v lacks, not %v, and %v", a, got, lacks, found[i], none[i])
		}
	}
}
