package tests

import (
	"math"
	"strings"
	"testing"

	"loop.example/cloison/impl"
)

// setNumber is the number of a set, worked out as the document says it: the sum of 2 to the power of each host.
func setNumber(hosts string) int {
	sum := 0
	for _, h := range hosts {
		power := 1
		for range int(h - '0') {
			power *= 2
		}
		sum += power
	}
	return sum
}

// setTexts is the hosts of every set, ascending, written out so that no bits of the program are leaned on.
func setTexts() []string {
	return []string{"", "0", "1", "2", "01", "02", "12", "012"}
}

type namedLabel struct {
	know, trust string
	label       impl.Label
}

func (n namedLabel) text() string {
	return n.know + "!" + n.trust
}

func allLabels() []namedLabel {
	var out []namedLabel
	for _, k := range setTexts() {
		for _, t := range setTexts() {
			out = append(out, namedLabel{k, t, impl.Label{Know: setNumber(k), Trust: setNumber(t)}})
		}
	}
	return out
}

// noSets is numbers that are no set, many of which would be one if their high bits were lost.
func noSets() []int {
	return []int{
		-1, -2, -7, -8, -9, -256, -249, math.MinInt8, math.MinInt16, math.MinInt32, math.MinInt, math.MinInt + 5,
		8, 9, 10, 15, 16, 23, 64, 255, 256, 257, 263, 1 << 16, 1<<16 + 7, 1 << 31, 1<<32 + 3, 1 << 32, 1<<62 + 1,
		math.MaxInt8, math.MaxInt16, math.MaxInt32, math.MaxInt - 1, math.MaxInt,
	}
}

// noLabels is labels of which one set, or both, are none.
func noLabels() []impl.Label {
	var out []impl.Label
	for _, n := range noSets() {
		for s := range 8 {
			out = append(out, impl.Label{Know: n, Trust: s}, impl.Label{Know: s, Trust: n})
		}
		out = append(out, impl.Label{Know: n, Trust: n}, impl.Label{Know: n, Trust: -n}, impl.Label{Know: 8, Trust: n})
	}
	return out
}

func within(inner, outer string) bool {
	for _, h := range inner {
		if !strings.ContainsRune(outer, h) {
			return false
		}
	}
	return true
}

// keep is the hosts, ascending, of which wanted holds.
func keep(wanted func(host string) bool) string {
	out := ""
	for _, h := range []string{"0", "1", "2"} {
		if wanted(h) {
			out += h
		}
	}
	return out
}

func common(a, b string) string {
	return keep(func(h string) bool { return strings.Contains(a, h) && strings.Contains(b, h) })
}

func joined(a, b string) string {
	return keep(func(h string) bool { return strings.Contains(a, h) || strings.Contains(b, h) })
}

// Said of all promises: what is ok.
func TestLabelOkIsTwoSets(t *testing.T) {
	t.Parallel()
	all := allLabels()
	if len(all) != 64 || impl.Hosts != 3 {
		t.Fatalf("%d labels of %d hosts", len(all), impl.Hosts)
	}
	for _, a := range all {
		if !impl.LabelOk(a.label) {
			t.Errorf("%v is ok", a.label)
		}
	}
	for _, a := range noLabels() {
		if impl.LabelOk(a) {
			t.Errorf("%v is not ok", a)
		}
	}
}

// P1
func TestLabelFlowsIsFewerKnowAndFewerTrust(t *testing.T) {
	t.Parallel()
	all := allLabels()
	for _, a := range all {
		if !impl.LabelFlows(a.label, a.label) {
			t.Errorf("%s may become itself", a.text())
		}
		for _, b := range all {
			want := within(b.know, a.know) && within(b.trust, a.trust)
			if got := impl.LabelFlows(a.label, b.label); got != want {
				t.Errorf("%s to %s: %v", a.text(), b.text(), got)
			}
		}
	}
}

// P1
func TestLabelFlowsOneByOne(t *testing.T) {
	t.Parallel()
	cases := []struct {
		a, b impl.Label
		want bool
	}{
		{impl.Label{}, impl.Label{}, true},
		{impl.Label{Know: 7, Trust: 7}, impl.Label{}, true},
		{impl.Label{}, impl.Label{Know: 7, Trust: 7}, false},
		{impl.Label{Know: 3, Trust: 3}, impl.Label{Know: 1, Trust: 2}, true},
		{impl.Label{Know: 3, Trust: 3}, impl.Label{Know: 4, Trust: 2}, false},
		{impl.Label{Know: 3, Trust: 3}, impl.Label{Know: 1, Trust: 4}, false},
		{impl.Label{Know: 7}, impl.Label{Know: 6}, true},
		{impl.Label{Know: 6}, impl.Label{Know: 7}, false},
		{impl.Label{Trust: 5}, impl.Label{Trust: 1}, true},
		{impl.Label{Trust: 1}, impl.Label{Trust: 5}, false},
		{impl.Label{Know: 7, Trust: 1}, impl.Label{Know: 1, Trust: 7}, false},
	}
	for _, c := range cases {
		if got := impl.LabelFlows(c.a, c.b); got != c.want {
			t.Errorf("%v to %v: %v", c.a, c.b, got)
		}
	}
}

// P2
func TestLabelFlowsIsAnOrder(t *testing.T) {
	t.Parallel()
	all := allLabels()
	for _, a := range all {
		for _, b := range all {
			if !impl.LabelFlows(a.label, b.label) {
				continue
			}
			if a != b && impl.LabelFlows(b.label, a.label) {
				t.Errorf("%s and %s both ways", a.text(), b.text())
			}
			for _, c := range all {
				if impl.LabelFlows(b.label, c.label) && !impl.LabelFlows(a.label, c.label) {
					t.Errorf("%s by %s to %s", a.text(), b.text(), c.text())
				}
			}
		}
	}
}

// P3
func TestLabelBothIsTheFirstThatBothMayBecome(t *testing.T) {
	t.Parallel()
	all := allLabels()
	for _, a := range all {
		for _, b := range all {
			x := impl.LabelBoth(a.label, b.label)
			want := impl.Label{Know: setNumber(common(a.know, b.know)), Trust: setNumber(common(a.trust, b.trust))}
			if x != want {
				t.Errorf("both of %s and %s: %v", a.text(), b.text(), x)
			}
			if !impl.LabelFlows(a.label, x) || !impl.LabelFlows(b.label, x) {
				t.Errorf("%s and %s may become %v", a.text(), b.text(), x)
			}
			for _, c := range all {
				if impl.LabelFlows(a.label, c.label) && impl.LabelFlows(b.label, c.label) && !impl.LabelFlows(x, c.label) {
					t.Errorf("%v may become %s", x, c.text())
				}
			}
		}
	}
}

// P4
func TestLabelEitherIsTheLastThatMayBecomeBoth(t *testing.T) {
	t.Parallel()
	all := allLabels()
	for _, a := range all {
		for _, b := range all {
			x := impl.LabelEither(a.label, b.label)
			want := impl.Label{Know: setNumber(joined(a.know, b.know)), Trust: setNumber(joined(a.trust, b.trust))}
			if x != want {
				t.Errorf("either of %s and %s: %v", a.text(), b.text(), x)
			}
			if !impl.LabelFlows(x, a.label) || !impl.LabelFlows(x, b.label) {
				t.Errorf("%v may become %s and %s", x, a.text(), b.text())
			}
			for _, c := range all {
				if impl.LabelFlows(c.label, a.label) && impl.LabelFlows(c.label, b.label) && !impl.LabelFlows(c.label, x) {
					t.Errorf("%s may become %v", c.text(), x)
				}
			}
		}
	}
}

// P5
func TestLabelBothAndEitherTakeOneAnotherUp(t *testing.T) {
	t.Parallel()
	all := allLabels()
	for _, na := range all {
		for _, nb := range all {
			a, b := na.label, nb.label
			both, either := impl.LabelBoth(a, b), impl.LabelEither(a, b)
			if both != impl.LabelBoth(b, a) || either != impl.LabelEither(b, a) {
				t.Errorf("%s and %s in the other order", na.text(), nb.text())
			}
			if impl.LabelBoth(a, either) != a || impl.LabelBoth(either, a) != a {
				t.Errorf("both of %s and %v", na.text(), either)
			}
			if impl.LabelEither(a, both) != a || impl.LabelEither(both, a) != a {
				t.Errorf("either of %s and %v", na.text(), both)
			}
			flows := impl.LabelFlows(a, b)
			if flows != (both == b) || flows != (either == a) {
				t.Errorf("%s to %s: %v, %v, %v", na.text(), nb.text(), flows, both, either)
			}
		}
	}
}

// P6
func TestLabelIsReadBackFromItsText(t *testing.T) {
	t.Parallel()
	for _, a := range allLabels() {
		text := impl.LabelText(a.label)
		if text != a.text() {
			t.Errorf("%v is written %q", a.label, text)
		}
		if x, ok := impl.LabelRead(text); !ok || x != a.label {
			t.Errorf("%q is read %v, %v", text, x, ok)
		}
	}
}

// checkRead holds one text against all that are a label's.
func checkRead(t *testing.T, s string, texts map[string]impl.Label) {
	t.Helper()
	want, is := texts[s]
	x, ok := impl.LabelRead(s)
	if ok != is || x != want {
		t.Errorf("%q is read %v, %v", s, x, ok)
	}
	if ok && impl.LabelText(x) != s {
		t.Errorf("%q is written %q", s, impl.LabelText(x))
	}
}

func labelTexts(t *testing.T) map[string]impl.Label {
	texts := map[string]impl.Label{}
	for _, a := range allLabels() {
		texts[impl.LabelText(a.label)] = a.label
	}
	if len(texts) != 64 {
		t.Fatalf("%d texts", len(texts))
	}
	return texts
}

// P7
func TestLabelHasJustOneText(t *testing.T) {
	t.Parallel()
	texts := labelTexts(t)
	row := []string{""}
	for range 8 {
		var longer []string
		for _, s := range row {
			checkRead(t, s, texts)
			for _, c := range "0123!" {
				longer = append(longer, s+string(c))
			}
		}
		row = longer
	}
}

// P7
func TestLabelTextWithAnotherByteIsNone(t *testing.T) {
	t.Parallel()
	texts := labelTexts(t)
	for _, a := range allLabels() {
		s := a.text()
		for i := 0; i <= len(s); i++ {
			for b := range 256 {
				one := string([]byte{byte(b)})
				checkRead(t, s[:i]+one+s[i:], texts)
				if i < len(s) {
					checkRead(t, s[:i]+one+s[i+1:], texts)
				}
			}
		}
	}
}

// P7
func TestLabelReadOfWhatIsNoText(t *testing.T) {
	t.Parallel()
	bad := []string{
		"", "0", "012", "!!", "0!1!", "!0!", "0!!1", "10!", "!10", "00!", "!22", "021!", "!021", "3!", "!3", "9!", "013!",
		" !", "! ", " 0!1", "0!1 ", "0 1!", "0!1\n", "\n!", "0! 1", "0,1!", "-1!", "+0!", "-!", "a!", "!a", "\x00!", "!\x00",
		"/!", ":!", "\xff!", "\xb0!", "!\xb1", "\u0660!", "\uff10!", "0\uff01", "\uff01", "0.!", "7!7", "0|1", "0?1",
		strings.Repeat("0", 1000) + "!", strings.Repeat("!", 1000), "012!012" + strings.Repeat("012!012", 100),
	}
	for _, s := range bad {
		if x, ok := impl.LabelRead(s); ok || x != (impl.Label{}) {
			t.Errorf("%q is read %v, %v", s, x, ok)
		}
	}
}

// P8
func TestLabelOfAllBecomesAnythingAndAnythingThatOfNobody(t *testing.T) {
	t.Parallel()
	all, nobody := impl.Label{Know: 7, Trust: 7}, impl.Label{}
	for _, a := range allLabels() {
		if !impl.LabelFlows(all, a.label) || !impl.LabelFlows(a.label, nobody) {
			t.Errorf("%s", a.text())
		}
		if impl.LabelFlows(a.label, all) != (a.label == all) || impl.LabelFlows(nobody, a.label) != (a.label == nobody) {
			t.Errorf("%s the other way", a.text())
		}
		if impl.LabelBoth(all, a.label) != a.label || impl.LabelEither(nobody, a.label) != a.label {
			t.Errorf("%s is not left as it is", a.text())
		}
		if impl.LabelBoth(nobody, a.label) != nobody || impl.LabelEither(all, a.label) != all {
			t.Errorf("%s is not taken up", a.text())
		}
	}
	if impl.LabelText(nobody) != "!" || impl.LabelText(all) != "012!012" {
		t.Errorf("%q, %q", impl.LabelText(nobody), impl.LabelText(all))
	}
}

// P1, P3, P4, P6, P8: what is no label becomes nothing, not even itself.
func TestLabelsThatAreNone(t *testing.T) {
	t.Parallel()
	nothing := impl.Label{}
	others := []impl.Label{nothing, {Know: 7, Trust: 7}, {Know: 5, Trust: 2}, {Know: 8}, {Trust: -1}}
	for _, a := range noLabels() {
		for _, b := range append([]impl.Label{a}, others...) {
			if impl.LabelFlows(a, b) || impl.LabelFlows(b, a) {
				t.Errorf("%v and %v flow", a, b)
			}
			if impl.LabelBoth(a, b) != nothing || impl.LabelBoth(b, a) != nothing {
				t.Errorf("both of %v and %v", a, b)
			}
			if impl.LabelEither(a, b) != nothing || impl.LabelEither(b, a) != nothing {
				t.Errorf("either of %v and %v", a, b)
			}
		}
		if impl.LabelText(a) != "" {
			t.Errorf("%v is written %q", a, impl.LabelText(a))
		}
	}
}
