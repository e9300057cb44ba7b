// Package impl: a program parted among hosts that do not trust one another.
package impl

import "strings"

// Hosts is how many hosts there are; a set of them is bits.
const Hosts = 3

// Label says who may know something, and whom it must not deceive.
type Label struct {
	Know  int
	Trust int
}

// hostSet is a set of hosts, one bit each; it is as wide as the numbers that come in, so that none wraps round into a set.
type hostSet int

// allHosts is the set of every host, and so the greatest number that is a set.
const allHosts hostSet = 1<<Hosts - 1

// labelMark parts the hosts that know from those that trust.
const labelMark = "!"

// isSet says whether the number is a set of hosts at all.
func (s hostSet) isSet() bool {
	return s >= 0 && s <= allHosts
}

// has says whether a host is in the set.
func (s hostSet) has(host int) bool {
	return s>>host&1 == 1
}

// with is the set and a host.
func (s hostSet) with(host int) hostSet {
	return s | 1<<host
}

// covers says whether all of another set are in the set.
func (s hostSet) covers(t hostSet) bool {
	return s&t == t
}

// common is what is in both sets.
func (s hostSet) common(t hostSet) hostSet {
	return s & t
}

// joined is what is in one of both sets.
func (s hostSet) joined(t hostSet) hostSet {
	return s | t
}

// text writes the hosts of the set, ascending.
func (s hostSet) text() string {
	var hosts []byte
	for host := range Hosts {
		if s.has(host) {
			hosts = append(hosts, byte('0'+host))
		}
	}
	return string(hosts)
}

// readHosts reads what text writes; hosts must ascend, or a set would have several texts.
func readHosts(s string) (hostSet, bool) {
	var set hostSet
	least := 0
	for i := range len(s) {
		host := int(s[i]) - '0'
		if host < least || host >= Hosts {
			return 0, false
		}
		set = set.with(host)
		least = host + 1
	}
	return set, true
}

// knowers is the set of who may know.
func (a Label) knowers() hostSet {
	return hostSet(a.Know)
}

// trusters is the set of who trusts.
func (a Label) trusters() hostSet {
	return hostSet(a.Trust)
}

// labelOf is the label of two sets.
func labelOf(know hostSet, trust hostSet) Label {
	return Label{Know: int(know), Trust: int(trust)}
}

// LabelOk says whether a label is ok.
func LabelOk(a Label) bool {
	return a.knowers().isSet() && a.trusters().isSet()
}

// LabelFlows says whether what has a label may become what has another one.
func LabelFlows(a Label, b Label) bool {
	if !LabelOk(a) || !LabelOk(b) {
		return false
	}
	return a.knowers().covers(b.knowers()) && a.trusters().covers(b.trusters())
}

// LabelBoth is the label of what is made of both.
func LabelBoth(a Label, b Label) Label {
	if !LabelOk(a) || !LabelOk(b) {
		return Label{}
	}
	return labelOf(a.knowers().common(b.knowers()), a.trusters().common(b.trusters()))
}

// LabelEither is the label of what becomes both.
func LabelEither(a Label, b Label) Label {
	if !LabelOk(a) || !LabelOk(b) {
		return Label{}
	}
	return labelOf(a.knowers().joined(b.knowers()), a.trusters().joined(b.trusters()))
}

// LabelText writes a label.
func LabelText(a Label) string {
	if !LabelOk(a) {
		return ""
	}
	return a.knowers().text() + labelMark + a.trusters().text()
}

// LabelRead reads a label.
func LabelRead(s string) (Label, bool) {
	// Without a mark the whole text stands ahead of it, so that must be asked for; a second one is no host.
	ahead, behind, marked := strings.Cut(s, labelMark)
	know, knowOk := readHosts(ahead)
	trust, trustOk := readHosts(behind)
	if !marked || !knowOk || !trustOk {
		return Label{}, false
	}
	return labelOf(know, trust), true
}
