package allow_test

import (
	"fmt"
	"math"
	"math/rand"
	"slices"
	"strings"
	"sync"
	"testing"
	"unsafe"

	"prefect/aci"
	"prefect/allow"
	"prefect/api"
	"prefect/base"
	"prefect/change"
	"prefect/csn"
	"prefect/dn"
	"prefect/find"
	"prefect/fold"
	"prefect/match"
	"prefect/tree"
)

// What the document names, by its own words.
const (
	manager   = "cn=manager"
	letters   = "rscwad"
	maxValue  = 60
	maxValues = 12
	maxRDNs   = 8
	maxTime   = 1099511627776
	maxSeq    = 65535
	maxReps   = 6
)

func num(time int64, seq, rep int) api.CSN { return api.CSN{Time: time, Seq: seq, Rep: rep} }

// id makes the number of that Time. 0 is the root's.
func id(time int64) api.CSN { return num(time, 0, 0) }

// rdn reads a part of a name.
func rdn(s string) api.RDN {
	r, err := dn.ParseRDN(s)
	if err != api.OK {
		panic("no part of a name: " + s)
	}
	return r
}

// form tells the one form of the name whose text s is.
func form(s string) string {
	d, err := dn.Parse(s)
	if err != api.OK {
		panic("no name: " + s)
	}
	return match.DN(d)
}

func plus(attr string, values ...string) api.Mod {
	return api.Mod{Kind: api.MAdd, Attr: attr, Values: values}
}

// mods makes the mod that adds those rules: none, if there are none.
func mods(rules []string) []api.Mod {
	if len(rules) == 0 {
		return nil
	}
	return []api.Mod{plus("aci", rules...)}
}

func add(n, parent int64, name string, mods ...api.Mod) api.Change {
	return api.Change{CSN: id(n), Kind: api.KAdd, ID: id(n), Parent: id(parent), RDN: rdn(name), Mods: mods}
}

func del(n, of int64) api.Change {
	return api.Change{CSN: id(n), Kind: api.KDelete, ID: id(of)}
}

func modify(n, of int64, mods ...api.Mod) api.Change {
	return api.Change{CSN: id(n), Kind: api.KModify, ID: id(of), Mods: mods}
}

func move(n, of, to int64, name string) api.Change {
	return api.Change{CSN: id(n), Kind: api.KMove, ID: id(of), Parent: id(to), RDN: rdn(name), DelOld: true}
}

// entry makes one with those attributes.
func entry(n, parent int64, state int, name string, l ...api.Attr) api.Entry {
	return api.Entry{ID: id(n), Parent: id(parent), State: state, RDN: rdn(name), Attrs: l}
}

func attr(name string, values ...string) api.Attr { return api.Attr{Name: name, Values: values} }

// with tells x as do changes it.
func with[T any](x T, do func(x *T)) T {
	do(&x)
	return x
}

// after applies changes, as they come, to a new tree; each must be one.
func after(t *testing.T, l ...api.Change) *tree.Tree {
	t.Helper()
	d := tree.New()
	for i, c := range l {
		if !change.Is(c) {
			t.Fatalf("change %d isn't one: %v", i, c)
		}
		d.Apply(c)
	}
	return d
}

// three makes a tree of the root, 1 ou=x beneath it, 2 cn=a beneath that, with those rules.
func three(t *testing.T, root, mid, low []string) *tree.Tree {
	t.Helper()
	l := []api.Change{add(1, 0, "ou=x", mods(mid)...), add(2, 1, "cn=a", mods(low)...)}
	if len(root) > 0 {
		l = append(l, modify(3, 0, mods(root)...))
	}
	return after(t, l...)
}

// one makes a tree of the root and of 1 cn=a beneath it, with those rules.
func one(t *testing.T, rules ...string) *tree.Tree {
	t.Helper()
	return after(t, add(1, 0, "cn=a", mods(rules)...))
}

// told tells a tree, an entry a line.
func told(d *tree.Tree) string {
	var lines []string
	for _, e := range d.All() {
		lines = append(lines, fmt.Sprintf("%s %s %d %s %v %q", csn.Text(e.ID), csn.Text(e.Parent), e.State, dn.PrintRDN(e.RDN), e.Renamed, e.Attrs))
	}
	return strings.Join(lines, "\n")
}

// lines tells rules, one a line. What is no rule is told as a line without anything.
func lines(l []api.Rule) string {
	var texts []string
	for _, r := range l {
		texts = append(texts, aci.Print(r))
	}
	return strings.Join(texts, "\n")
}

// shape tells attributes with all that they have.
func shape(l []api.Attr) string {
	var texts []string
	for _, a := range l {
		texts = append(texts, fmt.Sprintf("%q:%d%q", a.Name, len(a.Values), a.Values))
	}
	return strings.Join(texts, " ")
}

// names tells the Names of attributes.
func names(l []api.Attr) string {
	var texts []string
	for _, a := range l {
		texts = append(texts, a.Name)
	}
	return strings.Join(texts, " ")
}

// model tells by its own account, of all entries of a tree, what the calls are to tell.
type model struct {
	entries map[api.CSN]api.Entry
	ruled   map[api.CSN][]api.Rule
	named   map[api.CSN]string
	forms   map[string]string // of the names that rules have
}

func modelOf(d *tree.Tree) model {
	m := model{map[api.CSN]api.Entry{}, map[api.CSN][]api.Rule{}, map[api.CSN]string{}, map[string]string{}}
	for _, e := range d.All() {
		m.entries[e.ID] = e
	}
	for c := range m.entries {
		m.ruled[c], m.named[c] = m.collect(c), m.form(c)
		for _, r := range m.ruled[c] {
			if strings.HasPrefix(r.Who, "dn:") {
				m.forms[r.Who] = form(r.Who[3:])
			}
		}
	}
	return m
}

func (m model) ids() []api.CSN {
	var l []api.CSN
	for c := range m.entries {
		l = append(l, c)
	}
	slices.SortFunc(l, csn.Cmp)
	return l
}

func (m model) visible(c api.CSN) bool {
	e, ok := m.entries[c]
	return ok && e.State != api.Dead
}

// own tells the rules of that entry alone.
func (m model) own(c api.CSN) []api.Rule {
	var l []api.Rule
	for _, a := range m.entries[c].Attrs {
		for _, v := range a.Values {
			if r, err := aci.Parse(v); a.Name == "aci" && err == api.OK {
				l = append(l, r)
			}
		}
	}
	return l
}

// from tells the rules that what is beneath that entry has from it and from above.
func (m model) from(c api.CSN) []api.Rule {
	var l []api.Rule
	for _, r := range m.own(c) {
		if r.Sub {
			l = append(l, r)
		}
	}
	if c == id(0) {
		return l
	}
	return append(l, m.from(m.entries[c].Parent)...)
}

func (m model) collect(c api.CSN) []api.Rule {
	switch {
	case !m.visible(c):
		return nil
	case c == id(0):
		return m.own(c)
	}
	return append(m.own(c), m.from(m.entries[c].Parent)...)
}

// form tells the one form of an entry's name: "" of the root, and of what is too far down to have one.
func (m model) form(c api.CSN) string {
	var d api.DN
	for ; c != id(0); c = m.entries[c].Parent {
		d = append(d, m.entries[c].RDN)
	}
	return match.DN(d)
}

func (m model) rules(c api.CSN) []api.Rule { return m.ruled[c] }
func (m model) name(c api.CSN) string      { return m.named[c] }

// applies tells whether r is one of those by which may is told.
func (m model) applies(r api.Rule, who string, right byte, c api.CSN, attr string) bool {
	if !slices.Contains([]byte(r.Rights), right) {
		return false
	}
	if len(r.Attrs) > 0 && !slices.Contains(r.Attrs, attr) && (attr != "" || r.Deny) {
		return false
	}
	if r.Who == "any" {
		return true
	}
	if r.Who == "self" {
		return who != "" && m.name(c) == who
	}
	return m.forms[r.Who] == who
}

func (m model) may(who string, right byte, c api.CSN, attr string) bool {
	if !m.visible(c) {
		return false
	}
	if who == manager {
		return true
	}
	granted := false
	for _, r := range m.rules(c) {
		if m.applies(r, who, right, c, attr) {
			if r.Deny {
				return false
			}
			granted = true
		}
	}
	return granted
}

func (m model) hides(who string, right byte, c api.CSN, l []api.Attr) []api.Attr {
	var open []api.Attr
	for _, a := range l {
		if m.may(who, right, c, a.Name) {
			open = append(open, a)
		}
	}
	return open
}

func (m model) reads(who string, c api.CSN) []api.Attr {
	return m.hides(who, 'r', c, m.entries[c].Attrs)
}

// strange are numbers that no entry here has: beside those that are there, and no change's.
var strange = []api.CSN{
	num(1, 1, 0), num(1, 0, 1), num(1, 0, 5), num(1, maxSeq, 0), num(0, 1, 0), num(0, 0, 1), num(2, 0, 1), num(2, 1, 0), id(99), id(maxTime),
	id(-1), id(-2), num(0, -1, 0), num(0, 0, -1), num(1, -1, 0), num(1, 0, -1), num(1, 0, maxReps), num(1, maxSeq+1, 0), id(maxTime + 1), num(1, 1<<32, 0), num(1, 0, 1<<32), id(1<<32 + 1), num(0, 1<<16, 0),
	num(maxTime, maxSeq, maxReps-1), num(math.MaxInt64, math.MaxInt, math.MaxInt), num(math.MinInt64, math.MinInt, math.MinInt), num(1, math.MaxInt, 0), num(1, 0, math.MinInt),
}

// asked are attributes to ask for, of types and of none.
var asked = []string{"", "cn", "sn", "aci", "title", "ou", "userpassword", "entryid", "CN", "Cn", "cN", "SN", " cn", "cn ", "cn,sn", "c", "cnn", "nosuch", "*", "any", "\x00", "\xff", strings.Repeat("cn", 1000)}

// whos are those who ask, beside the names of entries.
var whos = []string{"", manager, "cn=a", "cn=nobody", "cn=a,ou=x", "CN=a", "cn=A", "cn=Manager", "CN=manager", "cn=manager,ou=x", "any", "self", "dn:", "dn:cn=a", "*", " ", "cn", "no name", "\x00", "\xff", ",", "=", strings.Repeat("cn=a,", 1000)}

// check asks all calls of d of what the model says, and that d stays as it is. With all: by each one who asks, each right, each attribute.
func check(t *testing.T, what string, d *tree.Tree, all bool) {
	t.Helper()
	was, m := told(d), modelOf(d)
	who, rights, attrs, others := slices.Clone(whos[:5]), []byte("rx"), asked[:4], strange[:4]
	if all {
		who, rights, attrs, others = slices.Clone(whos), []byte(letters+"x"), asked, strange
	}
	for _, c := range m.ids() {
		who = append(who, m.name(c))
	}
	slices.Sort(who)
	who = slices.Compact(who)
	for _, c := range append(m.ids(), others...) {
		if got, want := allow.Rules(d, c), m.rules(c); lines(got) != lines(want) || len(got) != len(want) {
			t.Fatalf("P19.1: %s: Rules of %s:\n%s\nwant\n%s\nof\n%s", what, csn.Text(c), lines(got), lines(want), was)
		}
		for i, w := range who {
			if all || i < 6 || w == m.name(c) {
				m.ask(t, what, d, w, c, rights, attrs)
			}
		}
	}
	if told(d) != was {
		t.Fatalf("%s: what is asked is changed:\n%s\nit was\n%s", what, told(d), was)
	}
}

// ask asks May, Hides and Reads of one entry and one who.
func (m model) ask(t *testing.T, what string, d *tree.Tree, who string, c api.CSN, rights []byte, attrs []string) {
	t.Helper()
	var list []api.Attr
	for i, a := range attrs {
		list = append(list, attr(a, strings.Split("abcd"[:i%5], "")...))
	}
	for _, right := range rights {
		for _, a := range attrs {
			if got, want := allow.May(d, who, right, c, a), m.may(who, right, c, a); got != want {
				t.Fatalf("P19.2: %s: May of %.100q, %q, %s, %.100q: %v, of\n%s", what, who, right, csn.Text(c), a, got, told(d))
			}
		}
		if got, want := allow.Hides(d, who, right, c, list), m.hides(who, right, c, list); shape(got) != shape(want) {
			t.Fatalf("P19.3: %s: Hides of %.100q, %q, %s: %s, want %s, of\n%s", what, who, right, csn.Text(c), shape(got), shape(want), told(d))
		}
	}
	if got, want := allow.Reads(d, who, c), m.reads(who, c); shape(got) != shape(want) {
		t.Fatalf("P19.3: %s: Reads of %.100q, %s: %s, want %s, of\n%s", what, who, csn.Text(c), shape(got), shape(want), told(d))
	}
}

// story is the tree of many rows here; it has rules of all kinds at most entries, and values of aci that are none:
//
//	0
//	  1 ou=x
//	    2 cn=a+sn=b
//	      3 cn=c (without aci)
//	    6 cn=a+sn=b+entryid=6.0.0
//	  4 ou=g (glue)
//	    5 cn=k
//	  7 ou=z (without aci)
//	    8 cn=m
//	  9 aci=grant r sub * any (glue, with a rule by its name)
//	    10 cn=n
//
// Dead are 11 ou=d, and beneath it 12 cn=e.
func story() []api.Change {
	return []api.Change{
		modify(100, 0, plus("description", "the root"), plus("aci", "grant s base * any", "no rule", "grant r sub description,ou any", "deny w sub title self", "grant rs sub * dn:cn=boss")),
		add(1, 0, "ou=x", plus("aci", "grant rsc sub cn,sn self", "grant a base * any", "deny r sub sn dn:cn=boss", "grant w sub * dn:sn=B+cn=A,ou=X"), plus("title", "t")),
		add(2, 1, "cn=a+sn=b", plus("aci", "grant rw base * self", "grant d sub * any"), plus("cn", "d", "e"), plus("title", "u"), plus("userpassword", "\x00\xff")),
		add(3, 2, "cn=c", plus("sn", "y", "z"), plus("description", "d")),
		add(6, 1, "SN=B+CN=A", plus("aci", "grant c base cn any", "Grant r base * any", "deny c base cn dn:cn=boss")),
		add(4, 0, "ou=g", plus("aci", "grant rscwad sub * any")), add(5, 4, "cn=k", plus("aci", "grant r base sn any"), plus("sn", "v")), del(101, 4),
		add(7, 0, "ou=z"), add(8, 7, "cn=m", plus("aci", "deny rs base ou any")),
		add(9, 0, "aci=grant r sub * any", plus("aci", "grant w sub * any")), add(10, 9, "cn=n", plus("sn", "w")), del(102, 9),
		add(11, 0, "ou=d", plus("aci", "grant rscwad sub * any")), add(12, 11, "cn=e", plus("aci", "grant rscwad base * any")), del(103, 12), del(104, 11),
	}
}

// TestConstants: the document's letters and limits.
func TestConstants(t *testing.T) {
	if string([]rune{api.RRead, api.RSearch, api.RCompare, api.RWrite, api.RAdd, api.RDelete}) != letters {
		t.Error("the rights aren't the document's")
	}
	if api.MaxValue != maxValue || api.MaxValues != maxValues || api.MaxRDNs != maxRDNs || api.MaxTime != maxTime || api.MaxSeq != maxSeq || api.MaxReps != maxReps {
		t.Error("the limits aren't the document's")
	}
	if api.Live != 1 || api.Glue != 2 || api.Dead != 3 || form("CN=Manager") != manager {
		t.Error("the states, or the manager, aren't the document's")
	}
}

// P19.1, P19.2, P19.3: of the story.
func TestStory(t *testing.T) {
	d := after(t, story()...)
	states := map[int]int{}
	for _, e := range d.All() {
		states[e.State]++
	}
	if states[api.Live] != 9 || states[api.Glue] != 2 || states[api.Dead] != 2 {
		t.Fatalf("it is another tree: %v\n%s", states, told(d))
	}
	check(t, "story", d, true)
}

// P19.1
func TestRules(t *testing.T) {
	d := after(t, story()...)
	root := "grant r sub description,ou any\ndeny w sub title self\ngrant rs sub * dn:cn=boss"
	x := "grant rsc sub cn,sn self\ndeny r sub sn dn:cn=boss\ngrant w sub * dn:sn=B+cn=A,ou=X"
	for n, want := range map[int64]string{
		0:  "grant s base * any\n" + root,
		1:  "grant rsc sub cn,sn self\ngrant a base * any\ndeny r sub sn dn:cn=boss\ngrant w sub * dn:sn=B+cn=A,ou=X\n" + root,
		2:  "grant rw base * self\ngrant d sub * any\n" + x + "\n" + root,
		3:  "grant d sub * any\n" + x + "\n" + root,
		4:  root, // glue, whose rules are gone
		5:  "grant r base sn any\n" + root,
		6:  "grant c base cn any\ndeny c base cn dn:cn=boss\n" + x + "\n" + root,
		7:  root,
		8:  "deny rs base ou any\n" + root,
		9:  "grant r sub * any\n" + root, // glue, but for its name's
		10: "grant r sub * any\n" + root,
		11: "", 12: "", 13: "", 100: "",
	} {
		if got := lines(allow.Rules(d, id(n))); got != want {
			t.Errorf("P19.1: Rules of %d:\n%s\nwant\n%s", n, got, want)
		}
	}
	for _, c := range strange {
		if got := allow.Rules(d, c); len(got) > 0 {
			t.Errorf("P19.1: Rules of %v: %s", c, lines(got))
		}
	}
	if got := allow.Rules(tree.New(), id(0)); len(got) > 0 {
		t.Errorf("P19.1: Rules of the root alone: %s", lines(got))
	}
}

// P19.1: each part of a rule is told.
func TestRulesParts(t *testing.T) {
	want := []api.Rule{
		{Deny: true, Rights: "rd", Who: "any", Attrs: []string{"cn", "sn"}},
		{Rights: letters, Sub: true, Who: `dn:cn=a\, b+sn=c  d,ou=x`},
		{Rights: "s", Sub: true, Who: "self", Attrs: []string{"aci"}},
	}
	var texts []string
	for _, r := range want {
		texts = append(texts, aci.Print(r))
	}
	got := allow.Rules(one(t, texts...), id(1))
	if !slices.EqualFunc(got, want, aci.Same) {
		t.Errorf("P19.1: %v", got)
	}
	got = allow.Rules(after(t, add(1, 0, "ou=x", mods(texts)...), add(2, 1, "cn=a")), id(2))
	if !slices.EqualFunc(got, want[1:], aci.Same) {
		t.Errorf("P19.1: from above: %v", got)
	}
}

// P19.1: the own ones first, base and sub, in the order of the values; then from above those with Sub, the nearest first.
func TestRulesOrder(t *testing.T) {
	rules := func(name string) []string { // alike but for the name, and not in the order of their bytes
		return []string{"grant s sub * dn:cn=" + name, "grant d base * dn:cn=" + name, "deny r sub * dn:cn=" + name, "deny a base * dn:cn=" + name, "deny a sub cn dn:cn=" + name}
	}
	subs := func(name string) []string { l := rules(name); return []string{l[0], l[2], l[4]} }
	d := three(t, rules("m"), rules("z"), rules("b"))
	d.Apply(add(4, 2, "cn=l"))
	d.Apply(add(5, 4, "cn=k", mods(rules("a"))...))
	for n, want := range map[int64][]string{
		0: rules("m"), 1: slices.Concat(rules("z"), subs("m")), 2: slices.Concat(rules("b"), subs("z"), subs("m")), 4: slices.Concat(subs("b"), subs("z"), subs("m")), 5: slices.Concat(rules("a"), subs("b"), subs("z"), subs("m")),
	} {
		if got := lines(allow.Rules(d, id(n))); got != strings.Join(want, "\n") {
			t.Errorf("P19.1: Rules of %d:\n%s\nwant\n%s", n, got, strings.Join(want, "\n"))
		}
	}
	d.Apply(modify(6, 1, api.Mod{Kind: api.MDelete, Attr: "aci", Values: rules("z")[:1]}, plus("aci", rules("z")[0]))) // comes last from now on
	l := rules("z")
	want := slices.Concat(l[1:], l[:1], subs("m"))
	if got := lines(allow.Rules(d, id(1))); got != strings.Join(want, "\n") {
		t.Errorf("P19.1: Rules in another order:\n%s\nwant\n%s", got, strings.Join(want, "\n"))
	}
	check(t, "order", d, false)
}

// P19.1: the same rule is told as often as it is there.
func TestRulesTwice(t *testing.T) {
	rule := []string{"grant r sub * any"}
	if got := lines(allow.Rules(three(t, rule, rule, rule), id(2))); got != "grant r sub * any\ngrant r sub * any\ngrant r sub * any" {
		t.Errorf("P19.1: %s", got)
	}
}

// P19.1: a rule without Sub is for its own entry alone.
func TestBase(t *testing.T) {
	for at := range 3 {
		for _, scope := range []string{"base", "sub"} {
			all := make([][]string, 3)
			all[at] = []string{"grant r " + scope + " * any"}
			d := three(t, all[0], all[1], all[2])
			for n := range 3 {
				want := n == at || n > at && scope == "sub"
				if got := len(allow.Rules(d, id(int64(n)))); (got == 1) != want || got > 1 {
					t.Errorf("P19.1: %s at %d, Rules of %d: %d", scope, at, n, got)
				}
				if got := allow.May(d, "", 'r', id(int64(n)), "cn"); got != want {
					t.Errorf("P19.2: %s at %d, May of %d: %v", scope, at, n, got)
				}
			}
		}
	}
}

// noRules are values of aci that are no rules.
var noRules = []string{
	"x", " ", "any", "grant", "grant r base *", "grant r base * ", "grant r base * any ", " grant r base * any", "grant  r base * any", "Grant r base * any", "GRANT R BASE * ANY", "grant R base * any", "allow r base * any", "grant sr base * any", "grant rr base * any",
	"grant x base * any", "grant rx base * any", "grant  base * any", "grant r one * any", "grant r Sub * any", "grant r base ** any", "grant r base CN any", "grant r base sn,cn any", "grant r base cn,cn any", "grant r base nosuch any", "grant r base cn, any", "grant r base *,cn any",
	"grant r base * Any", "grant r base * Self", "grant r base * dn:", "grant r base * dn", "grant r base * dn:cn", "grant r base * dn:CN=a", `grant r base * dn:cn=\61`, "grant r base * cn=a", "grant r base * DN:cn=a", "grant r base * nobody", "grant r base * dn: cn=a", "grant r base * dn:cn=a,", "r base * any",
}

// P19.1: values that are no rules play no part, wherever they stand; and nobody may by them.
func TestNoRules(t *testing.T) {
	good := []string{"grant r sub cn any", "deny s base * self", "grant w sub * dn:cn=a"}
	for i, bad := range noRules {
		for at := range len(good) + 1 {
			l := slices.Insert(slices.Clone(good), at, bad)
			d := three(t, l, l, l)
			want := strings.Join(slices.Concat(good, []string{good[0], good[2], good[0], good[2]}), "\n")
			if got := lines(allow.Rules(d, id(2))); got != want {
				t.Errorf("P19.1: %q at %d:\n%s\nwant\n%s", bad, at, got, want)
			}
			if !allow.May(d, "", 'r', id(2), "cn") || allow.May(d, "", 'r', id(2), "sn") || allow.May(d, "", 'x', id(2), "") || !allow.May(d, "cn=a", 'w', id(2), "sn") {
				t.Errorf("P19.2: %q at %d: it isn't passed over", bad, at)
			}
		}
		l := []string{bad, noRules[(i+1)%len(noRules)], noRules[(i+7)%len(noRules)]}
		d := three(t, l, l, l)
		for n := range int64(3) {
			if got := allow.Rules(d, id(n)); len(got) > 0 {
				t.Errorf("P19.1: %q: %s", l, lines(got))
			}
			for _, right := range []byte(letters + "xR ") {
				for _, who := range []string{"", "cn=a", "cn=a,ou=x", "ou=x"} {
					if allow.May(d, who, right, id(n), "") || allow.May(d, who, right, id(n), "cn") {
						t.Errorf("P19.4: %q: %q may %q", l, who, right)
					}
				}
			}
			if got := allow.Reads(d, "cn=a,ou=x", id(n)); len(got) > 0 {
				t.Errorf("P19.4: %q: Reads: %s", l, shape(got))
			}
		}
	}
}

// P19.1: rules are the values of aci, and of no other attribute.
func TestOtherAttributes(t *testing.T) {
	rule := "grant rscwad sub * any"
	d := after(t, modify(100, 0, plus("description", rule), plus("mail", rule)), add(1, 0, "cn="+rule, plus("c", rule), plus("title", rule), plus("userpassword", rule)), add(2, 1, "ou=b"))
	for n := range int64(3) {
		if got := allow.Rules(d, id(n)); len(got) > 0 || allow.May(d, "", 'r', id(n), "") {
			t.Errorf("P19.1: Rules of %d: %s", n, lines(got))
		}
	}
}

// row is one question: what there is of rules, and what is asked of 2 cn=a,ou=x.
type row struct {
	root, mid, low []string
	who            string
	right          byte
	attr           string
	want           bool
}

func rules(l ...string) []string { return l }

// hold asks each row.
func hold(t *testing.T, rows []row) {
	t.Helper()
	for i, r := range rows {
		d := three(t, r.root, r.mid, r.low)
		if got := allow.May(d, r.who, r.right, id(2), r.attr); got != r.want {
			t.Errorf("P19.2: row %d: May of %q, %q, %q: %v, with\n%q\n%q\n%q", i, r.who, r.right, r.attr, got, r.root, r.mid, r.low)
		}
		if got := allow.Hides(d, r.who, r.right, id(2), []api.Attr{attr(r.attr, "v")}); (len(got) == 1) != r.want {
			t.Errorf("P19.3: row %d: Hides: %s", i, shape(got))
		}
		if modelOf(d).may(r.who, r.right, id(2), r.attr) != r.want {
			t.Errorf("row %d: the model says otherwise", i)
		}
	}
}

// P19.2, P19.4: without a rule nobody but the manager may.
func TestNobody(t *testing.T) {
	d := three(t, nil, nil, nil)
	for n := range int64(3) {
		for _, right := range []byte(letters + "xR\x00\xff") {
			for _, a := range asked {
				for _, who := range whos {
					if got := allow.May(d, who, right, id(n), a); got != (who == manager) {
						t.Errorf("P19.4: May of %.50q, %q, %d, %.50q: %v", who, right, n, a, got)
					}
				}
			}
		}
		for _, who := range whos {
			if got := allow.Reads(d, who, id(n)); (len(got) > 0) != (who == manager && n > 0) {
				t.Errorf("P19.4: Reads of %.50q, %d: %s", who, n, shape(got))
			}
		}
	}
}

// P19.2
func TestWho(t *testing.T) {
	hold(t, []row{
		// any
		{low: rules("grant r base * any"), who: "", right: 'r', attr: "cn", want: true},
		{low: rules("grant r base * any"), who: "cn=b", right: 'r', attr: "cn", want: true},
		{low: rules("grant r base * any"), who: "cn=a,ou=x", right: 'r', attr: "", want: true},
		{low: rules("grant r base * any"), who: "no name", right: 'r', attr: "cn", want: true},
		{low: rules("deny r base * any", "grant r base * self"), who: "cn=a,ou=x", right: 'r', attr: "cn"},
		// self
		{low: rules("grant r base * self"), who: "cn=a,ou=x", right: 'r', attr: "cn", want: true},
		{mid: rules("grant r sub * self"), who: "cn=a,ou=x", right: 'r', attr: "cn", want: true},
		{root: rules("grant r sub * self"), who: "cn=a,ou=x", right: 'r', attr: "cn", want: true},
		{low: rules("grant r base * self"), who: "", right: 'r', attr: "cn"},
		{low: rules("grant r base * self"), who: "ou=x", right: 'r', attr: "cn"},
		{mid: rules("grant r sub * self"), who: "ou=x", right: 'r', attr: "cn"}, // self is who is asked for, not where the rule is
		{low: rules("grant r base * self"), who: "cn=a", right: 'r', attr: "cn"},
		{low: rules("grant r base * self"), who: "cn=a,ou=y", right: 'r', attr: "cn"},
		{low: rules("grant r base * self"), who: "cn=b,cn=a,ou=x", right: 'r', attr: "cn"},
		{low: rules("grant r base * self"), who: "self", right: 'r', attr: "cn"},
		{low: rules("grant r base * self"), who: "CN=A,OU=X", right: 'r', attr: "cn"}, // which match's DN doesn't tell
		{low: rules("grant r base * self"), who: "cn=a, ou=x", right: 'r', attr: "cn"},
		{low: rules("deny r base * self", "grant r base * any"), who: "cn=a,ou=x", right: 'r', attr: "cn"},
		{low: rules("deny r base * self", "grant r base * any"), who: "cn=b,ou=x", right: 'r', attr: "cn", want: true},
		{low: rules("deny r base * self", "grant r base * any"), who: "", right: 'r', attr: "cn", want: true},
		// dn:
		{low: rules("grant r base * dn:cn=b"), who: "cn=b", right: 'r', attr: "cn", want: true},
		{mid: rules("grant r sub * dn:cn=b"), who: "cn=b", right: 'r', attr: "cn", want: true},
		{root: rules("grant r sub * dn:cn=b"), who: "cn=b", right: 'r', attr: "cn", want: true},
		{low: rules("grant r base * dn:cn=b"), who: "", right: 'r', attr: "cn"},
		{low: rules("grant r base * dn:cn=b"), who: "cn=c", right: 'r', attr: "cn"},
		{low: rules("grant r base * dn:cn=b"), who: "cn=b,ou=x", right: 'r', attr: "cn"},
		{low: rules("grant r base * dn:cn=b,ou=x"), who: "cn=b", right: 'r', attr: "cn"},
		{low: rules("grant r base * dn:cn=b,ou=x"), who: "ou=x", right: 'r', attr: "cn"},
		{low: rules("grant r base * dn:cn=b"), who: "dn:cn=b", right: 'r', attr: "cn"},
		{low: rules("grant r base * dn:cn=b"), who: "cn=a,ou=x", right: 'r', attr: "cn"}, // a name isn't self
		{low: rules("grant r base * dn:cn=a,ou=x"), who: "cn=a,ou=x", right: 'r', attr: "cn", want: true},
		{low: rules("grant r base * dn:cn=b", "grant s base * any"), who: "cn=c", right: 'r', attr: "cn"},
		{low: rules("grant r base * dn:cn=b", "grant r base * dn:cn=c"), who: "cn=c", right: 'r', attr: "cn", want: true},
		{low: rules("grant r base * any", "deny r base * dn:cn=b"), who: "cn=c", right: 'r', attr: "cn", want: true},
		{low: rules("grant r base * any", "deny r base * dn:cn=b"), who: "cn=b", right: 'r', attr: "cn"},
		{low: rules("grant r base * any", "deny r base * dn:cn=b"), who: "", right: 'r', attr: "cn", want: true},
		{low: rules("grant r base * dn:cn=any"), who: "any", right: 'r', attr: "cn"},
		{low: rules("grant r base * dn:cn=self"), who: "cn=self", right: 'r', attr: "cn", want: true},
		{low: rules("grant r base * dn:cn=self"), who: "cn=a,ou=x", right: 'r', attr: "cn"},
		{low: rules("grant r base * dn:cn=any"), who: "cn=b", right: 'r', attr: "cn"},
		// dn: of a name otherwise written than who is
		{low: rules("grant r base * dn:cn=B"), who: "cn=b", right: 'r', attr: "cn", want: true},
		{low: rules("grant r base * dn:cn=B"), who: "cn=B", right: 'r', attr: "cn"}, // which match's DN doesn't tell
		{low: rules(`grant r base * dn:cn=\  B  c\ ,ou=\ Y`), who: "cn=b c,ou=y", right: 'r', attr: "cn", want: true},
		{low: rules("grant r base * dn:sn=Z+cn=B,ou=y"), who: "cn=b+sn=z,ou=y", right: 'r', attr: "cn", want: true},
		{low: rules("grant r base * dn:sn=Z+cn=B,ou=y"), who: "sn=z+cn=b,ou=y", right: 'r', attr: "cn"},
		{low: rules("grant r base * dn:mail=B"), who: "mail=b", right: 'r', attr: "cn"}, // the case of which plays a part
		{low: rules("grant r base * dn:mail=B"), who: "mail=B", right: 'r', attr: "cn", want: true},
		{low: rules("grant r base * dn:nosuch=B"), who: "nosuch=B", right: 'r', attr: "cn", want: true},
		{low: rules("grant r base * dn:member=CN=B"), who: "member=cn=b", right: 'r', attr: "cn", want: true},
		{low: rules(`grant r base * dn:member=SN=B\+cn=\ A`), who: form(`member=cn=a\+sn=b`), right: 'r', attr: "cn"}, // a blank ahead: no name
		{low: rules(`grant r base * dn:member=SN=B\+CN=A`), who: form(`member=cn=a\+sn=b`), right: 'r', attr: "cn", want: true},
		{low: rules(`grant r base * dn:cn=\ `), who: `cn=\ `, right: 'r', attr: "cn", want: true},
		{low: rules("grant r base * dn:CN=b"), who: "cn=b", right: 'r', attr: "cn"}, // no rule
		{low: rules("grant r base * dn:cn=b,OU=y"), who: "cn=b,ou=y", right: 'r', attr: "cn"},
		{low: rules("grant r base * dn:cn= b"), who: "cn=b", right: 'r', attr: "cn"},
	})
}

// P19.2: the manager may all, whatever the rules are, if he is written so.
func TestManager(t *testing.T) {
	none := rules("deny rscwad sub * any", "deny rscwad sub * dn:cn=manager")
	d := three(t, none, none, none)
	for n := range int64(3) {
		for right := range 256 {
			for _, a := range asked {
				if !allow.May(d, manager, byte(right), id(n), a) {
					t.Fatalf("P19.2: the manager may not %q, %d, %.50q", byte(right), n, a)
				}
				if allow.May(d, "", byte(right), id(n), a) {
					t.Fatalf("P19.2: nobody may %q, %d, %.50q", byte(right), n, a)
				}
			}
		}
		e, _ := d.Get(id(n))
		if got := allow.Reads(d, manager, id(n)); shape(got) != shape(e.Attrs) {
			t.Errorf("P19.3: Reads of the manager, %d: %s", n, shape(got))
		}
	}
	for _, who := range []string{"CN=manager", "cn=Manager", "cn=MANAGER", "cn= manager", `cn=\ manager`, "cn=manager ", " cn=manager", "cn=manager,", "cn=manager,ou=x", "ou=x,cn=manager", "cn=manager+sn=a", "cn=manage", "cn=managers", "manager", "dn:cn=manager", "cn=manager\x00", "sn=manager"} {
		if allow.May(d, who, 'r', id(2), "cn") || allow.May(d, who, 'r', id(0), "") || len(allow.Reads(d, who, id(2))) > 0 {
			t.Errorf("P19.2: %q is taken as the manager", who)
		}
	}
	some := after(t, add(1, 0, "cn=manager", plus("aci", "grant r sub sn any")), add(2, 1, "cn=Manager"), add(3, 0, "cn=MANAGER"))
	for n := range int64(4) {
		if !allow.May(some, manager, 'd', id(n), "cn") || allow.May(some, form("cn=manager,cn=manager"), 'd', id(n), "cn") || allow.May(some, "cn=manager+entryid=3.0.0", 'd', id(n), "cn") {
			t.Errorf("P19.2: an entry of the manager's name, %d", n)
		}
	}
}

// P19.2: granted and denied, here and above: a deny counts more than all grants, wherever they are.
func TestDeny(t *testing.T) {
	grant, deny := rules("grant r sub * any"), rules("deny r sub * any")
	lists := map[string][]string{"": nil, "g": grant, "d": deny, "gd": slices.Concat(grant, deny), "dg": slices.Concat(deny, grant)}
	for a, root := range lists {
		for b, mid := range lists {
			for c, low := range lists {
				d, n := three(t, root, mid, low), 0
				for i, said := range []string{a, a + b, a + b + c} {
					want := strings.Contains(said, "g") && !strings.Contains(said, "d")
					if got := allow.May(d, "", 'r', id(int64(i)), "cn"); got != want {
						t.Errorf("P19.2: %q %q %q: May of %d: %v", a, b, c, i, got)
					}
					if want {
						n++
					}
				}
				if n > 0 && strings.Contains(a, "d") {
					t.Errorf("%q %q %q: %d", a, b, c, n)
				}
			}
		}
	}
	hold(t, []row{
		{low: rules("deny r base * any"), root: grant, who: "cn=b", right: 'r', attr: "cn"},
		{low: rules("grant r base * any"), root: deny, who: "cn=b", right: 'r', attr: "cn"},
		{low: rules("grant r base * any"), root: rules("deny r base * any"), who: "cn=b", right: 'r', attr: "cn", want: true},
		{low: rules("deny s base * any"), root: grant, who: "cn=b", right: 'r', attr: "cn", want: true},
		{low: rules("deny s base * any"), root: grant, who: "cn=b", right: 's', attr: "cn"},
		{low: rules("deny r base * dn:cn=c"), root: grant, who: "cn=b", right: 'r', attr: "cn", want: true},
		{low: rules("deny r base * self"), root: grant, who: "cn=b", right: 'r', attr: "cn", want: true},
		{low: rules("deny r base * any"), who: "cn=b", right: 'r', attr: "cn"},
		{low: rules("deny s base * any"), who: "cn=b", right: 'r', attr: "cn"}, // what isn't denied isn't granted by that
		{low: rules("grant r base * self"), mid: rules("deny r sub * dn:cn=a,ou=x"), who: "cn=a,ou=x", right: 'r', attr: "cn"},
		{low: rules("grant r base * self"), mid: rules("deny r sub * dn:ou=x"), who: "cn=a,ou=x", right: 'r', attr: "cn", want: true},
		{low: rules("grant r base * any", "deny r base cn any"), who: "", right: 'r', attr: "cn"},
		{low: rules("grant r base * any", "deny r base cn any"), who: "", right: 'r', attr: "sn", want: true},
		{low: rules("grant r base * any", "deny r base cn any"), who: "", right: 'r', attr: "", want: true},
		{low: rules("grant r base cn any", "deny r base * any"), who: "", right: 'r', attr: "cn"},
		{low: rules("grant r base cn any", "deny r base * any"), who: "", right: 'r', attr: ""},
		{low: rules("grant r base cn any", "deny r base cn any"), who: "", right: 'r', attr: "cn"},
		{low: rules("grant r base cn any", "deny r base cn any"), who: "", right: 'r', attr: "", want: true},
	})
}

// P19.2: each of the rights, granted alone, with others, all, none; and what is no right.
func TestRights(t *testing.T) {
	for bits := 1; bits < 1<<len(letters); bits++ {
		rights := ""
		for i := range len(letters) {
			if bits>>i&1 != 0 {
				rights += letters[i : i+1]
			}
		}
		granted, denied := one(t, "grant "+rights+" base * any"), one(t, "grant rscwad base * any", "deny "+rights+" base cn any")
		several := one(t, "grant "+rights[:1]+" base * any", "grant "+rights+" base cn dn:cn=b")
		for c := range 256 {
			right := byte(c)
			in := strings.Contains(rights, string([]byte{right}))
			if allow.May(granted, "", right, id(1), "cn") != in || allow.May(granted, "", right, id(1), "") != in {
				t.Errorf("P19.2: by %q: %q", rights, right)
			}
			if allow.May(denied, "", right, id(1), "cn") != (!in && strings.Contains(letters, string([]byte{right}))) {
				t.Errorf("P19.2: by a deny of %q: %q", rights, right)
			}
			if allow.May(several, "", right, id(1), "cn") != (right == rights[0]) || allow.May(several, "cn=b", right, id(1), "cn") != in {
				t.Errorf("P19.2: by two, %q: %q", rights, right)
			}
		}
	}
}

// P19.2: of all attributes, of one, of several.
func TestAttrs(t *testing.T) {
	hold(t, []row{
		{low: rules("grant r base * any"), right: 'r', attr: "cn", want: true},
		{low: rules("grant r base * any"), right: 'r', attr: "", want: true},
		{low: rules("grant r base * any"), right: 'r', attr: "nosuch", want: true},
		{low: rules("grant r base * any"), right: 'r', attr: "CN", want: true},
		{low: rules("grant r base * any"), right: 'r', attr: "*", want: true},
		{low: rules("grant r base cn any"), right: 'r', attr: "cn", want: true},
		{low: rules("grant r base cn any"), right: 'r', attr: "sn"},
		{low: rules("grant r base cn any"), right: 'r', attr: "c"},
		{low: rules("grant r base c any"), right: 'r', attr: "cn"},
		{low: rules("grant r base cn any"), right: 'r', attr: "CN"}, // Attrs has cn, and no other letters
		{low: rules("grant r base cn any"), right: 'r', attr: "*"},
		{low: rules("grant r base cn any"), right: 'r', attr: " cn"},
		{low: rules("grant r base cn any"), right: 'r', attr: "nosuch"},
		{low: rules("grant r base cn any"), right: 'r', attr: "", want: true},
		{low: rules("grant r base cn any"), right: 's', attr: ""},
		{low: rules("grant r base cn,sn,title any"), right: 'r', attr: "cn", want: true},
		{low: rules("grant r base cn,sn,title any"), right: 'r', attr: "sn", want: true},
		{low: rules("grant r base cn,sn,title any"), right: 'r', attr: "title", want: true},
		{low: rules("grant r base cn,sn,title any"), right: 'r', attr: "ou"},
		{low: rules("grant r base cn,sn,title any"), right: 'r', attr: "cn,sn"},
		{low: rules("grant r base cn,sn,title any"), right: 'r', attr: "", want: true},
		{low: rules("grant r base cn any", "grant r base sn any"), right: 'r', attr: "cn", want: true},
		{low: rules("grant r base cn any", "grant r base sn any"), right: 'r', attr: "sn", want: true},
		{low: rules("grant r base cn any", "grant s base sn any"), right: 'r', attr: "sn"},
		{low: rules("grant r base cn any", "grant r base sn self"), right: 'r', attr: "sn"},
		{low: rules("grant r base cn self"), right: 'r', attr: ""},
		// with Deny
		{low: rules("deny r base * any", "grant r base * any"), right: 'r', attr: ""},
		{low: rules("deny r base * any", "grant r base * any"), right: 'r', attr: "*"},
		{low: rules("deny r base cn any"), right: 'r', attr: ""},
		{low: rules("deny r base cn any"), right: 'r', attr: "sn"},
		{low: rules("deny r base cn any", "grant r base sn any"), right: 'r', attr: "", want: true},
		{low: rules("deny r base cn any", "grant r base sn any"), right: 'r', attr: "cn"},
		{low: rules("deny r base cn any", "grant r base sn any"), right: 'r', attr: "sn", want: true},
		{low: rules("deny r base cn any", "grant r base * any"), right: 'r', attr: "cn"},
		{low: rules("deny r base cn any", "grant r base * any"), right: 'r', attr: "sn", want: true},
		{low: rules("deny r base cn any", "grant r base * any"), right: 'r', attr: "", want: true},
		{low: rules("deny r base cn any", "grant r base * any"), right: 'r', attr: "*", want: true},
		{low: rules("deny r base cn any", "grant r base * any"), right: 'r', attr: "CN", want: true},
		{low: rules("deny r base cn any", "grant r base * any"), right: 'r', attr: "nosuch", want: true},
		{low: rules("deny r base cn,sn any", "grant r base * any"), right: 'r', attr: "sn"},
		{low: rules("deny r base cn,sn any", "grant r base * any"), right: 'r', attr: "title", want: true},
		{low: rules("deny s base cn any", "grant rs base * any"), right: 'r', attr: "cn", want: true},
	})
	types := "aci,c,cn,dc,description,entryid,mail,member,o,ou,sn,title,uid,uidnumber,userpassword"
	l := strings.Split(types, ",")
	for i, a := range l { // each alone, and all but one
		but := strings.Join(slices.Delete(slices.Clone(l), i, i+1), ",")
		for _, text := range []string{"grant r base " + a + " any", "grant r base " + but + " any"} {
			d := tree.Load([]api.Entry{{State: api.Live, Attrs: []api.Attr{attr("aci", text)}}})
			if len(allow.Rules(d, id(0))) != 1 {
				t.Fatalf("%s: no rule", text)
			}
			for _, b := range l {
				if got := allow.May(d, "", 'r', id(0), b); got != (b == a == !strings.Contains(text, ",")) {
					t.Errorf("P19.2: by %q, of %s: %v", text, b, got)
				}
			}
		}
	}
}

// P19.2: self is who has the entry's own name.
func TestSelf(t *testing.T) {
	d := after(t, modify(100, 0, plus("aci", "grant r sub * self")), add(1, 0, "ou=x"), add(2, 1, "SN=B+CN=A"), add(3, 2, "cn=C"), add(4, 1, "cn=a+sn=b"), add(5, 0, "cn=g"), add(6, 5, "cn=h"), del(7, 5), add(8, 0, "ou=X"), add(9, 0, "cn=d"), del(10, 9))
	own := map[int64]string{1: "ou=x", 2: "cn=a+sn=b,ou=x", 3: "cn=c,cn=a+sn=b,ou=x", 4: "cn=a+entryid=4.0.0+sn=b,ou=x", 5: "cn=g", 6: "cn=h,cn=g", 8: "entryid=8.0.0+ou=x"}
	for n := range int64(12) {
		for k, who := range own {
			if got := allow.May(d, who, 'r', id(n), "cn"); got != (k == n) {
				t.Errorf("P19.2: May of %s, self, of %d: %v", who, n, got)
			}
			if got := allow.Reads(d, who, id(n)); (len(got) > 0) != (k == n) {
				t.Errorf("P19.3: Reads of %s, self, of %d: %s", who, n, shape(got))
			}
		}
		for _, who := range []string{"", "cn=a", "cn=d", "ou=x,ou=x", "sn=b+cn=a,ou=x", "SN=B+CN=A,ou=x", "cn=a+sn=b", "cn=c", "self", "cn=a+sn=b+entryid=4.0.0,ou=x", "0.0.0", "1.0.0"} {
			if allow.May(d, who, 'r', id(n), "cn") || allow.May(d, who, 'r', id(n), "") {
				t.Errorf("P19.2: May of %q, self, of %d", who, n)
			}
		}
	}
	d.Apply(move(20, 2, 0, "cn=moved")) // from now on it is another one
	if allow.May(d, "cn=a+sn=b,ou=x", 'r', id(2), "cn") || !allow.May(d, "cn=moved", 'r', id(2), "cn") || !allow.May(d, "cn=c,cn=moved", 'r', id(3), "cn") || allow.May(d, "cn=c,cn=a+sn=b,ou=x", 'r', id(3), "cn") {
		t.Error("P19.2: self, when it was moved")
	}
	check(t, "self", d, true)
}

// P19.2: whoever is so far down that its name is none is nobody's self, nor is the root.
func TestDeep(t *testing.T) {
	const n = 2 * maxRDNs
	l := []api.Change{modify(100, 0, plus("aci", "grant r sub * self", "grant s sub * any", "grant w sub * dn:cn=a,cn=a"))}
	for i := int64(1); i <= n; i++ {
		l = append(l, add(i, i-1, "cn=A", mods(rules(fmt.Sprintf("grant c sub * dn:cn=%d", i)))...))
	}
	d := after(t, l...)
	for i := int64(0); i <= n; i++ {
		name := strings.TrimSuffix(strings.Repeat("cn=a,", int(i)), ",")
		for k := int64(0); k <= n; k++ {
			if got, want := allow.May(d, name, 'r', id(k), "cn"), k == i && i > 0 && i <= maxRDNs; got != want {
				t.Errorf("P19.2: self of %d parts, %d parts down: %v", i, k, got)
			}
		}
		if allow.May(d, "", 'r', id(i), "cn") || !allow.May(d, "", 's', id(i), "cn") || !allow.May(d, name, 's', id(i), "cn") || !allow.May(d, "cn=a,cn=a", 'w', id(i), "cn") || !allow.May(d, manager, 'a', id(i), "cn") {
			t.Errorf("P19.2: %d parts down", i)
		}
		for k := int64(1); k <= n; k++ {
			if got := allow.May(d, fmt.Sprint("cn=", k), 'c', id(i), ""); got != (k <= i) {
				t.Errorf("P19.2: %d parts down, by a rule %d parts down: %v", i, k, got)
			}
		}
		if got := len(allow.Rules(d, id(i))); got != int(3+i) {
			t.Errorf("P19.1: %d parts down: %d rules", i, got)
		}
	}
	check(t, "deep", d, false)
}

// P19.2: a name that a rule has needn't be anybody's; of one that is renamed it is what it is then.
func TestNamed(t *testing.T) {
	d := after(t, modify(100, 0, plus("aci", "grant r sub * dn:cn=a", "grant s sub * dn:entryid=2.0.0+cn=A", "grant w sub * dn:cn=nobody,ou=no", "grant c sub * dn:cn=later")), add(1, 0, "cn=a"), add(2, 0, "cn=A"))
	second := "cn=a+entryid=2.0.0"
	ask := func(what, who, rights string) {
		t.Helper()
		for n := range int64(3) {
			for _, right := range []byte(letters) {
				if got := allow.May(d, who, right, id(n), "cn"); got != strings.Contains(rights, string([]byte{right})) {
					t.Errorf("P19.2: %s: May of %s, %q, %d: %v", what, who, right, n, got)
				}
			}
		}
	}
	for _, what := range []string{"all there", "the first one gone", "the second one moved"} {
		switch what {
		case "the first one gone":
			d.Apply(move(10, 1, 0, "cn=z"))
		case "the second one moved":
			d.Apply(move(11, 2, 0, "cn=later"))
		}
		ask(what, "cn=a", "r") // who is asked by his name, whether there is an entry of that name or not
		ask(what, second, "s")
		ask(what, "cn=nobody,ou=no", "w")
		ask(what, "cn=later", "c")
		ask(what, "cn=z", "")
		ask(what, "", "")
		check(t, what, d, true)
	}
}

// P19.1, P19.2, P19.3: what is dead, or not known, has no rules, and nobody may, not even the manager; the root is as others are.
func TestEdges(t *testing.T) {
	all := "grant rscwad sub * any"
	dead := tree.Load([]api.Entry{{State: api.Live, Attrs: []api.Attr{attr("aci", all)}}, entry(1, 0, api.Live, "cn=a"), entry(2, 1, api.Dead, "cn=b", attr("aci", all), attr("cn", "b")), entry(3, 2, api.Dead, "cn=c", attr("aci", all), attr("cn", "c"))})
	if e, ok := dead.Get(id(2)); !ok || e.State != api.Dead {
		t.Fatalf("it is another tree:\n%s", told(dead))
	}
	by := after(t, modify(100, 0, plus("aci", all)), add(1, 0, "cn=a", plus("aci", all)), add(2, 1, "cn=b", plus("aci", all)), add(3, 2, "cn=c", plus("aci", all)), del(4, 3), del(5, 2))
	for what, d := range map[string]*tree.Tree{"loaded": dead, "deleted": by} {
		for _, c := range append([]api.CSN{id(2), id(3), id(4), id(100)}, strange...) {
			for _, who := range []string{"", manager, "cn=b,cn=a", "cn=a"} {
				for _, a := range []string{"", "cn", "aci"} {
					for _, right := range []byte(letters) {
						if allow.May(d, who, right, c, a) || len(allow.Hides(d, who, right, c, []api.Attr{attr(a, "v")})) > 0 {
							t.Errorf("P19.2: %s: May of %q, %q, %v, %q", what, who, right, c, a)
						}
					}
				}
				if len(allow.Rules(d, c)) > 0 || len(allow.Reads(d, who, c)) > 0 {
					t.Errorf("P19.1, P19.3: %s: Rules, Reads of %q, %v", what, who, c)
				}
			}
		}
		for n := range int64(2) {
			if !allow.May(d, "", 'd', id(n), "") || len(allow.Rules(d, id(n))) == 0 {
				t.Errorf("P19.2: %s: nobody may what is granted of %d", what, n)
			}
		}
	}
	by.Apply(add(6, 2, "cn=e")) // which makes its parent glue, without its rules
	if got := lines(allow.Rules(by, id(2))); got != all+"\n"+all || !allow.May(by, "", 'r', id(2), "cn") || shape(allow.Reads(by, "", id(2))) != shape([]api.Attr{attr("cn", "b")}) {
		t.Errorf("P19.1: of what is glue: %s", got)
	}
	root := after(t, modify(1, 0, plus("aci", "grant r base cn,aci any", "grant s sub * any"), plus("cn", "r"), plus("sn", "s")))
	for who, want := range map[string]string{"": "", "cn=b": "", manager: "aci cn sn"} {
		if got := names(allow.Reads(root, who, id(0))); got != want || allow.May(root, who, 'w', id(0), "") != (who == manager) {
			t.Errorf("P19.3: Reads of %q, the root: %s", who, got)
		}
	}
	root = after(t, modify(1, 0, plus("aci", "grant r base aci,cn any", "grant s sub * self"), plus("cn", "r"), plus("sn", "s")))
	if got := names(allow.Reads(root, "", id(0))); got != "aci cn" || allow.May(root, "", 's', id(0), "") {
		t.Errorf("P19.3: Reads of nobody, the root: %s", got)
	}
	for _, who := range whos {
		if got := allow.Reads(tree.New(), who, id(0)); len(got) > 0 || allow.May(tree.New(), who, 'r', id(0), "") != (who == manager) {
			t.Errorf("P19.3: Reads of %.50q, the root alone: %s", who, shape(got))
		}
	}
}

// P19.3
func TestHides(t *testing.T) {
	l := []api.Attr{attr("title", "t"), attr("cn", "a", "b"), attr("nosuch", "n"), attr("cn", "c"), attr("CN", "d"), attr("", "e"), attr("sn"), attr("", "f"), attr("*", "g")}
	for _, r := range []struct {
		rules []string
		who   string
		right byte
		want  []int // of l
	}{
		{nil, "", 'r', nil},
		{rules("grant r base * any"), "", 'r', []int{0, 1, 2, 3, 4, 5, 6, 7, 8}},
		{rules("grant r base * any"), "", 's', nil},
		{rules("grant s base * any"), "", 's', []int{0, 1, 2, 3, 4, 5, 6, 7, 8}},
		{rules("grant r base cn any"), "", 'r', []int{1, 3, 5, 7}},
		{rules("grant r base sn any"), "", 'r', []int{5, 6, 7}},
		{rules("grant r base sn,title any"), "", 'r', []int{0, 5, 6, 7}},
		{rules("grant r base ou any"), "", 'r', []int{5, 7}},
		{rules("grant r base * any", "deny r base cn any"), "", 'r', []int{0, 2, 4, 5, 6, 7, 8}},
		{rules("grant r base * any", "deny r base cn,sn,title any"), "", 'r', []int{2, 4, 5, 7, 8}},
		{rules("grant r base cn any", "deny r base * any"), "", 'r', nil},
		{rules("grant r base cn self", "grant r base sn dn:cn=b", "grant r base title any"), "cn=a", 'r', []int{0, 1, 3, 5, 7}},
		{rules("grant r base cn self", "grant r base sn dn:cn=b", "grant r base title any"), "cn=b", 'r', []int{0, 5, 6, 7}},
		{rules("grant r base cn self", "grant r base sn dn:cn=b", "grant r base title any"), "", 'r', []int{0, 5, 7}},
		{rules("deny r base * any"), manager, 'r', []int{0, 1, 2, 3, 4, 5, 6, 7, 8}},
		{nil, manager, 'x', []int{0, 1, 2, 3, 4, 5, 6, 7, 8}},
		{rules("grant r base * any"), "", 'x', nil},
	} {
		d := one(t, r.rules...)
		var want []api.Attr
		for _, i := range r.want {
			want = append(want, l[i])
		}
		if got := allow.Hides(d, r.who, r.right, id(1), l); shape(got) != shape(want) {
			t.Errorf("P19.3: %q, Hides of %q, %q: %s, want %s", r.rules, r.who, r.right, shape(got), shape(want))
		}
		for _, none := range [][]api.Attr{nil, {}, make([]api.Attr, 0, 5)} {
			if got := allow.Hides(d, r.who, r.right, id(1), none); len(got) > 0 {
				t.Errorf("P19.3: %q, Hides of none: %s", r.rules, shape(got))
			}
		}
	}
	if got := allow.Hides(one(t), manager, 'r', id(9), l); len(got) > 0 {
		t.Errorf("P19.3: Hides of what isn't known: %s", shape(got))
	}
}

// P19.3
func TestReads(t *testing.T) {
	of := func(l ...string) *tree.Tree {
		return after(t, add(1, 0, "cn=a", plus("aci", l...), plus("cn", "B", "c"), plus("sn", "s"), plus("title", "t"), plus("userpassword", "\x00", "w")))
	}
	for _, r := range []struct {
		rules []string
		who   string
		want  string
	}{
		{rules("grant r base * any"), "", "aci cn sn title userpassword"},
		{rules("grant r base * any", "deny r base userpassword any"), "", "aci cn sn title"},
		{rules("grant r base * any", "deny r base aci any"), "", "cn sn title userpassword"},
		{rules("grant r base sn any"), "", "sn"},
		{rules("grant r base * any", "deny r base aci,cn,title,userpassword any"), "", "sn"},
		{rules("grant r base ou any"), "", ""},
		{rules("grant scwad base * any"), "", ""},
		{rules("grant r base * self", "grant r base cn any"), "", "cn"},
		{rules("grant r base * self", "grant r base cn any"), "cn=a", "aci cn sn title userpassword"},
		{rules("grant r base * self", "grant r base cn any"), "cn=b", "cn"},
		{rules("grant r base * dn:cn=b", "deny r base cn any"), "cn=b", "aci sn title userpassword"},
		{rules("deny rscwad base * any"), manager, "aci cn sn title userpassword"},
		{rules("no rule"), manager, "aci cn sn title userpassword"},
		{rules("no rule"), "cn=a", ""},
	} {
		d := of(r.rules...)
		got := allow.Reads(d, r.who, id(1))
		if names(got) != r.want {
			t.Errorf("P19.3: %q, Reads of %q: %s, want %s", r.rules, r.who, names(got), r.want)
		}
		e, _ := d.Get(id(1))
		for _, a := range got {
			i := slices.IndexFunc(e.Attrs, func(b api.Attr) bool { return b.Name == a.Name })
			if !slices.Equal(a.Values, e.Attrs[i].Values) {
				t.Errorf("P19.3: %q, Reads of %q: %s: %q", r.rules, r.who, a.Name, a.Values)
			}
		}
	}
	many := tree.Load([]api.Entry{{State: api.Live}, entry(1, 0, api.Live, "cn=a", attr("aci", "grant r base * any", "deny r base sn any"), attr("nosuch", "n"), attr("sn", "s"), attr("x-9", "x"))})
	if got := names(allow.Reads(many, "", id(1))); got != "aci nosuch x-9" {
		t.Errorf("P19.3: Reads of attributes of no type: %s", got)
	}
}

// drawnRule draws a rule, or what is none.
func drawnRule(r *rand.Rand) string {
	pick := func(l ...string) string { return l[r.Intn(len(l))] }
	if r.Intn(8) == 0 {
		return noRules[r.Intn(len(noRules))]
	}
	rights := pick("r", "r", "rs", "rw", "s", "cwad", letters)
	return pick("grant", "grant", "deny") + " " + rights + " " + pick("base", "sub") + " " + pick("*", "*", "cn", "sn", "cn,sn", "aci,title") + " " + pick("any", "any", "self", "dn:cn=a", "dn:cn=B,cn=a", "dn:cn=a+sn=b", "dn:cn=manager")
}

// drawn makes n changes of all Kinds, rising, each of its own number, with rules among them, and what they name mostly there, or dead.
func drawn(r *rand.Rand, n int) []api.Change {
	parts := []string{"cn=a", "cn=A", "cn=b", "sn=B+cn=a", "cn=c", "title=t", "aci=grant r sub * any", `aci=grant rs base cn\,sn self`, "sn=q"}
	var l []api.Change
	var entries []int64
	for at := int64(1); len(l) < n; at++ {
		some := func() api.CSN { // mostly one of those that came last, or the root, or one that isn't
			switch i := r.Intn(10); {
			case i < 8 && len(entries) > 0:
				return id(entries[max(0, len(entries)-1-r.Intn(6))])
			case i == 8:
				return id(at - 1)
			}
			return id(0)
		}
		values := func() []api.Mod {
			var l []api.Mod
			for range r.Intn(3) {
				l = append(l, plus("aci", drawnRule(r)))
			}
			return append(l, plus("sn", "v"), plus("title", "w"))[:min(len(l)+2, 1+r.Intn(4))]
		}
		c := api.Change{CSN: id(at), Kind: []int{api.KAdd, api.KAdd, api.KAdd, api.KDelete, api.KDelete, api.KModify, api.KModify, api.KMove}[r.Intn(8)]}
		switch c.Kind {
		case api.KAdd:
			c.ID, c.Parent, c.RDN, c.Mods = id(at), some(), rdn(parts[r.Intn(len(parts))]), values()
		case api.KDelete:
			c.ID = some()
		case api.KModify:
			c.ID, c.Mods = some(), values()
			if r.Intn(4) == 0 {
				c.Mods[0] = api.Mod{Kind: []int{api.MReplace, api.MDelete}[r.Intn(2)], Attr: "aci"}
			}
		case api.KMove:
			c.ID, c.Parent, c.RDN, c.DelOld = some(), some(), rdn(parts[r.Intn(len(parts))]), r.Intn(2) == 0
		}
		if !change.Is(c) { // of the root, or of what is above it
			continue
		}
		if c.Kind == api.KAdd {
			entries = append(entries, at)
		}
		l = append(l, c)
	}
	return l
}

// promise asks of d what P19.3 and P19.4 say, by no model. It tells how many visible entries had no rules, and how many had some.
func promise(t *testing.T, what string, d *tree.Tree) (bare, ruled int) {
	t.Helper()
	for _, e := range d.All() {
		none := len(allow.Rules(d, e.ID)) == 0
		name, visible := find.Name(d, e.ID)
		switch {
		case !none:
			ruled++
		case visible:
			bare++
		}
		for _, who := range []string{"", "cn=a", "cn=b,cn=a", match.DN(name), manager} {
			if none {
				for _, right := range []byte(letters) {
					for _, a := range []string{"", "cn", "aci"} {
						if allow.May(d, who, right, e.ID, a) != (visible && who == manager) {
							t.Fatalf("P19.4: %s: %q may %q of %s, of\n%s", what, who, right, csn.Text(e.ID), told(d))
						}
					}
				}
			}
			reads := allow.Reads(d, who, e.ID)
			for _, a := range e.Attrs {
				may := allow.May(d, who, 'r', e.ID, a.Name)
				if slices.ContainsFunc(reads, func(b api.Attr) bool { return shape([]api.Attr{a}) == shape([]api.Attr{b}) }) != may {
					t.Fatalf("P19.3: %s: %q reads %s of %s: not %v, of\n%s", what, who, a.Name, csn.Text(e.ID), may, told(d))
				}
			}
			if len(reads) > len(e.Attrs) || !visible && len(reads) > 0 {
				t.Fatalf("P19.3: %s: %q reads of %s: %s, of\n%s", what, who, csn.Text(e.ID), shape(reads), told(d))
			}
		}
	}
	return bare, ruled
}

// P19.1 to P19.4: behind rows of changes of all Kinds, in whichever way they came to be a tree.
func TestDrawn(t *testing.T) {
	r := rand.New(rand.NewSource(190))
	bare, ruled, states := 0, 0, map[int]int{}
	for i := range 120 {
		l := drawn(r, 1+r.Intn(40))
		d := after(t, l...)
		for _, e := range d.All() {
			states[e.State]++
		}
		g := base.New()
		for _, c := range l {
			g.Put(c)
		}
		at := r.Intn(len(l) + 1)
		g.Trim(l[max(0, at-1)].CSN)
		for how, d := range map[string]*tree.Tree{"as they come": d, "Of": fold.Of(l), "Upon": fold.Upon(fold.Of(l[:at]), l[at:]), "a log": g.Tree(), "loaded": tree.Load(d.All()), "a copy": d.Copy()} {
			what := fmt.Sprint("drawn ", i, ", ", how)
			b, n := promise(t, what, d)
			bare, ruled = bare+b, ruled+n
			if i%20 == 0 {
				check(t, what, d, false)
			}
		}
		check(t, fmt.Sprint("drawn ", i), d, i%60 == 0)
	}
	if bare < 1000 || ruled < 3000 || states[api.Live] < 500 || states[api.Glue] < 100 || states[api.Dead] < 100 {
		t.Errorf("but %d visible ones without rules, %d with them, %v", bare, ruled, states)
	}
}

// P19.1 to P19.4: while a tree is made, each step.
func TestSteps(t *testing.T) {
	r := rand.New(rand.NewSource(191))
	for i, l := range [][]api.Change{story(), drawn(r, 40), drawn(r, 40)} {
		d := tree.New()
		for j, c := range l {
			d.Apply(c)
			what := fmt.Sprint("row ", i, ", step ", j)
			promise(t, what, d)
			check(t, what, d, false)
		}
	}
}

// noTrees are lists that no All gave.
func noTrees() [][]api.Entry {
	every := attr("aci", "grant rscwad sub * any")
	root, a, b, c := api.Entry{State: api.Live, Attrs: []api.Attr{every}}, entry(1, 0, api.Live, "cn=a", every), entry(2, 1, api.Live, "cn=b", every), entry(3, 2, api.Glue, "cn=c", every)
	bare := api.Entry{State: api.Live}
	wrong := func(l ...api.Attr) []api.Entry { return []api.Entry{bare, entry(1, 0, api.Live, "cn=a", l...), b} }
	return [][]api.Entry{
		nil, {}, {{}}, {a}, {a, b, c}, {c, b, a, root}, {root, b}, {root, root, a, a, b, b}, {bare, a, b, c}, {root, bare, a},
		{root, entry(1, 1, api.Live, "cn=a", every), b}, {root, entry(1, 2, api.Live, "cn=a", every), b}, {root, entry(1, 3, api.Live, "cn=a", every), b, c}, {root, entry(1, 2, api.Dead, "cn=a", every), entry(2, 1, api.Dead, "cn=a", every)},
		{root, entry(1, 0, api.Dead, "cn=a", every), b, c}, {bare, entry(1, 0, api.Glue, "cn=a", every), b}, {root, entry(1, 0, 0, "cn=a", every), b}, {root, entry(1, 0, 4, "cn=a", every), b}, {root, entry(1, 0, -1, "cn=a", every)},
		{with(root, func(e *api.Entry) { e.State = api.Dead }), a, b}, {with(root, func(e *api.Entry) { e.State, e.Parent, e.RDN = api.Dead, id(1), rdn("cn=a") }), a, b}, {root, with(a, func(e *api.Entry) { e.RDN = nil }), b},
		{root, with(a, func(e *api.Entry) { e.ID = num(1, 0, maxReps) }), entry(-1, 0, api.Live, "cn=a", every)}, {root, entry(1, -1, api.Live, "cn=a", every)},
		wrong(attr("ACI", "grant r sub * any")), wrong(attr("aci", "grant r sub * any", "grant r sub * any")), wrong(attr("aci")), wrong(attr("", "grant r sub * any")), wrong(attr("sn", "s"), attr("aci", "grant r sub * any")),
		wrong(attr("aci", "no rule"), attr("aci", "grant r sub * any")), wrong(attr("aci", "grant r sub * dn:cn="+strings.Repeat("a", maxValue))), wrong(attr("aci", "grant r sub * dn:cn="+strings.Repeat("a", maxValue+1))), wrong(attr("aci", "grant r sub * any\x00", "\xff", "")),
		wrong(attr("aci", noRules...)), wrong(attr("aci", append(slices.Clone(noRules), "grant r sub * any")...)),
	}
}

// P19.1 to P19.4, DOC.md, 1: of whatever tree, each call comes back, and tells of that tree.
func TestTrees(t *testing.T) {
	var trees []*tree.Tree
	for _, l := range noTrees() {
		trees = append(trees, tree.Load(l), fold.Upon(tree.Load(l), story()), base.Load(id(2), l, story()).Tree())
	}
	g := base.New()
	for _, c := range story() {
		g.Put(c)
	}
	trees = append(trees, tree.New(), &tree.Tree{}, tree.New().Copy(), fold.Of(nil), fold.Of(story()), fold.Upon(tree.New(), story()), base.New().Tree(), g.Tree(), tree.Load(nil), tree.Load(fold.Of(story()).All()))
	for _, floor := range []int64{5, 12, 101, 104, 200} {
		g.Trim(id(floor))
		trees = append(trees, g.Tree(), tree.Load(g.Base()))
	}
	for i, d := range trees {
		what := fmt.Sprint("tree ", i)
		promise(t, what, d)
		check(t, what, d, i%60 == 0)
	}
}

// P19.1 to P19.3, DOC.md, 1: whatever is handed in, each call comes back.
func TestWhatever(t *testing.T) {
	r := rand.New(rand.NewSource(192))
	odd := func() int {
		return []int{0, 0, 1, 2, 3, -1, maxReps, maxSeq + 1, math.MaxInt, math.MinInt, 1 << 32, r.Int() - r.Int()}[r.Intn(12)]
	}
	junk := func(l []string) string {
		if r.Intn(2) == 0 {
			return l[r.Intn(len(l))]
		}
		b := make([]byte, r.Intn(12))
		r.Read(b)
		return string(b)
	}
	for i := range 60 {
		d := after(t, drawn(r, 1+r.Intn(30))...)
		m := modelOf(d)
		for range 100 {
			c := num(int64(odd()), odd(), odd())
			if r.Intn(2) == 0 {
				c = m.ids()[r.Intn(len(m.entries))]
			}
			who, right, a := junk(whos), byte(r.Intn(256)), junk(asked)
			if r.Intn(2) == 0 {
				right = letters[r.Intn(len(letters))]
			}
			if got, want := allow.May(d, who, right, c, a), m.may(who, right, c, a); got != want {
				t.Fatalf("P19.2: %d: May of %.100q, %q, %v, %.100q: %v, of\n%s", i, who, right, c, a, got, told(d))
			}
			var l []api.Attr
			for range r.Intn(6) {
				l = append(l, api.Attr{Name: junk(asked), Values: []string{junk(asked), junk(whos)}[:r.Intn(3)]})
			}
			if got, want := allow.Hides(d, who, right, c, l), m.hides(who, right, c, l); shape(got) != shape(want) {
				t.Fatalf("P19.3: %d: Hides of %.100q, %q, %v, %s: %s", i, who, right, c, shape(l), shape(got))
			}
			if got, want := allow.Reads(d, who, c), m.reads(who, c); shape(got) != shape(want) {
				t.Fatalf("P19.3: %d: Reads of %.100q, %v: %s", i, who, c, shape(got))
			}
			if got, want := allow.Rules(d, c), m.rules(c); lines(got) != lines(want) {
				t.Fatalf("P19.1: %d: Rules of %v: %s", i, c, lines(got))
			}
		}
	}
}

// room tells l with room behind it and behind each one's Values, and what tells whether all of that stays as it was.
func room(l []api.Attr) ([]api.Attr, func() string) {
	own := append(slices.Clone(l), attr("room", "r"), attr("room", "s"))
	var all [][]string
	for i, a := range l {
		long := append(slices.Clone(a.Values), "room", "more room")
		all = append(all, long)
		own[i].Values = long[:len(a.Values)]
	}
	return own[:len(l)], func() string { return fmt.Sprintf("%q %q", own, all) }
}

// DOC.md, 3: what is handed in stays as it was, the room behind it too, and isn't kept.
func TestHandedIn(t *testing.T) {
	d := after(t, story()...)
	m, was := modelOf(d), told(d)
	list := []api.Attr{attr("cn", "a", "b"), attr("sn"), attr("title", "t"), attr("cn", "c"), attr("", "d"), attr("ou", "o")}
	for _, c := range m.ids() {
		for _, who := range []string{"", manager, "cn=boss", m.name(c)} {
			for n := range len(list) + 1 {
				want := shape(m.hides(who, 'r', c, list[:n]))
				own, shows := room(list[:n])
				before := shows()
				got := allow.Hides(d, who, 'r', c, own)
				if shows() != before || shape(got) != want {
					t.Fatalf("Hides of %q, %v changes what is handed in:\n%s\nit was\n%s\nand tells %s", who, c, shows(), before, shape(got))
				}
				scribble(own)
				if shape(got) != want {
					t.Fatalf("Hides of %q, %v tells what was handed in: %s, want %s", who, c, shape(got), want)
				}
				own, shows = room(list[:n])
				before = shows()
				scribble(allow.Hides(d, who, 'r', c, own))
				if shows() != before {
					t.Fatalf("Hides of %q, %v answers what was handed in:\n%s\nit was\n%s", who, c, shows(), before)
				}
			}
		}
	}
	if told(d) != was {
		t.Errorf("the tree is another one:\n%s\nit was\n%s", told(d), was)
	}
	check(t, "handed in", d, false)
}

// scribble writes to all of l, behind it, and to what hangs on it.
func scribble(l []api.Attr) {
	l = l[:cap(l)]
	for i := range l {
		v := l[i].Values[:cap(l[i].Values)]
		for j := range v {
			v[j] = "scribbled"
		}
		l[i] = attr("scribbled")
	}
}

func scribbleRules(l []api.Rule) {
	l = l[:cap(l)]
	for i := range l {
		v := l[i].Attrs[:cap(l[i].Attrs)]
		for j := range v {
			v[j] = "scribbled"
		}
		l[i] = api.Rule{Rights: "scribbled"}
	}
}

// DOC.md, 3: what is answered is apart from the tree, from every other answer, and each list of one from the others.
func TestApart(t *testing.T) {
	same := rules("grant rs sub cn,sn any", "grant r base cn,sn any", "deny w sub cn,sn self")
	for i, d := range []*tree.Tree{after(t, story()...), three(t, same, same, same)} {
		was, m := told(d), modelOf(d)
		list := []api.Attr{attr("cn", "a", "b"), attr("sn", "a", "b"), attr("cn", "a", "b")}
		for _, c := range m.ids() {
			for _, who := range []string{"", manager, "cn=boss", m.name(c)} {
				one, other, up := allow.Rules(d, c), allow.Rules(d, c), allow.Rules(d, id(0))
				alone(t, one)
				scribbleRules(one)
				if lines(other) != lines(m.rules(c)) || lines(up) != lines(m.rules(id(0))) {
					t.Fatalf("%d: Rules of %v: two answers share", i, c)
				}
				scribbleRules(other)
				reads, hides := allow.Reads(d, who, c), allow.Hides(d, who, 'r', c, list)
				all := append(slices.Clone(reads), hides...)
				for k := range all { // each attribute's Values by themselves
					before := shape(slices.Concat(all[:k], all[k+1:]))
					for j := range all[k].Values[:cap(all[k].Values)] {
						all[k].Values[:cap(all[k].Values)][j] = "scribbled"
					}
					if shape(slices.Concat(all[:k], all[k+1:])) != before {
						t.Fatalf("%d: %v, %q: Values of %s are another one's, too", i, c, who, all[k].Name)
					}
				}
				scribble(reads)
				scribble(hides)
				if shape(allow.Reads(d, who, c)) != shape(m.reads(who, c)) || shape(allow.Hides(d, who, 'r', c, list)) != shape(m.hides(who, 'r', c, list)) || lines(allow.Rules(d, c)) != lines(m.rules(c)) {
					t.Fatalf("%d: %v, %q: an answer is kept", i, c, who)
				}
				if told(d) != was {
					t.Fatalf("%d: what is answered of %v is the tree's:\n%s\nit was\n%s", i, c, told(d), was)
				}
			}
		}
		check(t, "apart", d, false)
	}
}

// alone asks that none of these rules' Attrs are another one's, and that behind the rules there are none.
func alone(t *testing.T, l []api.Rule) {
	t.Helper()
	for i, r := range l {
		before := lines(slices.Concat(l[:i], l[i+1:]))
		v := r.Attrs[:cap(r.Attrs)]
		own := slices.Clone(v)
		for j := range v {
			v[j] = "scribbled"
		}
		if lines(slices.Concat(l[:i], l[i+1:])) != before {
			t.Fatalf("Attrs of rule %d are another one's, too", i)
		}
		copy(v, own)
	}
}

// inside tells whether p and s have bytes in common.
func inside(p, s string) bool {
	if p == "" || s == "" {
		return false
	}
	begin, at := uintptr(unsafe.Pointer(unsafe.StringData(s))), uintptr(unsafe.Pointer(unsafe.StringData(p)))
	return at < begin+uintptr(len(s)) && begin < at+uintptr(len(p))
}

// DOC.md, 3: the texts of an answer are its own.
func TestTexts(t *testing.T) {
	d := after(t, story()...)
	texts := func(l []api.Attr) []string {
		var out []string
		for _, a := range l {
			out = append(append(out, a.Name), a.Values...)
		}
		return out
	}
	ruleTexts := func(l []api.Rule) []string {
		var out []string
		for _, r := range l {
			out = append(append(out, r.Who, r.Rights), r.Attrs...)
		}
		return out
	}
	list := []api.Attr{attr(strings.Clone("cn"), strings.Clone("v"), strings.Clone("w"))}
	for n := range int64(11) {
		var all []string
		all = append(all, texts(list)...)
		for range 2 {
			all = append(all, texts(allow.Hides(d, manager, 'r', id(n), list))...)
			all = append(all, texts(allow.Reads(d, manager, id(n)))...)
			all = append(all, ruleTexts(allow.Rules(d, id(n)))...)
		}
		for i, s := range all {
			for _, p := range all[:i] {
				if inside(p, s) {
					t.Errorf("of %d: %q is in %q: two answers share", n, p, s)
				}
			}
		}
	}
}

// DOC.md, 3: an answer is no part of what comes later.
func TestAnswersStay(t *testing.T) {
	d := after(t, story()...)
	list := []api.Attr{attr("cn", "a")}
	ruled, reads, hides := allow.Rules(d, id(2)), allow.Reads(d, manager, id(2)), allow.Hides(d, "cn=boss", 'r', id(2), list)
	now := func() []string { return []string{lines(ruled), shape(reads), shape(hides)} }
	was := now()
	for _, c := range []api.Change{modify(200, 2, plus("aci", "grant r base * any"), plus("cn", "later")), modify(201, 0, api.Mod{Kind: api.MReplace, Attr: "aci", Values: rules("deny r sub * any")}), move(202, 2, 0, "cn=later"), del(203, 3), del(204, 2)} {
		d.Apply(c)
		if !slices.Equal(now(), was) {
			t.Errorf("what was answered turns: %v, it was %v", now(), was)
		}
		check(t, "later", d, false)
	}
}

// DOC.md, 6: whoever asks changes nothing, however many ask at once, and whatever is asked of another tree.
func TestAsked(t *testing.T) {
	d, other := after(t, story()...), three(t, rules("grant r sub * any"), nil, rules("deny r base cn any"))
	was, m := told(d), modelOf(d)
	var all sync.WaitGroup
	for range 8 {
		all.Add(1)
		go func() {
			defer all.Done()
			for _, c := range m.ids() {
				for _, who := range []string{"", manager, "cn=boss", m.name(c)} {
					if shape(allow.Reads(d, who, c)) != shape(m.reads(who, c)) || lines(allow.Rules(d, c)) != lines(m.rules(c)) || allow.May(d, who, 's', c, "") != m.may(who, 's', c, "") {
						t.Errorf("asked by several, %v is another one", c)
					}
					allow.Reads(other, who, c)
					allow.May(other, who, 'r', c, "cn")
				}
			}
		}()
	}
	all.Wait()
	if told(d) != was {
		t.Errorf("what is asked is changed:\n%s\nit was\n%s", told(d), was)
	}
	check(t, "asked", d, true)
	check(t, "another one", other, true)
}

// DOC.md, 8: very many entries above one another, rules and attributes take no longer than their number says.
func TestLong(t *testing.T) {
	const n = 30000
	d := tree.New()
	d.Apply(modify(n+1, 0, plus("aci", "grant r sub cn any")))
	for i := int64(1); i <= n; i++ {
		d.Apply(add(i, i-1, "cn=a", mods(rules("grant s sub * dn:cn=b", "deny r base cn any", "deny w sub sn self"))...))
	}
	if got := len(allow.Rules(d, id(n))); got != 2*n+2 {
		t.Errorf("P19.1: %d rules", got)
	}
	if allow.May(d, "", 'r', id(n), "cn") || !allow.May(d, "", 'r', id(n), "") || !allow.May(d, "cn=b", 's', id(n), "cn") || allow.May(d, "cn=c", 's', id(n), "cn") {
		t.Error("P19.2: far down")
	}
	l := slices.Repeat([]api.Attr{attr("cn", "v"), attr("sn", "w")}, n)
	if got := len(allow.Hides(d, "cn=b", 's', id(n), l)); got != 2*n {
		t.Errorf("P19.3: Hides of very many, far down: %d", got)
	}
	if got := names(allow.Reads(d, manager, id(n))); got != "aci cn" {
		t.Errorf("P19.3: Reads far down: %s", got)
	}
	var values []string
	for i := range n {
		values = append(values, fmt.Sprintf("grant r base * dn:cn=%d", i), fmt.Sprintf("deny r base sn dn:cn=%d", i))
	}
	many := tree.Load([]api.Entry{{State: api.Live, Attrs: []api.Attr{attr("aci", values...)}}})
	if got := len(allow.Rules(many, id(0))); got != 2*n {
		t.Errorf("P19.1: of very many: %d", got)
	}
	if !allow.May(many, "cn=17", 'r', id(0), "cn") || allow.May(many, "cn=17", 'r', id(0), "sn") || allow.May(many, "cn=x", 'r', id(0), "cn") {
		t.Error("P19.2: of very many rules")
	}
}
