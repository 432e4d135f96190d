package find_test

import (
	"fmt"
	"math"
	"math/rand"
	"slices"
	"strings"
	"sync"
	"testing"
	"unsafe"

	"prefect/api"
	"prefect/base"
	"prefect/change"
	"prefect/csn"
	"prefect/dn"
	"prefect/find"
	"prefect/fold"
	"prefect/match"
	"prefect/tree"
)

// The limits that the document names, by their numbers.
const (
	maxValue = 60
	maxRDNs  = 8
	maxAVAs  = 4
	maxTime  = 1099511627776
	maxSeq   = 65535
	maxReps  = 6
)

func num(time int64, seq, rep int) api.CSN { return api.CSN{Time: time, Seq: seq, Rep: rep} }

// id makes the number of that Time. 0 is the root's.
func id(time int64) api.CSN { return num(time, 0, 0) }

// rdn reads a part of a name.
func rdn(s string) api.RDN {
	r, err := dn.ParseRDN(s)
	if err != api.OK {
		panic("no part of a name: " + s)
	}
	return r
}

// name reads parts of a name, also more than a name may have: none of "". A backslash plays no part where it is cut.
func name(s string) api.DN {
	var d api.DN
	for s != "" {
		var part string
		part, s, _ = strings.Cut(s, ",")
		d = append(d, rdn(part))
	}
	return d
}

func plus(attr string, values ...string) api.Mod {
	return api.Mod{Kind: api.MAdd, Attr: attr, Values: values}
}

func add(n, parent int64, name string, mods ...api.Mod) api.Change {
	return api.Change{CSN: id(n), Kind: api.KAdd, ID: id(n), Parent: id(parent), RDN: rdn(name), Mods: mods}
}

func del(n, of int64) api.Change {
	return api.Change{CSN: id(n), Kind: api.KDelete, ID: id(of)}
}

func modify(n, of int64, mods ...api.Mod) api.Change {
	return api.Change{CSN: id(n), Kind: api.KModify, ID: id(of), Mods: mods}
}

func move(n, of, to int64, name string) api.Change {
	return api.Change{CSN: id(n), Kind: api.KMove, ID: id(of), Parent: id(to), RDN: rdn(name)}
}

// moveOff is a move with DelOld.
func moveOff(n, of, to int64, name string) api.Change {
	c := move(n, of, to, name)
	c.DelOld = true
	return c
}

// entry makes one without attributes.
func entry(n, parent int64, state int, name string) api.Entry {
	return api.Entry{ID: id(n), Parent: id(parent), State: state, RDN: rdn(name)}
}

// with tells x as do changes it.
func with[T any](x T, do func(x *T)) T {
	do(&x)
	return x
}

// after applies changes, as they come, to a new tree; each must be one.
func after(t *testing.T, l ...api.Change) *tree.Tree {
	t.Helper()
	d := tree.New()
	for i, c := range l {
		if !change.Is(c) {
			t.Fatalf("change %d isn't one: %v", i, c)
		}
		d.Apply(c)
	}
	return d
}

// number tells the Time of a number without the rest, else all of it.
func number(c api.CSN) string {
	return strings.TrimSuffix(csn.Text(c), ".0.0")
}

func numbers(l []api.CSN) string {
	var texts []string
	for _, c := range l {
		texts = append(texts, number(c))
	}
	return strings.Join(texts, " ")
}

// text tells parts of a name, also more than a name may have.
func text(d api.DN) string {
	var parts []string
	for _, r := range d {
		parts = append(parts, dn.PrintRDN(r))
	}
	return strings.Join(parts, ",")
}

// told tells a tree, an entry a line.
func told(d *tree.Tree) string {
	var lines []string
	for _, e := range d.All() {
		lines = append(lines, fmt.Sprintf("%s %s %d %s %v %q", number(e.ID), number(e.Parent), e.State, dn.PrintRDN(e.RDN), e.Renamed, e.Attrs))
	}
	return strings.Join(lines, "\n")
}

// story is the tree of most rows here:
//
//	1 ou=x
//	  2 cn=a+sn=b
//	    3 cn=c
//	  6 cn=a+sn=b+entryid=6.0.0
//	    7 cn=k
//	  14 cn=A  z
//	4 ou=y
//	  5 cn=a+sn=b
//	8 ou=g (glue)
//	  9 cn=l (glue)
//	    10 cn=m
//	  20 cn=q
//	13 ou=e
//	17 ou=w
//	  15 ou=v
//	    18 cn=n
//	    21 cn=o+entryid=21.0.0
//	    22 cn=o
//
// Dead are 11 ou=d and beneath it 19 cn=n, 12 ou=e, 16 cn=c+entryid=16.0.0 beneath 2, 23 cn=o+entryid=23.0.0 beneath 15.
func story() []api.Change {
	return []api.Change{
		modify(100, 0, plus("description", "the root")), add(1, 0, "ou=x", plus("title", "t")), add(2, 1, "cn=a+sn=b", plus("cn", "d", "e")), add(3, 2, "cn=c"),
		add(4, 0, "ou=y"), add(5, 4, "cn=a+sn=b"), add(6, 1, "sn=B+cn=A"), moveOff(101, 6, 1, "cn=a+sn=b"), add(7, 6, "cn=k", plus("sn", "z")),
		add(8, 0, "ou=g"), add(9, 8, "cn=l"), add(10, 9, "cn=m"), add(20, 8, "cn=q"), del(102, 8), del(103, 9),
		add(11, 0, "ou=d"), add(19, 11, "cn=n"), del(104, 19), del(105, 11), add(12, 0, "ou=e"), del(106, 12), add(13, 0, "ou=e"), add(14, 1, "cn=A  z"),
		add(15, 3, "cn=v"), add(17, 0, "ou=w"), moveOff(107, 15, 17, "ou=v"), add(18, 15, "cn=n"), add(16, 2, "cn=c"), del(108, 16),
		add(22, 15, "cn=o"), add(21, 15, "cn=O"), add(23, 15, "cn=o"), del(109, 23),
	}
}

// strange are numbers that no entry of story has: beside those that are there, and no change's.
var strange = []api.CSN{
	num(1, 1, 0), num(1, 0, 1), num(1, 0, 5), num(1, maxSeq, 0), num(0, 1, 0), num(0, 0, 1), num(3, 0, 2), num(3, 2, 0), num(10, 0, 1), num(11, 0, 1), id(24), id(99), id(100), id(101), id(maxTime),
	id(-1), id(-2), num(0, -1, 0), num(0, 0, -1), num(1, -1, 0), num(1, 0, -1), num(1, 0, maxReps), num(1, maxSeq+1, 0), id(maxTime + 1), num(1, 1<<32, 0), num(1, 0, 1<<32), id(1<<32 + 1), num(0, 1<<16, 0),
	num(maxTime, maxSeq, maxReps-1), num(math.MaxInt64, math.MaxInt, math.MaxInt), num(math.MinInt64, math.MinInt, math.MinInt), num(1, math.MaxInt, 0), num(1, 0, math.MinInt),
}

// scopes are numbers that are no scope.
var scopes = []int{-1, 3, 4, -2, 7, 100, 256, 257, 258, 65537, 1 << 32, 1<<32 + 1, 1<<32 + 2, math.MaxInt, math.MaxInt - 1, math.MinInt, math.MinInt + 1, math.MinInt + 2}

// parts are no parts of a name.
func parts() []api.RDN {
	a := api.AVA{Attr: "cn", Value: "a"}
	return []api.RDN{
		nil, {}, {{}}, {a, a}, {a, {Attr: "cn", Value: "b"}}, {{Value: "a"}}, {a, {Value: "b"}}, {{Attr: "cn"}}, {a, {Attr: "sn"}}, {{Attr: "CN", Value: "a"}}, {{Attr: "1n", Value: "a"}}, {{Attr: "c n", Value: "a"}},
		{{Attr: "cn ", Value: "a"}}, {{Attr: "-", Value: "a"}}, {{Attr: strings.Repeat("c", 17), Value: "a"}}, {{Attr: "cn", Value: strings.Repeat("a", maxValue+1)}}, {{Attr: "ou=x,cn", Value: "a"}},
		{a, {Attr: "sn", Value: "b"}, {Attr: "ou", Value: "c"}, {Attr: "o", Value: "d"}, {Attr: "dc", Value: "e"}}, slices.Repeat(api.RDN{a}, 1000),
		{{Attr: strings.Repeat("c", 1<<20), Value: strings.Repeat("a", 1<<20)}},
	}
}

// texts are the types whose values are the same in whatever case, and with whatever blanks.
var texts = []string{"c", "cn", "dc", "description", "o", "ou", "sn", "title", "uid"}

// norm is the one form of a value, by its own account.
func norm(a api.AVA) string {
	switch {
	case slices.Contains(texts, a.Attr):
		words := strings.FieldsFunc(a.Value, func(r rune) bool { return r == ' ' })
		if len(words) == 0 {
			return a.Value
		}
		small := []byte(strings.Join(words, " "))
		for i, c := range small {
			if 'A' <= c && c <= 'Z' {
				small[i] = c + 32
			}
		}
		return string(small)
	case a.Attr == "member":
		d, err := dn.Parse(a.Value)
		if err != api.OK || len(d) == 0 {
			return a.Value
		}
		var forms []string
		for _, r := range d {
			forms = append(forms, fmt.Sprintf("%q", form(r)))
		}
		return strings.Join(forms, " ")
	}
	return a.Value
}

// form tells the AVAs of a part, each in its one form, in one order; none of what is no part.
func form(r api.RDN) []string {
	if !dn.IsRDN(r) {
		return nil
	}
	var l []string
	for _, a := range r {
		l = append(l, a.Attr+"="+norm(a))
	}
	slices.Sort(l)
	return l
}

// model tells by its own account, of all entries of a tree, what the calls are to tell.
type model map[api.CSN]api.Entry

func modelOf(d *tree.Tree) model {
	m := model{}
	for _, e := range d.All() {
		m[e.ID] = e
	}
	return m
}

// ids tells the IDs of all, dead ones too, rising.
func (m model) ids() []api.CSN {
	var l []api.CSN
	for c := range m {
		l = append(l, c)
	}
	slices.SortFunc(l, compare)
	return l
}

func compare(a, b api.CSN) int {
	if less(a, b) {
		return -1
	}
	if less(b, a) {
		return 1
	}
	return 0
}

// less is how numbers go, by its own account.
func less(a, b api.CSN) bool {
	if a.Time != b.Time {
		return a.Time < b.Time
	}
	if a.Seq != b.Seq {
		return a.Seq < b.Seq
	}
	return a.Rep < b.Rep
}

func (m model) visible(c api.CSN) bool {
	e, ok := m[c]
	return ok && e.State != api.Dead
}

func (m model) kids(c api.CSN) []api.CSN {
	var l []api.CSN
	for k, e := range m {
		if k != id(0) && e.Parent == c && m.visible(k) {
			l = append(l, k)
		}
	}
	slices.SortFunc(l, compare)
	return l
}

func (m model) find(d api.DN) (api.CSN, int, bool) {
	at := id(0)
	for n := range d {
		want := form(d[len(d)-1-n])
		i := slices.IndexFunc(m.kids(at), func(k api.CSN) bool { return len(want) > 0 && slices.Equal(form(m[k].RDN), want) })
		if i < 0 {
			return at, n, false
		}
		at = m.kids(at)[i]
	}
	return at, len(d), true
}

func (m model) name(c api.CSN) (api.DN, bool) {
	if !m.visible(c) {
		return nil, false
	}
	if c == id(0) {
		return nil, true
	}
	above, _ := m.name(m[c].Parent)
	return append(api.DN{m[c].RDN}, above...), true
}

func (m model) beneath(a, b api.CSN) bool {
	return m.visible(a) && a != id(0) && (m[a].Parent == b || m.beneath(m[a].Parent, b))
}

func (m model) under(c api.CSN, scope int) []api.CSN {
	switch {
	case !m.visible(c):
		return nil
	case scope == 0:
		return []api.CSN{c}
	case scope == 1:
		return m.kids(c)
	case scope == 2:
		l := []api.CSN{c}
		for _, k := range m.kids(c) {
			l = append(l, m.under(k, 2)...)
		}
		return l
	}
	return nil
}

// some tells numbers to ask of: all that are there, those beside some of them, and no change's.
func (m model) some() []api.CSN {
	l := append(m.ids(), strange...)
	for i, c := range m.ids() {
		if i%4 == 0 {
			l = append(l, num(c.Time, c.Seq, c.Rep+1), num(c.Time, c.Seq+1, c.Rep), num(c.Time+1, c.Seq, c.Rep))
		}
	}
	return l
}

// names tells names to ask for: of all entries, dead ones as if they weren't, and those beside them.
func (m model) names() []api.DN {
	l := []api.DN{nil, {}, name("cn=nobody"), name("cn=nobody,ou=nobody")}
	for _, c := range m.ids()[1:] {
		e := m[c]
		above, _ := m.name(e.Parent)
		d := append(api.DN{e.RDN}, above...)
		l = append(l, d, d[1:], d[:len(d)-1], api.DN{e.RDN}, append(name("cn=nobody"), d...), append(slices.Clone(d), rdn("cn=nobody")), append(slices.Clone(d), e.RDN))
		for i := range d {
			l = append(l, with(slices.Clone(d), func(d *api.DN) { (*d)[i] = rdn("cn=nobody") }))
		}
	}
	return l
}

// ask asks Find, Name, Under and Visible of what the model says of them.
func (m model) ask(t *testing.T, what string, d *tree.Tree) {
	t.Helper()
	for _, c := range m.some() {
		if got, want := find.Visible(d, c), m.visible(c); got != want {
			t.Fatalf("P17.1: %s: Visible of %s: %v", what, csn.Text(c), got)
		}
		want, wantOK := m.name(c)
		if got, ok := find.Name(d, c); ok != wantOK || text(got) != text(want) || len(got) != len(want) {
			t.Fatalf("P17.1: %s: Name of %s: %s, %v, want %s, %v", what, csn.Text(c), text(got), ok, text(want), wantOK)
		}
		for _, scope := range []int{0, 1, 2, -1, 3, math.MaxInt} {
			if got, want := find.Under(d, c, scope), m.under(c, scope); !slices.Equal(got, want) {
				t.Fatalf("P17.1: %s: Under of %s, scope %d: %s, want %s", what, csn.Text(c), scope, numbers(got), numbers(want))
			}
		}
	}
	for _, n := range m.names() {
		want, wantN, wantOK := m.find(n)
		if got, parts, ok := find.Find(d, n); got != want || parts != wantN || ok != wantOK {
			t.Fatalf("P17.1: %s: Find of %s: %s, %d, %v, want %s, %d, %v", what, text(n), csn.Text(got), parts, ok, csn.Text(want), wantN, wantOK)
		}
	}
}

// check asks all calls of d of what the model says, and that d stays as it is.
func check(t *testing.T, what string, d *tree.Tree) {
	t.Helper()
	was, m := told(d), modelOf(d)
	m.ask(t, what, d)
	some := m.some()
	for _, a := range some {
		for _, b := range some {
			if got, want := find.Beneath(d, a, b), m.beneath(a, b); got != want {
				t.Fatalf("P17.1: %s: Beneath of %s, %s: %v", what, csn.Text(a), csn.Text(b), got)
			}
		}
	}
	if told(d) != was {
		t.Fatalf("%s: what is asked is changed:\n%s\nit was\n%s", what, told(d), was)
	}
}

// P17.1
func TestStory(t *testing.T) {
	d := after(t, story()...)
	states := map[int]int{}
	renamed := 0
	for _, e := range d.All() {
		states[e.State]++
		if e.Renamed {
			renamed++
		}
	}
	if states[api.Live] != 17 || states[api.Glue] != 2 || states[api.Dead] != 5 || renamed != 4 {
		t.Fatalf("it is another tree: %v, %d renamed:\n%s", states, renamed, told(d))
	}
	check(t, "story", d)
}

// P17.1
func TestVisible(t *testing.T) {
	d := after(t, story()...)
	for n := range int64(30) {
		want := n <= 22 && n != 11 && n != 12 && n != 16 && n != 19
		if got := find.Visible(d, id(n)); got != want {
			t.Errorf("P17.1: Visible of %d: %v", n, got)
		}
	}
	for _, c := range strange {
		if find.Visible(d, c) {
			t.Errorf("P17.1: Visible of %v", c)
		}
	}
	none := tree.New()
	if !find.Visible(none, id(0)) || find.Visible(none, id(1)) || find.Visible(none, num(0, 0, 1)) {
		t.Error("P17.1: Visible of the root alone")
	}
	live := after(t, add(1, 0, "cn=a"), add(2, 1, "cn=b"))
	for i, r := range []struct {
		c    api.Change
		want [2]bool
	}{
		{modify(3, 1, plus("sn", "x")), [2]bool{true, true}},
		{del(4, 1), [2]bool{true, true}}, // glue
		{del(5, 2), [2]bool{false, false}},
		{add(6, 2, "cn=c"), [2]bool{true, true}}, // glue once more
		{del(7, 6), [2]bool{false, false}},
	} {
		live.Apply(r.c)
		if got := [2]bool{find.Visible(live, id(1)), find.Visible(live, id(2))}; got != r.want {
			t.Errorf("P17.1: change %d: Visible: %v", i, got)
		}
	}
}

// P17.1
func TestFind(t *testing.T) {
	d := after(t, story()...)
	for _, r := range []struct {
		name string
		id   int64
		n    int
		ok   bool
	}{
		{"", 0, 0, true},
		{"ou=x", 1, 1, true}, {"ou=y", 4, 1, true}, {"ou=w", 17, 1, true}, {"ou=e", 13, 1, true},
		{"cn=a+sn=b,ou=x", 2, 2, true}, {"cn=a+sn=b,ou=y", 5, 2, true}, {"cn=a z,ou=x", 14, 2, true}, {"ou=v,ou=w", 15, 2, true},
		{"cn=c,cn=a+sn=b,ou=x", 3, 3, true}, {"cn=n,ou=v,ou=w", 18, 3, true},
		// otherwise written: letters, blanks, AVAs in another order
		{"ou=X", 1, 1, true}, {`ou=\ x`, 1, 1, true}, {`ou=X\ `, 1, 1, true}, {`ou=\  X \ `, 1, 1, true}, {"OU=x", 1, 1, true}, {"sn=b+cn=a,ou=x", 2, 2, true}, {`sn=B\ +cn=\ A,ou=X`, 2, 2, true}, {"cn=A  z,ou=x", 14, 2, true}, {`cn=\ a     Z,ou=x`, 14, 2, true},
		{`cn=C\ ,sn=B+cn=a,ou=\ X`, 3, 3, true}, {"CN=N,OU=V,OU=W", 18, 3, true},
		// the same, but not alike
		{"ou=xx", 0, 0, false}, {"cn=x", 0, 0, false}, {"o=x", 0, 0, false}, {"cn=az,ou=x", 1, 1, false}, {"cn=a,ou=x", 1, 1, false}, {"sn=b,ou=x", 1, 1, false}, {"cn=b+sn=a,ou=x", 1, 1, false}, {"cn=a+sn=b+ou=x", 0, 0, false}, {"cn=a+sn=b+o=c,ou=x", 1, 1, false},
		// the lowest, the middle, the last part isn't there
		{"cn=no,cn=a+sn=b,ou=x", 2, 2, false}, {"cn=c,cn=no,ou=x", 1, 1, false}, {"cn=c,cn=a+sn=b,ou=no", 0, 0, false}, {"cn=no,ou=x", 1, 1, false}, {"cn=a+sn=b,ou=no", 0, 0, false}, {"ou=no", 0, 0, false},
		{"cn=no,cn=c,cn=a+sn=b,ou=x", 3, 3, false}, {"cn=c,cn=c,cn=a+sn=b,ou=x", 3, 3, false}, {"cn=no,cn=no,cn=no", 0, 0, false}, {"cn=no,cn=no,ou=x", 1, 1, false}, {"cn=no,cn=no,cn=a+sn=b,ou=x", 2, 2, false},
		// what is there, but elsewhere
		{"cn=c", 0, 0, false}, {"cn=a+sn=b", 0, 0, false}, {"cn=c,ou=x", 1, 1, false}, {"cn=c,cn=a+sn=b", 0, 0, false}, {"cn=c,cn=a+sn=b,ou=y", 5, 2, false}, {"ou=x,cn=a+sn=b", 0, 0, false}, {"ou=x,ou=x", 1, 1, false}, {"ou=y,ou=x", 1, 1, false}, {"cn=k,ou=x", 1, 1, false},
		// where something was ahead of a move
		{"cn=v,cn=c,cn=a+sn=b,ou=x", 3, 3, false}, {"ou=v,cn=c,cn=a+sn=b,ou=x", 3, 3, false}, {"cn=v,ou=w", 17, 1, false}, {"ou=v", 0, 0, false},
		// a way through glue
		{"ou=g", 8, 1, true}, {"cn=l,ou=g", 9, 2, true}, {"cn=m,cn=l,ou=g", 10, 3, true}, {"cn=q,ou=g", 20, 2, true}, {"cn=M,CN=\\ l,ou=G", 10, 3, true}, {"cn=no,cn=l,ou=g", 9, 2, false}, {"cn=m,cn=no,ou=g", 8, 1, false}, {"cn=m,ou=g", 8, 1, false},
		// the name of a dead one: alone; beneath it; where a visible one has it, too
		{"ou=d", 0, 0, false}, {"cn=n,ou=d", 0, 0, false}, {"ou=e", 13, 1, true}, {"OU=E", 13, 1, true}, {"cn=c,cn=a+sn=b,ou=x", 3, 3, true}, {"cn=o+entryid=23.0.0,ou=v,ou=w", 15, 2, false},
		// the name that two wanted, and what the later one got
		{"cn=a+sn=b+entryid=6.0.0,ou=x", 6, 2, true}, {"entryid=6.0.0+sn=B+cn=A,ou=x", 6, 2, true}, {"cn=k,cn=a+sn=b+entryid=6.0.0,ou=x", 7, 3, true}, {"cn=k,cn=a+sn=b,ou=x", 2, 2, false}, {"cn=c,cn=a+sn=b+entryid=6.0.0,ou=x", 6, 2, false},
		{"cn=a+sn=b+entryid=2.0.0,ou=x", 1, 1, false}, {"cn=a+sn=b+entryid=6.0.1,ou=x", 1, 1, false}, {"cn=a+sn=b+entryid=6.0.0,ou=y", 4, 1, false}, {"entryid=6.0.0,ou=x", 1, 1, false}, {"cn=a+sn=b+entryid=6,ou=x", 1, 1, false}, {`cn=a+sn=b+entryid=\ 6.0.0,ou=x`, 1, 1, false},
		{"cn=o,ou=v,ou=w", 22, 3, true}, {"cn=o+entryid=21.0.0,ou=v,ou=w", 21, 3, true}, {"cn=o+entryid=22.0.0,ou=v,ou=w", 15, 2, false},
		// the root has no part of its own
		{"ou=x,cn=no", 0, 0, false}, {"ou=x,description=the root", 0, 0, false},
	} {
		got, n, ok := find.Find(d, name(r.name))
		if got != id(r.id) || n != r.n || ok != r.ok {
			t.Errorf("P17.1: Find of %s: %s, %d, %v, want %d, %d, %v", r.name, csn.Text(got), n, ok, r.id, r.n, r.ok)
		}
	}
	for i, d := range []*tree.Tree{d, tree.New()} {
		for _, n := range []api.DN{nil, {}, make(api.DN, 0, 5), name("cn=a,cn=b")[:0]} {
			if got, n, ok := find.Find(d, n); got != id(0) || n != 0 || !ok {
				t.Errorf("P17.1: %d: Find of the root: %v, %d, %v", i, got, n, ok)
			}
		}
	}
	if got, n, ok := find.Find(tree.New(), name("cn=a,cn=b")); got != id(0) || n != 0 || ok {
		t.Errorf("P17.1: Find in the root alone: %v, %d, %v", got, n, ok)
	}
}

// P17.1: what is no part of a name is nobody's; what leads up to it is found.
func TestFindNoParts(t *testing.T) {
	d := after(t, story()...)
	none := tree.New()
	for i, r := range parts() {
		if dn.IsRDN(r) {
			t.Fatalf("part %d is one", i)
		}
		for _, row := range []struct {
			name api.DN
			id   int64
			n    int
		}{
			{api.DN{r}, 0, 0}, {append(api.DN{r}, name("ou=x")...), 1, 1}, {append(name("ou=x"), r), 0, 0}, {append(append(name("cn=c"), r), name("ou=x")...), 1, 1}, {append(api.DN{r}, name("cn=a+sn=b,ou=x")...), 2, 2},
			{append(api.DN{r, r, r}, name("cn=c,cn=a+sn=b,ou=x")...), 3, 3}, {append(api.DN{r}, name("cn=l,ou=g")...), 9, 2}, {slices.Repeat(api.DN{r}, 100), 0, 0},
		} {
			if got, n, ok := find.Find(d, row.name); got != id(row.id) || n != row.n || ok {
				t.Errorf("P17.1: part %d: Find of %d parts: %s, %d, %v, want %d, %d", i, len(row.name), csn.Text(got), n, ok, row.id, row.n)
			}
			if got, n, ok := find.Find(none, row.name); got != id(0) || n != 0 || ok {
				t.Errorf("P17.1: part %d: Find in the root alone: %v, %d, %v", i, got, n, ok)
			}
		}
	}
}

// P17.1: values that are the same, and others that look so.
func TestFindValues(t *testing.T) {
	root := api.Entry{State: api.Live}
	one := func(n int64, attr, value string) api.Entry {
		return api.Entry{ID: id(n), State: api.Live, RDN: api.RDN{{Attr: attr, Value: value}}}
	}
	d := tree.Load([]api.Entry{
		root, one(1, "mail", "a"), one(2, "mail", "A"), one(3, "mail", " a"), one(4, "member", "CN=A,ou=b+sn=c"), one(5, "uidnumber", "7"), one(6, "nosuch", "a"), one(7, "nosuch", "A"), one(8, "cn", " "), one(9, "cn", "  "),
		one(10, "userpassword", "\x00\xff"), one(11, "cn", "a,b=c"), one(12, "cn", "Ä"), one(13, "member", strings.Repeat(`\01`, maxValue/3)), one(14, "cn", strings.Repeat("x", maxValue)), one(15, "member", "sn=a,cn=A"),
	})
	if len(d.All()) != 16 {
		t.Fatalf("it is another tree:\n%s", told(d))
	}
	for _, r := range []struct {
		attr, value string
		id          int64
	}{
		{"mail", "a", 1}, {"mail", "A", 2}, {"mail", " a", 3}, {"mail", "a ", 0}, {"mail", "  a", 0}, {"cn", "a", 0},
		{"member", "CN=A,ou=b+sn=c", 4}, {"member", "cn=a,sn=C+ou=B", 4}, {"member", `cn=\41,sn=c+ou=\ b`, 4}, {"member", "ou=b+sn=c,cn=a", 0}, {"member", "cn=a", 0}, {"member", "no name", 0}, {"member", "sn=A,CN=a", 15},
		{"uidnumber", "7", 5}, {"uidnumber", "07", 0}, {"uidnumber", " 7", 0}, {"nosuch", "a", 6}, {"nosuch", "A", 7}, {"nosuch", " a", 0}, {"cn", " ", 8}, {"cn", "  ", 9}, {"cn", "   ", 0}, {"sn", " ", 0},
		{"userpassword", "\x00\xff", 10}, {"userpassword", "\x00", 0}, {"cn", "A,B=C", 11}, {"cn", "a", 0}, {"cn", " Ä ", 12}, {"cn", "ä", 0}, {"member", strings.Repeat("\x01", maxValue/3), 0}, {"member", strings.Repeat(`\01`, maxValue/3), 13},
		{"cn", strings.Repeat("X", maxValue), 14}, {"cn", strings.Repeat("x", maxValue-1), 0}, {"cn", strings.Repeat("x", maxValue+1), 0}, {"cn", strings.Repeat("x", maxValue) + " ", 0},
	} {
		n := 1
		if r.id == 0 {
			n = 0
		}
		if got, parts, ok := find.Find(d, api.DN{{{Attr: r.attr, Value: r.value}}}); got != id(r.id) || parts != n || ok != (n == 1) {
			t.Errorf("P17.1: Find of %s=%q: %s, %d, %v, want %d", r.attr, r.value, csn.Text(got), parts, ok, r.id)
		}
	}
	check(t, "values", d)
	promise(t, rand.New(rand.NewSource(170)), "values", d)
}

// P17.1
func TestName(t *testing.T) {
	d := after(t, story()...)
	for n, want := range map[int64]string{
		0: "", 1: "ou=x", 2: "cn=a+sn=b,ou=x", 3: "cn=c,cn=a+sn=b,ou=x", 4: "ou=y", 5: "cn=a+sn=b,ou=y", 6: "cn=a+sn=b+entryid=6.0.0,ou=x", 7: "cn=k,cn=a+sn=b+entryid=6.0.0,ou=x", 8: "ou=g", 9: "cn=l,ou=g",
		10: "cn=m,cn=l,ou=g", 13: "ou=e", 14: "cn=A  z,ou=x", 15: "ou=v,ou=w", 17: "ou=w", 18: "cn=n,ou=v,ou=w", 20: "cn=q,ou=g", 21: "cn=O+entryid=21.0.0,ou=v,ou=w", 22: "cn=o,ou=v,ou=w",
	} {
		if got, ok := find.Name(d, id(n)); text(got) != want || !ok || n == 0 && len(got) > 0 {
			t.Errorf("P17.1: Name of %d: %s, %v, want %s", n, text(got), ok, want)
		}
	}
	for _, c := range append([]api.CSN{id(11), id(12), id(16), id(19), id(23)}, strange...) { // dead, or not known
		if got, ok := find.Name(d, c); len(got) > 0 || ok {
			t.Errorf("P17.1: Name of %s: %s, %v", csn.Text(c), text(got), ok)
		}
	}
	if got, ok := find.Name(tree.New(), id(0)); len(got) > 0 || !ok {
		t.Errorf("P17.1: Name of the root alone: %v, %v", got, ok)
	}
	if got, ok := find.Name(tree.New(), id(1)); len(got) > 0 || ok {
		t.Errorf("P17.1: Name of none: %v, %v", got, ok)
	}
}

// P17.1
func TestBeneath(t *testing.T) {
	d := after(t, story()...)
	above := map[int64][]int64{
		0: nil, 1: {0}, 2: {1, 0}, 3: {2, 1, 0}, 4: {0}, 5: {4, 0}, 6: {1, 0}, 7: {6, 1, 0}, 8: {0}, 9: {8, 0}, 10: {9, 8, 0}, 11: nil, 12: nil, 13: {0}, 14: {1, 0}, 15: {17, 0}, 16: nil, 17: {0}, 18: {15, 17, 0}, 19: nil,
		20: {8, 0}, 21: {15, 17, 0}, 22: {15, 17, 0}, 23: nil, 24: nil,
	}
	for a := range int64(25) {
		for b := range int64(25) {
			if got, want := find.Beneath(d, id(a), id(b)), slices.Contains(above[a], b); got != want {
				t.Errorf("P17.1: Beneath of %d, %d: %v", a, b, got)
			}
		}
		for _, c := range strange {
			if find.Beneath(d, id(a), c) || find.Beneath(d, c, id(a)) || find.Beneath(d, c, c) {
				t.Errorf("P17.1: Beneath of %d and %v", a, c)
			}
		}
	}
	none := tree.New()
	if find.Beneath(none, id(0), id(0)) || find.Beneath(none, id(1), id(0)) || find.Beneath(none, id(0), id(1)) || find.Beneath(none, id(1), id(1)) {
		t.Error("P17.1: Beneath of the root alone")
	}
}

// P17.1
func TestUnder(t *testing.T) {
	d := after(t, story()...)
	for _, r := range []struct {
		id       int64
		one, sub string
	}{
		{0, "1 4 8 13 17", "0 1 2 3 6 7 14 4 5 8 9 10 20 13 17 15 18 21 22"},
		{1, "2 6 14", "1 2 3 6 7 14"}, {2, "3", "2 3"}, {3, "", "3"}, {4, "5", "4 5"}, {6, "7", "6 7"}, {8, "9 20", "8 9 10 20"}, {9, "10", "9 10"}, {10, "", "10"},
		{13, "", "13"}, {14, "", "14"}, {15, "18 21 22", "15 18 21 22"}, {17, "15", "17 15 18 21 22"}, {22, "", "22"},
	} {
		if got := numbers(find.Under(d, id(r.id), api.SBase)); got != fmt.Sprint(r.id) {
			t.Errorf("P17.1: Under of %d, SBase: %s", r.id, got)
		}
		if got := numbers(find.Under(d, id(r.id), api.SOne)); got != r.one {
			t.Errorf("P17.1: Under of %d, SOne: %s, want %s", r.id, got, r.one)
		}
		if got := numbers(find.Under(d, id(r.id), api.SSub)); got != r.sub {
			t.Errorf("P17.1: Under of %d, SSub: %s, want %s", r.id, got, r.sub)
		}
		for _, scope := range scopes {
			if got := find.Under(d, id(r.id), scope); len(got) > 0 {
				t.Errorf("P17.1: Under of %d, scope %d: %s", r.id, scope, numbers(got))
			}
		}
	}
	for _, c := range append([]api.CSN{id(11), id(12), id(16), id(19), id(23)}, strange...) {
		for _, scope := range append([]int{api.SBase, api.SOne, api.SSub}, scopes...) {
			if got := find.Under(d, c, scope); len(got) > 0 {
				t.Errorf("P17.1: Under of %v, scope %d: %s", c, scope, numbers(got))
			}
		}
	}
	for scope, want := range map[int]string{api.SBase: "0", api.SOne: "", api.SSub: "0", -1: "", 3: ""} {
		if got := numbers(find.Under(tree.New(), id(0), scope)); got != want {
			t.Errorf("P17.1: Under of the root alone, scope %d: %s", scope, got)
		}
	}
}

// P17.1: the order goes by numbers, by Time, Seq and Rep, whatever came first, and downward ahead of aside.
func TestOrder(t *testing.T) {
	l := []api.CSN{num(0, 0, 1), num(0, 1, 0), num(0, 1, 5), num(0, 2, 0), num(0, 10, 0), num(1, 0, 0), num(1, 0, 2), num(1, 3, 0), num(1, maxSeq, maxReps-1), num(2, 0, 0), num(10, 0, 0), num(maxTime, maxSeq, maxReps-1)}
	r := rand.New(rand.NewSource(171))
	for range 30 {
		d := tree.New()
		for _, i := range r.Perm(len(l)) {
			d.Apply(api.Change{CSN: l[i], Kind: api.KAdd, ID: l[i], RDN: rdn(fmt.Sprintf("cn=%d", r.Intn(4)))})
		}
		if got := find.Under(d, id(0), api.SOne); !slices.Equal(got, l) {
			t.Fatalf("P17.1: SOne: %s", numbers(got))
		}
		if got := find.Under(d, id(0), api.SSub); !slices.Equal(got, append([]api.CSN{{}}, l...)) {
			t.Fatalf("P17.1: SSub: %s", numbers(got))
		}
		check(t, "order", d)
		for i, c := range l { // each one's number is known by all its parts
			if got := find.Under(d, c, api.SBase); !slices.Equal(got, l[i:i+1]) {
				t.Fatalf("P17.1: SBase of %v: %v", c, got)
			}
		}
	}
	d := tree.Load([]api.Entry{ // each one has kids of less and of greater numbers
		{State: api.Live}, entry(5, 0, api.Live, "cn=a"), entry(1, 5, api.Live, "cn=a"), entry(9, 5, api.Live, "cn=b"), entry(2, 9, api.Live, "cn=a"), entry(7, 1, api.Live, "cn=a"), entry(3, 7, api.Glue, "cn=a"), entry(10, 3, api.Live, "cn=a"),
		entry(4, 0, api.Live, "cn=b"), entry(8, 4, api.Live, "cn=a"), entry(6, 8, api.Live, "cn=a"), entry(11, 9, api.Dead, "cn=a"), entry(12, 4, api.Live, "cn=b"),
	})
	for n, want := range map[int64]string{0: "0 4 8 6 12 5 1 7 3 10 9 2", 4: "4 8 6 12", 5: "5 1 7 3 10 9 2", 9: "9 2", 1: "1 7 3 10"} {
		if got := numbers(find.Under(d, id(n), api.SSub)); got != want {
			t.Errorf("P17.1: Under of %d, SSub: %s, want %s", n, got, want)
		}
	}
	check(t, "less and greater", d)
}

// P17.1, P17.2: entries further down than a name may have parts are found all the same.
func TestDeep(t *testing.T) {
	const n = 3 * maxRDNs
	d := tree.New()
	for i := int64(1); i <= n; i++ {
		d.Apply(add(i, i-1, "cn=a+sn=b"))
	}
	for i := 1; i <= n; i++ {
		got, ok := find.Name(d, id(int64(i)))
		if !ok || text(got) != text(slices.Repeat(name("cn=a+sn=b"), i)) {
			t.Fatalf("P17.1: Name of %d: %s, %v", i, text(got), ok)
		}
		if dn.Is(got) != (i <= maxRDNs) {
			t.Fatalf("%d: a name of %d parts", i, len(got))
		}
		for what, d2 := range map[string]api.DN{"as it is": got, "otherwise": slices.Repeat(name(`sn=\ B+cn=A`), i)} {
			if c, parts, ok := find.Find(d, d2); c != id(int64(i)) || parts != i || !ok {
				t.Fatalf("P17.2: %s: Find of the Name of %d: %v, %d, %v", what, i, c, parts, ok)
			}
		}
		none := append(name("cn=no"), got...)
		if c, parts, ok := find.Find(d, none); c != id(int64(i)) || parts != i || ok {
			t.Fatalf("P17.1: Find beneath %d: %v, %d, %v", i, c, parts, ok)
		}
		if c, parts, ok := find.Find(d, append(got, rdn("cn=no"))); c != id(0) || parts != 0 || ok {
			t.Fatalf("P17.1: Find above %d: %v, %d, %v", i, c, parts, ok)
		}
	}
	if c, parts, ok := find.Find(d, slices.Repeat(name("cn=a+sn=b"), n+1)); c != id(n) || parts != n || ok {
		t.Errorf("P17.1: Find of one more: %v, %d, %v", c, parts, ok)
	}
	if c, parts, ok := find.Find(d, slices.Repeat(name("cn=a+sn=b"), 1<<20)); c != id(n) || parts != n || ok {
		t.Errorf("P17.1: Find of many: %v, %d, %v", c, parts, ok)
	}
	check(t, "deep", d)
}

// otherwise writes d otherwise, where its values aren't another's by that.
func otherwise(r *rand.Rand, d api.DN) api.DN {
	var other api.DN
	for _, part := range d {
		var own api.RDN
		for _, i := range r.Perm(len(part)) {
			a := part[i]
			v := a.Value
			switch {
			case slices.Contains(texts, a.Attr) && strings.Trim(v, " ") != "":
				v = recased(r, v)
			case a.Attr == "member":
				if inner, err := dn.Parse(v); err == api.OK {
					v = dn.Print(otherwise(r, inner))
				}
			}
			if len(v) > 0 && len(v) <= maxValue {
				a.Value = v
			}
			own = append(own, a)
		}
		other = append(other, own)
	}
	return other
}

// recased writes s with other letters, and with more blanks.
func recased(r *rand.Rand, s string) string {
	b := []byte(strings.Repeat(" ", r.Intn(3)))
	for i := range len(s) {
		c := s[i]
		switch {
		case 'a' <= c && c <= 'z' && r.Intn(2) == 0:
			c -= 32
		case 'A' <= c && c <= 'Z' && r.Intn(2) == 0:
			c += 32
		case c == ' ':
			b = append(b, strings.Repeat(" ", r.Intn(3))...)
		}
		b = append(b, c)
	}
	return string(b) + strings.Repeat(" ", r.Intn(3))
}

// promise asks of d what P17.2 says.
func promise(t *testing.T, r *rand.Rand, what string, d *tree.Tree) {
	t.Helper()
	var visible []api.CSN
	names := map[string]api.CSN{}
	for _, e := range d.All() {
		n, ok := find.Name(d, e.ID)
		if ok != (e.State != api.Dead) {
			t.Fatalf("P17.2: %s: Name of %s: %v, of\n%s", what, number(e.ID), ok, told(d))
		}
		if !ok {
			continue
		}
		visible = append(visible, e.ID)
		var forms []string
		for _, part := range n {
			forms = append(forms, match.RDN(part))
		}
		one := strings.Join(forms, ",")
		if other, ok := names[one]; ok {
			t.Fatalf("P17.2: %s: %s and %s have one Name, %s, of\n%s", what, number(e.ID), number(other), one, told(d))
		}
		names[one] = e.ID
		for _, n := range []api.DN{n, otherwise(r, n), otherwise(r, n)} {
			if got, parts, ok := find.Find(d, n); got != e.ID || parts != len(n) || !ok {
				t.Fatalf("P17.2: %s: Find of %s: %s, %d, %v, want %s, of\n%s", what, text(n), number(got), parts, ok, number(e.ID), told(d))
			}
		}
	}
	all := find.Under(d, id(0), api.SSub)
	slices.SortFunc(all, compare)
	if !slices.Equal(all, visible) {
		t.Fatalf("P17.2: %s: Under of the root, SSub: %s, of\n%s", what, numbers(all), told(d))
	}
	for _, a := range d.All() {
		var want []api.CSN
		for _, c := range visible {
			if find.Beneath(d, c, a.ID) || c == a.ID {
				want = append(want, c)
			}
		}
		got := find.Under(d, a.ID, api.SSub)
		if len(got) > 0 && got[0] != a.ID {
			t.Fatalf("P17.2: %s: Under of %s, SSub: %s, of\n%s", what, number(a.ID), numbers(got), told(d))
		}
		if slices.SortFunc(got, compare); !slices.Equal(got, want) {
			t.Fatalf("P17.2: %s: Under of %s, SSub: %s, want %s, of\n%s", what, number(a.ID), numbers(got), numbers(want), told(d))
		}
	}
}

// drawn makes n changes of all Kinds, rising, each of its own number, and what they name mostly there, or dead.
func drawn(r *rand.Rand, n int) []api.Change {
	parts := []string{"cn=a", "cn=A", "cn=b", "sn=a+cn=b", "cn=B+sn=A", "title=a  b", "title=A b", "mail=a", "mail=A", `member=cn\=a\,ou\=b`, `member=CN\=A\,ou\=\\ b`, "uidnumber=7", "o=a+ou=b+dc=c"}
	var l []api.Change
	var entries []api.CSN
	at := api.CSN{}
	for len(l) < n {
		switch r.Intn(3) {
		case 0:
			at = num(at.Time+1+int64(r.Intn(3)), 0, r.Intn(maxReps))
		case 1:
			at = num(at.Time, at.Seq+1+r.Intn(3), r.Intn(maxReps))
		case 2:
			at.Rep++
		}
		if at.Rep == maxReps {
			at = num(at.Time+1, 0, 0)
		}
		some := func() api.CSN { // mostly one of those that came last, or the root, or one that isn't
			switch i := r.Intn(12); {
			case i < 8 && len(entries) > 0:
				return entries[max(0, len(entries)-1-r.Intn(8))]
			case i < 10 && len(entries) > 0:
				return entries[r.Intn(len(entries))]
			case i == 10 && at.Seq > 0:
				return num(at.Time, at.Seq-1, r.Intn(maxReps))
			}
			return api.CSN{}
		}
		c := api.Change{CSN: at, Kind: []int{api.KAdd, api.KAdd, api.KAdd, api.KDelete, api.KModify, api.KMove, api.KMove}[r.Intn(7)]}
		switch c.Kind {
		case api.KAdd:
			c.ID, c.Parent, c.RDN, c.Mods = at, some(), rdn(parts[r.Intn(len(parts))]), []api.Mod{plus("sn", "v")}[:r.Intn(2)]
		case api.KDelete:
			c.ID = some()
		case api.KModify:
			c.ID, c.Mods = some(), []api.Mod{plus("sn", "x")}
		case api.KMove:
			c.ID, c.Parent, c.RDN, c.DelOld = some(), some(), rdn(parts[r.Intn(len(parts))]), r.Intn(2) == 0
		}
		if !change.Is(c) { // of the root, or of what is above it
			continue
		}
		if c.Kind == api.KAdd {
			entries = append(entries, at)
		}
		l = append(l, c)
	}
	return l
}

// P17.1, P17.2: behind rows of changes of all Kinds, in whichever way they came to be a tree.
func TestDrawn(t *testing.T) {
	r := rand.New(rand.NewSource(172))
	seen := map[string]int{}
	for i := range 200 {
		what := fmt.Sprint("drawn ", i)
		l := drawn(r, 1+r.Intn(70))
		d := after(t, l...)
		promise(t, r, what, d)
		for _, e := range d.All() {
			seen[fmt.Sprint("state ", e.State)]++
			if e.Renamed && e.State != api.Dead {
				seen["renamed"]++
			}
			if n, _ := find.Name(d, e.ID); len(n) > 3 {
				seen["deep"]++
			}
		}
		if i%4 > 0 {
			continue
		}
		check(t, what, d)
		at := r.Intn(len(l) + 1)
		g := base.New()
		for _, c := range l {
			g.Put(c)
		}
		g.Trim(l[max(0, at-1)].CSN)
		r.Shuffle(len(l), func(i, j int) { l[i], l[j] = l[j], l[i] })
		for how, d := range map[string]*tree.Tree{"Of": fold.Of(l), "Upon": fold.Upon(fold.Of(l[at:]), l[:at]), "a log": g.Tree(), "loaded": tree.Load(d.All()), "a copy": d.Copy()} {
			promise(t, r, what+", "+how, d)
			check(t, what+", "+how, d)
		}
	}
	for _, s := range []string{"state 1", "state 2", "state 3", "renamed", "deep"} {
		if seen[s] < 200 {
			t.Errorf("%s: but %d", s, seen[s])
		}
	}
}

// P17.1, P17.2: while a tree is made, each step.
func TestSteps(t *testing.T) {
	r := rand.New(rand.NewSource(173))
	for i, l := range [][]api.Change{story(), drawn(r, 50), drawn(r, 50)} {
		d := tree.New()
		for j, c := range l {
			d.Apply(c)
			what := fmt.Sprint("row ", i, ", step ", j)
			promise(t, r, what, d)
			if j%3 == 0 || i == 0 {
				check(t, what, d)
			}
		}
	}
}

// noTrees are lists that no All gave.
func noTrees() [][]api.Entry {
	root, a, b, c := api.Entry{State: api.Live}, entry(1, 0, api.Live, "cn=a"), entry(2, 1, api.Live, "cn=b"), entry(3, 2, api.Glue, "cn=c")
	return [][]api.Entry{
		nil, {}, {{}}, {{}, {}}, {a}, {a, b, c}, {c, b, a, root}, {root, c, b, a}, {root, b}, {root, b, c}, {root, root, a, a, b, b}, {root, a, with(a, func(e *api.Entry) { e.ID = id(4) }), entry(5, 4, api.Live, "cn=b")},
		{root, a, entry(4, 0, api.Live, "cn=A"), entry(5, 0, api.Live, `cn=\ a`), entry(6, 5, api.Live, "cn=a")}, {root, a, entry(1, 0, api.Live, "cn=z"), b}, {root, a, entry(1, 0, api.Dead, "cn=a"), b},
		{root, entry(1, 1, api.Live, "cn=a"), b}, {root, entry(1, 2, api.Live, "cn=a"), b}, {root, entry(1, 3, api.Live, "cn=a"), b, c}, {root, entry(1, 2, api.Dead, "cn=a"), entry(2, 1, api.Dead, "cn=a")}, {root, a, entry(2, 3, api.Glue, "cn=b"), entry(3, 2, api.Glue, "cn=b")},
		{root, entry(1, 0, api.Dead, "cn=a"), b}, {root, entry(1, 0, api.Dead, "cn=a"), b, c}, {root, entry(1, 0, api.Dead, "cn=a"), entry(2, 1, api.Glue, "cn=b"), entry(3, 2, api.Live, "cn=c")}, {root, entry(1, 0, api.Glue, "cn=a")}, {root, a, entry(2, 1, api.Dead, "cn=b"), c},
		{root, entry(1, 0, 0, "cn=a"), b}, {root, entry(1, 0, 4, "cn=a"), b}, {root, entry(1, 0, -1, "cn=a")}, {root, entry(1, 0, math.MaxInt, "cn=a"), b}, {root, entry(1, 0, 257, "cn=a"), b},
		{root, with(a, func(e *api.Entry) { e.RDN = nil }), b}, {root, with(a, func(e *api.Entry) { e.RDN = nil }), entry(2, 0, api.Live, "cn=b")}, {root, with(a, func(e *api.Entry) { e.Renamed = true })}, {root, entry(1, 0, api.Live, "cn=a+entryid=1.0.0")},
		{root, entry(1, 0, api.Live, "cn=a+sn=b+ou=c+o=d"), b}, {root, with(a, func(e *api.Entry) { e.RDN = api.RDN{{Attr: "CN", Value: "a"}} }), b}, {root, with(a, func(e *api.Entry) { e.RDN = slices.Repeat(rdn("cn=a"), 1000) })},
		{root, with(a, func(e *api.Entry) { e.RDN = api.RDN{{Attr: "cn", Value: ""}} })}, {root, entry(1, 0, api.Live, "nosuch=a"), b}, {root, with(a, func(e *api.Entry) { e.RDN = api.RDN{{Attr: "cn", Value: " "}} }), b},
		{root, with(a, func(e *api.Entry) { e.ID = api.CSN{Rep: maxReps} })}, {root, entry(-1, 0, api.Live, "cn=a"), entry(2, -1, api.Live, "cn=b")}, {root, entry(1, -1, api.Live, "cn=a")}, {root, entry(maxTime+1, 0, api.Live, "cn=a")},
		{with(root, func(e *api.Entry) { e.State = api.Dead }), a, b}, {with(root, func(e *api.Entry) { e.State = api.Glue }), a}, {with(root, func(e *api.Entry) { e.Parent = id(1) }), a, b}, {with(root, func(e *api.Entry) { e.RDN = rdn("cn=r") }), a},
		{with(root, func(e *api.Entry) { e.State, e.Parent, e.RDN = api.Dead, id(1), rdn("cn=a") }), a, entry(2, 1, api.Glue, "cn=a"), entry(3, 2, api.Live, "cn=r")},
		{root, with(a, func(e *api.Entry) { e.Attrs = []api.Attr{{}, {Name: "CN"}, {Name: "sn", Values: []string{"", ""}}} }), b},
	}
}

// P17.1, P17.2, DOC.md, 1: of whatever tree, each call comes back, and tells of that tree.
func TestTrees(t *testing.T) {
	r := rand.New(rand.NewSource(174))
	var trees []*tree.Tree
	for _, l := range noTrees() {
		trees = append(trees, tree.Load(l), fold.Upon(tree.Load(l), story()), base.Load(id(2), l, story()).Tree())
	}
	g := base.New()
	for _, c := range story() {
		g.Put(c)
	}
	trees = append(trees, tree.New(), &tree.Tree{}, tree.New().Copy(), fold.Of(nil), fold.Of(story()), fold.Upon(tree.New(), story()), base.New().Tree(), g.Tree(), tree.Load(nil), tree.Load(fold.Of(story()).All()))
	for _, floor := range []int64{5, 20, 104, 200} {
		g.Trim(id(floor))
		trees = append(trees, g.Tree(), tree.Load(g.Base()))
	}
	wrong := parts()
	for i, d := range trees {
		what := fmt.Sprint("tree ", i)
		check(t, what, d)
		promise(t, r, what, d)
		for _, c := range append(strange, id(0), id(1), id(2), id(3)) {
			for _, scope := range scopes {
				if got := find.Under(d, c, scope); len(got) > 0 {
					t.Errorf("P17.1: %s: Under of %v, scope %d: %s", what, c, scope, numbers(got))
				}
			}
		}
		for _, part := range wrong {
			if c, n, ok := find.Find(d, api.DN{part}); c != id(0) || n != 0 || ok {
				t.Errorf("P17.1: %s: Find of no part: %v, %d, %v", what, c, n, ok)
			}
		}
	}
}

// junk draws parts of a name, of which some are there, and some are of wrong.
func junk(r *rand.Rand, m model, wrong []api.RDN) api.DN {
	ids := m.ids()
	var d api.DN
	for range r.Intn(12) {
		switch r.Intn(6) {
		case 0:
			d = append(d, wrong[r.Intn(len(wrong))])
		case 1:
			b := make([]byte, r.Intn(8))
			r.Read(b)
			d = append(d, api.RDN{{Attr: []string{"cn", "sn", "ou", "member", "", "x"}[r.Intn(6)], Value: string(b)}})
		default:
			d = append(d, m[ids[r.Intn(len(ids))]].RDN)
		}
	}
	return d
}

// P17.1, DOC.md, 1: whatever is handed in, each call comes back.
func TestWhatever(t *testing.T) {
	r := rand.New(rand.NewSource(175))
	odd := func() int {
		return []int{0, 1, 2, 3, -1, maxReps, maxSeq, maxSeq + 1, math.MaxInt, math.MinInt, 1 << 32, r.Int() - r.Int()}[r.Intn(12)]
	}
	wrong := parts()
	for i := range 60 {
		d := after(t, drawn(r, r.Intn(60))...)
		m := modelOf(d)
		for range 100 {
			n := junk(r, m, wrong)
			want, wantN, wantOK := m.find(n)
			if got, parts, ok := find.Find(d, n); got != want || parts != wantN || ok != wantOK {
				t.Fatalf("P17.1: %d: Find of %.500q: %s, %d, %v, want %s, %d, %v", i, n, csn.Text(got), parts, ok, csn.Text(want), wantN, wantOK)
			}
			a, b, scope := num(int64(odd()), odd(), odd()), num(int64(odd()), odd(), odd()), odd()
			if got, want := find.Under(d, a, scope), m.under(a, scope); !slices.Equal(got, want) {
				t.Fatalf("P17.1: %d: Under of %v, scope %d: %s, want %s", i, a, scope, numbers(got), numbers(want))
			}
			if find.Beneath(d, a, b) != m.beneath(a, b) || find.Visible(d, a) != m.visible(a) {
				t.Fatalf("P17.1: %d: Beneath of %v, %v: %v; Visible: %v", i, a, b, find.Beneath(d, a, b), find.Visible(d, a))
			}
			if got, ok := find.Name(d, a); ok != m.visible(a) || !ok && len(got) > 0 {
				t.Fatalf("P17.1: %d: Name of %v: %v, %v", i, a, got, ok)
			}
		}
	}
}

// room tells d with room behind it and behind each of its parts, and what tells whether all of that stays as it was.
func room(d api.DN) (api.DN, func() string) {
	own := append(slices.Clone(d), rdn("cn=room"), rdn("sn=room"))
	var all []api.RDN
	for i, r := range d {
		long := append(slices.Clone(r), rdn("o=room+dc=room")...)
		all = append(all, long)
		own[i] = long[:len(r)]
	}
	return own[:len(d)], func() string { return fmt.Sprintf("%q %q", own, all) }
}

// DOC.md, 3: what is handed in stays as it was, the room behind it too.
func TestHandedIn(t *testing.T) {
	d := after(t, story()...)
	m := modelOf(d)
	names := append(m.names(), api.DN{{{Attr: "sn", Value: "B"}, {Attr: "cn", Value: " A "}}, rdn("OU=X")}, api.DN{{}, nil}, api.DN{parts()[3], rdn("ou=x")})
	for _, n := range names {
		want, wantN, wantOK := m.find(n)
		own, shows := room(n)
		was := shows()
		got, parts, ok := find.Find(d, own)
		if shows() != was {
			t.Errorf("Find changes what is handed in:\n%s\nit was\n%s", shows(), was)
		}
		if got != want || parts != wantN || ok != wantOK {
			t.Errorf("Find of %s, with room: %v, %d, %v", text(n), got, parts, ok)
		}
		scribbleName(own)
		if got, parts, ok := find.Find(d, n); got != want || parts != wantN || ok != wantOK {
			t.Errorf("Find of %s keeps what is handed in: %v, %d, %v", text(n), got, parts, ok)
		}
	}
	check(t, "handed in", d)
}

func scribbleRDN(r api.RDN) {
	for i := range r[:cap(r)] {
		r[:cap(r)][i] = api.AVA{Attr: "o", Value: "scribbled"}
	}
}

// scribbleName writes to all parts of d, and behind them, and then to d.
func scribbleName(d api.DN) {
	d = d[:cap(d)]
	for i := range d {
		scribbleRDN(d[i])
		d[i] = rdn("o=scribbled")
	}
}

func scribbleIDs(l []api.CSN) {
	for i := range l[:cap(l)] {
		l[:cap(l)][i] = id(77)
	}
}

// DOC.md, 3: what is answered is apart from the tree, from every other answer, and each part of a Name from the others.
func TestApart(t *testing.T) {
	apart(t, after(t, story()...))
	apart(t, after(t, add(1, 0, "cn=a+sn=b"), add(2, 1, "cn=a+sn=b"), add(3, 2, "cn=a+sn=b"), add(4, 2, "cn=a+sn=b"), add(5, 4, "cn=a+sn=b"), del(6, 2))) // parts that are alike
	d := after(t, story()...)
	for _, c := range []api.CSN{id(0), id(11), id(99)} { // of nothing
		n, _ := find.Name(d, c)
		scribbleName(n)
		scribbleIDs(find.Under(d, c, 7))
		scribbleIDs(find.Under(d, c, api.SOne))
	}
	check(t, "of nothing", d)
}

func apart(t *testing.T, d *tree.Tree) {
	t.Helper()
	was, m := told(d), modelOf(d)
	for _, c := range m.under(id(0), api.SSub) {
		want, _ := m.name(c)
		one, _ := find.Name(d, c)
		other, _ := find.Name(d, c)
		kid, _ := find.Name(d, append(m.kids(c), c)[0])
		kidWas := text(kid)
		for i := range one {
			rest, ahead := text(one[i+1:]), text(one[:i])
			scribbleRDN(one[i])
			if text(one[i+1:]) != rest || text(one[:i]) != ahead {
				t.Errorf("Name of %s: part %d is in another one, too", number(c), i)
			}
		}
		scribbleName(one)
		if text(other) != text(want) || text(kid) != kidWas {
			t.Errorf("Name of %s: two answers share", number(c))
		}
		scribbleName(other)
		scribbleName(kid)
		for _, scope := range []int{api.SBase, api.SOne, api.SSub} {
			one, other, sub := find.Under(d, c, scope), find.Under(d, c, scope), find.Under(d, id(0), api.SSub)
			scribbleIDs(one)
			if !slices.Equal(other, m.under(c, scope)) || !slices.Equal(sub, m.under(id(0), api.SSub)) {
				t.Errorf("Under of %s, scope %d: two answers share", number(c), scope)
			}
			scribbleIDs(other)
			scribbleIDs(sub)
			if got := find.Under(d, c, scope); !slices.Equal(got, m.under(c, scope)) {
				t.Errorf("Under of %s, scope %d: an answer is kept: %s", number(c), scope, numbers(got))
			}
		}
		if told(d) != was {
			t.Fatalf("what is answered of %s is the tree's:\n%s\nit was\n%s", number(c), told(d), was)
		}
	}
	check(t, "apart", d)
}

// DOC.md, 3: an answer is no part of what comes later.
func TestAnswersStay(t *testing.T) {
	d := after(t, story()...)
	n, _ := find.Name(d, id(7))
	kids, sub := find.Under(d, id(1), api.SOne), find.Under(d, id(0), api.SSub)
	was := []string{text(n), numbers(kids), numbers(sub)}
	for _, c := range []api.Change{moveOff(200, 6, 0, "cn=later"), del(201, 7), add(202, 1, "cn=later"), del(203, 14), moveOff(204, 2, 17, "cn=later")} {
		d.Apply(c)
		if now := []string{text(n), numbers(kids), numbers(sub)}; !slices.Equal(now, was) {
			t.Errorf("what was answered turns: %v, it was %v", now, was)
		}
		check(t, "later", d)
	}
}

// inside tells whether p and s have bytes in common.
func inside(p, s string) bool {
	if p == "" || s == "" {
		return false
	}
	begin, at := uintptr(unsafe.Pointer(unsafe.StringData(s))), uintptr(unsafe.Pointer(unsafe.StringData(p)))
	return at < begin+uintptr(len(s)) && begin < at+uintptr(len(p))
}

// DOC.md, 3: the texts of a Name are its own.
func TestTexts(t *testing.T) {
	d := after(t, story()...)
	for _, n := range []int64{1, 3, 7, 10, 21} {
		one, _ := find.Name(d, id(n))
		asked := slices.Clone(one)
		find.Find(d, asked)
		other, _ := find.Name(d, id(n))
		var l []string
		for _, r := range append(slices.Clone(one), other...) {
			for _, a := range r {
				l = append(l, a.Attr, a.Value)
			}
		}
		for i, s := range l {
			if slices.ContainsFunc(l[i+1:], func(p string) bool { return inside(p, s) }) {
				t.Errorf("Name of %d: %q is in two answers, or twice in one", n, s)
			}
		}
	}
}

// DOC.md, 6: whoever asks changes nothing, however many ask at once, and whatever is asked of another tree.
func TestAsked(t *testing.T) {
	d, other := after(t, story()...), after(t, add(1, 0, "cn=other"), add(2, 1, "ou=x"))
	was, m := told(d), modelOf(d)
	var all sync.WaitGroup
	for range 8 {
		all.Add(1)
		go func() {
			defer all.Done()
			for _, c := range m.ids() {
				got, ok := find.Name(d, c)
				want, wantOK := m.name(c)
				if ok != wantOK || text(got) != text(want) || !slices.Equal(find.Under(d, c, api.SSub), m.under(c, api.SSub)) || find.Visible(d, c) != ok || !find.Beneath(d, c, id(0)) != (c == id(0) || !ok) {
					t.Errorf("asked by several, %s is another one", number(c))
				}
				if c, n, _ := find.Find(d, got); ok && (n != len(got) || !m.visible(c)) {
					t.Errorf("asked by several, Find is another one: %v, %d", c, n)
				}
				find.Find(other, got)
				find.Under(other, c, api.SSub)
			}
		}()
	}
	all.Wait()
	if told(d) != was {
		t.Errorf("what is asked is changed:\n%s\nit was\n%s", told(d), was)
	}
	check(t, "asked", d)
	check(t, "another one", other)
}

// DOC.md, 8: very many entries, beside and beneath one another, take no longer than their number says.
func TestLong(t *testing.T) {
	const n = 60000
	for how, parent := range map[string]func(i int64) int64{"beside": func(i int64) int64 { return 0 }, "beneath": func(i int64) int64 { return i - 1 }, "twos": func(i int64) int64 { return i / 2 }} {
		d := tree.New()
		for i := int64(1); i <= n; i++ {
			d.Apply(add(i, parent(i), "cn=a"))
		}
		depth := map[string]int{"beside": 1, "beneath": n, "twos": 16}[how]
		got, ok := find.Name(d, id(n))
		if !ok || len(got) != depth {
			t.Fatalf("%s: Name: %d parts, %v", how, len(got), ok)
		}
		if c, parts, ok := find.Find(d, got); c != id(n) || parts != depth || !ok {
			t.Errorf("%s: Find: %v, %d, %v", how, c, parts, ok)
		}
		all := find.Under(d, id(0), api.SSub)
		if len(all) != n+1 || all[0] != id(0) || all[1] != id(1) {
			t.Errorf("%s: Under: %d", how, len(all))
		}
		if slices.SortFunc(all, compare); len(slices.Compact(all)) != n+1 {
			t.Errorf("%s: Under tells one twice", how)
		}
		if got := find.Under(d, id(n), api.SSub); len(got) != 1 {
			t.Errorf("%s: Under of the last one: %d", how, len(got))
		}
		if !find.Beneath(d, id(n), id(0)) || find.Beneath(d, id(n), id(1)) != (how != "beside") || find.Beneath(d, id(1), id(n)) {
			t.Errorf("%s: Beneath", how)
		}
	}
}

// DOC.md, Limits
func TestLimits(t *testing.T) {
	if api.MaxValue != maxValue || api.MaxRDNs != maxRDNs || api.MaxAVAs != maxAVAs || api.MaxTime != maxTime || api.MaxSeq != maxSeq || api.MaxReps != maxReps {
		t.Error("the limits aren't the document's")
	}
	if api.SBase != 0 || api.SOne != 1 || api.SSub != 2 || api.Live != 1 || api.Glue != 2 || api.Dead != 3 {
		t.Error("scopes and states aren't the document's")
	}
}
