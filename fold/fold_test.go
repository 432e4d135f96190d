package fold_test

import (
	"fmt"
	"iter"
	"math"
	"math/rand"
	"slices"
	"strconv"
	"strings"
	"sync"
	"testing"
	"unsafe"

	"prefect/api"
	"prefect/change"
	"prefect/csn"
	"prefect/dn"
	"prefect/fold"
	"prefect/tree"
)

// The limits that the document names, by their numbers.
const (
	maxTime = 1099511627776
	maxSeq  = 65535
	maxReps = 6
)

func num(time int64, seq, rep int) api.CSN { return api.CSN{Time: time, Seq: seq, Rep: rep} }

// id makes the number of that Time. 0 is the root's.
func id(time int64) api.CSN { return num(time, 0, 0) }

// rdn reads a part of a name.
func rdn(s string) api.RDN {
	r, err := dn.ParseRDN(s)
	if err != api.OK {
		panic("no part of a name: " + s)
	}
	return r
}

func mod(kind int, attr string, values ...string) api.Mod {
	return api.Mod{Kind: kind, Attr: attr, Values: values}
}

// plus makes a mod that adds, set one that replaces.
func plus(attr string, values ...string) api.Mod { return mod(api.MAdd, attr, values...) }
func set(attr string, values ...string) api.Mod  { return mod(api.MReplace, attr, values...) }

func add(n, parent int64, name string, mods ...api.Mod) api.Change {
	return api.Change{CSN: id(n), Kind: api.KAdd, ID: id(n), Parent: id(parent), RDN: rdn(name), Mods: mods}
}

func del(n, of int64) api.Change {
	return api.Change{CSN: id(n), Kind: api.KDelete, ID: id(of)}
}

func modify(n, of int64, mods ...api.Mod) api.Change {
	return api.Change{CSN: id(n), Kind: api.KModify, ID: id(of), Mods: mods}
}

func move(n, of, to int64, name string) api.Change {
	return api.Change{CSN: id(n), Kind: api.KMove, ID: id(of), Parent: id(to), RDN: rdn(name)}
}

// moveOff is a move with DelOld.
func moveOff(n, of, to int64, name string) api.Change {
	return with(move(n, of, to, name), func(c *api.Change) { c.DelOld = true })
}

// root is a change of the root of that number, whatever it is: title tells which one it was.
func root(c api.CSN, title string) api.Change {
	return api.Change{CSN: c, Kind: api.KModify, Mods: []api.Mod{set("title", title)}}
}

// with tells c as do changes it.
func with(c api.Change, do func(c *api.Change)) api.Change {
	do(&c)
	return c
}

// line tells a change so that two that differ differ; no list and an empty one don't.
func line(c api.Change) string {
	var b strings.Builder
	fmt.Fprintf(&b, "%v %d %v %v %v", c.CSN, c.Kind, c.ID, c.Parent, c.DelOld)
	for _, a := range c.RDN {
		fmt.Fprintf(&b, " %q=%q", a.Attr, a.Value)
	}
	for _, m := range c.Mods {
		fmt.Fprintf(&b, "; %d %q %q", m.Kind, m.Attr, m.Values)
	}
	return b.String()
}

// lines tells changes, a line each.
func lines(l []api.Change) string {
	var texts []string
	for _, c := range l {
		texts = append(texts, line(c))
	}
	return strings.Join(texts, "\n")
}

// number tells the Time of a number without the rest, else all of it.
func number(c api.CSN) string {
	return strings.TrimSuffix(csn.Text(c), ".0.0")
}

// told tells a tree, an entry a line: ID, Parent, State, RDN (in quotes where it is Renamed), and its attributes. The root without attributes is left out.
func told(d *tree.Tree) string {
	var texts []string
	for _, e := range d.All() {
		name := dn.PrintRDN(e.RDN)
		if e.Renamed {
			name = "'" + name + "'"
		}
		var l []string
		for _, a := range e.Attrs {
			l = append(l, a.Name+" "+strings.Join(a.Values, ","))
		}
		state := map[int]string{api.Live: "live", api.Glue: "glue", api.Dead: "dead"}[e.State]
		if s := fmt.Sprintf("%s %s %s %s [%s]", number(e.ID), number(e.Parent), state, name, strings.Join(l, "; ")); s != "0 0 live  []" {
			texts = append(texts, s)
		}
	}
	return strings.Join(texts, "\n")
}

// trimmed tells the lines of s that aren't empty, without blanks at their ends.
func trimmed(s string) string {
	var l []string
	for s := range strings.Lines(s) {
		if s = strings.TrimSpace(s); s != "" {
			l = append(l, s)
		}
	}
	return strings.Join(l, "\n")
}

// less is how numbers go, by its own account.
func less(a, b api.CSN) bool {
	if a.Time != b.Time {
		return a.Time < b.Time
	}
	if a.Seq != b.Seq {
		return a.Seq < b.Seq
	}
	return a.Rep < b.Rep
}

// sorted is what Sort is to tell, by its own account: again and again the first one of the least number that isn't there yet.
func sorted(l []api.Change) []api.Change {
	var told []api.Change
	for {
		at := -1
		for i, c := range l {
			if change.Is(c) && (len(told) == 0 || less(told[len(told)-1].CSN, c.CSN)) && (at < 0 || less(c.CSN, l[at].CSN)) {
				at = i
			}
		}
		if at < 0 {
			return told
		}
		told = append(told, l[at])
	}
}

// after applies changes, as they come, to d.
func after(d *tree.Tree, l []api.Change) *tree.Tree {
	for _, c := range l {
		d.Apply(c)
	}
	return d
}

// alike asks that both trees are the same.
func alike(t *testing.T, what string, got, want *tree.Tree) {
	t.Helper()
	if !tree.Same(got, want) || told(got) != told(want) {
		t.Fatalf("%s:\n%s\nwant\n%s", what, told(got), told(want))
	}
}

// check asks all calls of l, upon several trees, of what its own account says.
func check(t *testing.T, what string, l []api.Change) {
	t.Helper()
	want := sorted(l)
	if got := fold.Sort(l); !slices.EqualFunc(got, want, change.Same) || lines(got) != lines(want) {
		t.Fatalf("P15.1: %s: Sort:\n%s\nwant\n%s", what, lines(got), lines(want))
	}
	alike(t, "P15.1: "+what+": Of", fold.Of(l), after(tree.New(), want))
	alike(t, "P15.1: "+what+": Upon New", fold.Upon(tree.New(), l), after(tree.New(), want))
	for i, grow := range bases() {
		alike(t, fmt.Sprint("P15.1: ", what, ": Upon ", i), fold.Upon(grow(), l), after(grow(), want))
	}
}

// bases make trees that have entries of all States.
func bases() []func() *tree.Tree {
	rows := [][]api.Change{
		{add(1, 0, "cn=a")},
		{add(1, 0, "cn=a", plus("title", "x")), add(2, 1, "cn=b"), del(3, 1)},
		{add(1, 0, "cn=a"), del(2, 1)},
		{root(id(1), "r"), add(2, 0, "cn=a"), add(3, 0, "cn=A"), add(4, 2, "cn=b"), add(5, 4, "cn=c"), del(6, 4), del(7, 3), add(8, 0, "cn=d"), move(9, 8, 5, "cn=a")},
	}
	makers := []func() *tree.Tree{tree.New, func() *tree.Tree { return &tree.Tree{} }}
	for _, l := range rows {
		makers = append(makers, func() *tree.Tree { return after(tree.New(), l) })
	}
	return makers
}

// orders goes through all orders of l.
func orders(l []api.Change) iter.Seq[[]api.Change] {
	return func(yield func([]api.Change) bool) {
		own := slices.Clone(l)
		var from func(k int) bool
		from = func(k int) bool {
			if k >= len(own) {
				return yield(slices.Clone(own))
			}
			for i := k; i < len(own); i++ {
				own[k], own[i] = own[i], own[k]
				if !from(k + 1) {
					return false
				}
				own[k], own[i] = own[i], own[k]
			}
			return true
		}
		from(0)
	}
}

// mustBe asks that all are changes.
func mustBe(t *testing.T, l []api.Change) {
	t.Helper()
	for i, c := range l {
		if !change.Is(c) {
			t.Fatalf("%d isn't a change: %s", i, line(c))
		}
	}
}

// P15.1
func TestNone(t *testing.T) {
	for _, l := range [][]api.Change{nil, {}, make([]api.Change, 0, 5)} {
		if got := fold.Sort(l); len(got) != 0 {
			t.Errorf("Sort: %v", got)
		}
		alike(t, "Of", fold.Of(l), tree.New())
		for i, grow := range bases() {
			alike(t, fmt.Sprint("Upon ", i), fold.Upon(grow(), l), grow())
		}
		check(t, "none", l)
	}
}

// P15.1
func TestOne(t *testing.T) {
	for _, r := range []struct {
		c    api.Change
		want string
	}{
		{add(1, 0, "cn=a", plus("sn", "b")), "1 0 live cn=a [cn a; sn b]"},
		{add(7, 3, "cn=a"), "7 0 live cn=a [cn a]"},
		{root(id(3), "x"), "0 0 live  [title x]"},
		{modify(3, 1, plus("sn", "b")), ""},
		{del(3, 1), ""},
		{move(3, 1, 2, "cn=b"), ""},
	} {
		l := []api.Change{r.c}
		mustBe(t, l)
		if got := fold.Sort(l); len(got) != 1 || line(got[0]) != line(r.c) {
			t.Errorf("P15.1: Sort:\n%s\nwant\n%s", lines(got), line(r.c))
		}
		if got := told(fold.Of(l)); got != r.want {
			t.Errorf("P15.1: Of %s:\n%s\nwant\n%s", line(r.c), got, r.want)
		}
		check(t, line(r.c), l)
	}
}

// row are changes, rising, and the lines of what they make, whatever their order.
type row struct {
	name    string
	changes []api.Change
	want    string
}

func rows() []row {
	return []row{
		{"each Kind", []api.Change{add(1, 0, "cn=a"), add(2, 1, "cn=b"), modify(3, 2, plus("sn", "x")), moveOff(4, 2, 0, "cn=c"), del(5, 1)}, `
			1 0 dead cn=a []
			2 0 live cn=c [cn c; sn x]`},
		{"a child and its parent", []api.Change{add(1, 0, "cn=a"), add(2, 1, "cn=b")}, `
			1 0 live cn=a [cn a]
			2 1 live cn=b [cn b]`},
		{"one beneath another", []api.Change{add(1, 0, "cn=a"), add(2, 1, "cn=a"), add(3, 2, "cn=a"), add(4, 3, "cn=a")}, `
			1 0 live cn=a [cn a]
			2 1 live cn=a [cn a]
			3 2 live cn=a [cn a]
			4 3 live cn=a [cn a]`},
		{"an add and its delete", []api.Change{add(1, 0, "cn=a"), del(2, 1)}, `
			1 0 dead cn=a []`},
		{"an add, a delete, then a move", []api.Change{add(1, 0, "cn=a"), del(2, 1), move(3, 1, 0, "cn=b")}, `
			1 0 dead cn=a []`},
		{"an add, a move, then a delete", []api.Change{add(1, 0, "cn=a"), move(2, 1, 0, "cn=b"), del(3, 1)}, `
			1 0 dead cn=b []`},
		{"an add, a delete, then a modify", []api.Change{add(1, 0, "cn=a"), del(2, 1), modify(3, 1, plus("sn", "x"))}, `
			1 0 dead cn=a []`},
		{"two that set one value", []api.Change{add(1, 0, "cn=a"), modify(2, 1, set("title", "x")), modify(3, 1, set("title", "y"))}, `
			1 0 live cn=a [cn a; title y]`},
		{"one that sets a value, one that takes it away", []api.Change{add(1, 0, "cn=a"), modify(2, 1, plus("sn", "x")), modify(3, 1, mod(api.MDelete, "sn"))}, `
			1 0 live cn=a [cn a]`},
		{"one that takes a value away, one that sets it", []api.Change{add(1, 0, "cn=a", plus("sn", "w")), modify(2, 1, mod(api.MDelete, "sn")), modify(3, 1, plus("sn", "x"))}, `
			1 0 live cn=a [cn a; sn x]`},
		{"values stand as they came by their numbers", []api.Change{add(1, 0, "cn=a"), modify(2, 1, plus("sn", "z")), modify(3, 1, plus("sn", "y")), modify(4, 1, plus("sn", "x"))}, `
			1 0 live cn=a [cn a; sn z,y,x]`},
		{"two of one name", []api.Change{add(1, 0, "cn=a"), add(2, 0, "cn=A")}, `
			1 0 live cn=a [cn a]
			2 0 live 'cn=A+entryid=2.0.0' [cn A; entryid 2.0.0]`},
		{"two of one name, the one moved there", []api.Change{add(1, 0, "cn=a"), add(2, 0, "cn=b"), moveOff(3, 1, 0, "cn=b")}, `
			1 0 live 'cn=b+entryid=1.0.0' [cn b; entryid 1.0.0]
			2 0 live cn=b [cn b]`},
		{"two moved to one name", []api.Change{add(1, 0, "cn=a"), add(2, 0, "cn=b"), moveOff(3, 2, 0, "cn=c"), moveOff(4, 1, 0, "cn=c")}, `
			1 0 live 'cn=c+entryid=1.0.0' [cn c; entryid 1.0.0]
			2 0 live cn=c [cn c]`},
		{"two of one name, a delete between them", []api.Change{add(1, 0, "cn=a"), del(2, 1), add(3, 0, "cn=a")}, `
			1 0 dead cn=a []
			3 0 live cn=a [cn a]`},
		{"two of one name, a delete behind them", []api.Change{add(1, 0, "cn=a"), add(2, 0, "cn=a"), del(3, 1)}, `
			1 0 dead cn=a []
			2 0 live 'cn=a+entryid=2.0.0' [cn a; entryid 2.0.0]`},
		{"two moves that cross", []api.Change{add(1, 0, "cn=a"), add(2, 0, "cn=b"), move(3, 1, 2, "cn=a"), move(4, 2, 1, "cn=b")}, `
			1 2 live cn=a [cn a]
			2 0 live cn=b [cn b]`},
		{"two moves that cross, the other one first", []api.Change{add(1, 0, "cn=a"), add(2, 0, "cn=b"), move(3, 2, 1, "cn=b"), move(4, 1, 2, "cn=a")}, `
			1 0 live cn=a [cn a]
			2 1 live cn=b [cn b]`},
		{"two moves of one entry", []api.Change{add(1, 0, "cn=a"), add(2, 0, "cn=b"), add(3, 0, "cn=c"), move(4, 3, 1, "cn=c"), move(5, 3, 2, "cn=c")}, `
			1 0 live cn=a [cn a]
			2 0 live cn=b [cn b]
			3 2 live cn=c [cn c]`},
		{"a delete beneath which something is added", []api.Change{add(1, 0, "cn=a"), del(2, 1), add(3, 1, "cn=b")}, `
			1 0 glue cn=a [cn a]
			3 1 live cn=b [cn b]`},
		{"a delete of what has something beneath it", []api.Change{add(1, 0, "cn=a"), add(2, 1, "cn=b"), del(3, 1), del(4, 2)}, `
			1 0 dead cn=a []
			2 1 dead cn=b []`},
		{"two deletes of one entry", []api.Change{add(1, 0, "cn=a"), del(2, 1), del(3, 1)}, `
			1 0 dead cn=a []`},
		{"what isn't known", []api.Change{del(2, 1), modify(3, 1, plus("sn", "x")), move(4, 1, 0, "cn=b"), add(5, 1, "cn=c")}, `
			5 0 live cn=c [cn c]`},
	}
}

// P15.1, P15.2
func TestRows(t *testing.T) {
	for _, r := range rows() {
		mustBe(t, r.changes)
		want := trimmed(r.want)
		for l := range orders(r.changes) {
			was := lines(l)
			if got := lines(fold.Sort(l)); got != lines(r.changes) {
				t.Fatalf("P15.1: %s: Sort of\n%s\n\n%s\nwant\n%s", r.name, was, got, lines(r.changes))
			}
			if got := told(fold.Of(l)); got != want {
				t.Fatalf("P15.1, P15.2: %s: Of\n%s\n\n%s\nwant\n%s", r.name, was, got, want)
			}
			if got := told(fold.Upon(tree.New(), l)); got != want {
				t.Fatalf("P15.1, P15.2: %s: Upon New of\n%s\n\n%s\nwant\n%s", r.name, was, got, want)
			}
		}
		check(t, r.name, r.changes)
	}
}

// P15.1, P15.2: a beginning by Of, the rest upon that.
func TestRest(t *testing.T) {
	for _, r := range rows() {
		for at := range len(r.changes) + 1 {
			first := slices.Clone(r.changes[:at])
			slices.Reverse(first)
			for rest := range orders(r.changes[at:]) {
				if got := told(fold.Upon(fold.Of(first), rest)); got != trimmed(r.want) {
					t.Fatalf("P15.1: %s: from %d on: %s\nwant\n%s", r.name, at, got, trimmed(r.want))
				}
			}
		}
	}
}

// P15.1: what Upon does to a tree that has entries of all States.
func TestUpon(t *testing.T) {
	base := []api.Change{add(2, 0, "cn=a", plus("sn", "x")), add(3, 2, "cn=b"), add(4, 0, "cn=c"), add(5, 4, "cn=d"), del(6, 4), add(7, 0, "cn=e"), add(8, 7, "cn=f"), del(9, 8), del(10, 7)}
	const was = `
		2 0 live cn=a [cn a; sn x]
		3 2 live cn=b [cn b]
		4 0 glue cn=c [cn c]
		5 4 live cn=d [cn d]
		7 0 dead cn=e []
		8 7 dead cn=f []`
	mustBe(t, base)
	rows := []row{
		{"none", nil, was},
		{"of live ones", []api.Change{modify(11, 2, set("sn", "y")), moveOff(12, 3, 0, "cn=g"), del(13, 2)}, `
			2 0 dead cn=a []
			3 0 live cn=g [cn g]
			4 0 glue cn=c [cn c]
			5 4 live cn=d [cn d]
			7 0 dead cn=e []
			8 7 dead cn=f []`},
		{"glue goes", []api.Change{modify(11, 4, set("sn", "y")), del(12, 5)}, `
			2 0 live cn=a [cn a; sn x]
			3 2 live cn=b [cn b]
			4 0 dead cn=c []
			5 4 dead cn=d []
			7 0 dead cn=e []
			8 7 dead cn=f []`},
		{"dead ones come back", []api.Change{modify(11, 8, set("sn", "y")), add(12, 8, "cn=h"), add(13, 12, "cn=i")}, `
			2 0 live cn=a [cn a; sn x]
			3 2 live cn=b [cn b]
			4 0 glue cn=c [cn c]
			5 4 live cn=d [cn d]
			7 0 glue cn=e [cn e]
			8 7 glue cn=f [cn f]
			12 8 live cn=h [cn h]
			13 12 live cn=i [cn i]`},
		{"of a number that is less than what is there", []api.Change{add(1, 0, "cn=A"), moveOff(11, 2, 0, "cn=j"), moveOff(12, 1, 0, "cn=a")}, `
			1 0 live cn=a [cn a]
			2 0 live cn=j [cn j; sn x]
			3 2 live cn=b [cn b]
			4 0 glue cn=c [cn c]
			5 4 live cn=d [cn d]
			7 0 dead cn=e []
			8 7 dead cn=f []`},
		{"what is there once more", []api.Change{add(2, 0, "cn=z"), add(5, 2, "cn=z"), add(8, 2, "cn=z")}, was},
		{"no changes", []api.Change{{}, add(11, 12, "cn=z"), add(0, 0, "cn=z")}, was},
	}
	for _, r := range rows {
		d := after(tree.New(), base)
		for l := range orders(r.changes) {
			if got := told(fold.Upon(d, l)); got != trimmed(r.want) {
				t.Fatalf("P15.1: %s: Upon of\n%s\n\n%s\nwant\n%s", r.name, lines(l), got, trimmed(r.want))
			}
		}
		if got := told(d); got != trimmed(was) {
			t.Fatalf("P15.1: %s: the tree isn't as it was:\n%s", r.name, got)
		}
	}
}

// P15.1
func TestNumbers(t *testing.T) {
	rising := []api.CSN{
		num(0, 0, 1), num(0, 0, maxReps-1), num(0, 1, 0), num(0, 1, 1), num(0, maxSeq, 0), num(0, maxSeq, maxReps-1),
		num(1, 0, 0), num(1, 0, 1), num(1, 0, 2), num(1, 1, 0), num(1, 2, 0), num(1, 10, 0), num(2, 0, 0), num(9, 0, 0), num(10, 0, 0),
		num(1<<32, 0, 0), num(1<<32+1, 0, 0), num(maxTime-1, maxSeq, maxReps-1), num(maxTime, 0, 0), num(maxTime, maxSeq, 0), num(maxTime, maxSeq, maxReps-1),
	}
	var l []api.Change
	for i, c := range rising {
		l = append(l, root(c, strconv.Itoa(i)))
	}
	mustBe(t, l)
	for i, a := range l { // two of them, in both orders
		for _, b := range l[i+1:] {
			for _, both := range [][]api.Change{{a, b}, {b, a}} {
				if got, want := lines(fold.Sort(both)), lines([]api.Change{a, b}); got != want {
					t.Errorf("P15.1: Sort of\n%s\n\n%s", lines(both), got)
				}
				if got, want := told(fold.Of(both)), "0 0 live  [title "+b.Mods[0].Values[0]+"]"; got != want {
					t.Errorf("P15.1: Of\n%s\n\n%s\nwant\n%s", lines(both), got, want)
				}
			}
		}
	}
	r := rand.New(rand.NewSource(15))
	mixed := slices.Clone(l)
	slices.Reverse(mixed)
	for range 100 {
		if got := lines(fold.Sort(mixed)); got != lines(l) {
			t.Fatalf("P15.1: Sort of\n%s\n\n%s", lines(mixed), got)
		}
		check(t, "many numbers", mixed)
		r.Shuffle(len(mixed), func(i, j int) { mixed[i], mixed[j] = mixed[j], mixed[i] })
	}
}

// P15.1: a number that isn't csn's Is is no change's, on whichever side of the edge.
func TestNoNumbers(t *testing.T) {
	for _, c := range []api.CSN{
		{}, num(-1, 0, 0), num(0, -1, 0), num(0, 0, -1), num(maxTime+1, 0, 0), num(1, maxSeq+1, 0), num(1, 0, maxReps), num(1, -1, 0), num(1, 0, -1),
		num(math.MaxInt64, math.MaxInt, math.MaxInt), num(math.MinInt64, math.MinInt, math.MinInt), num(1<<40+1, 0, 0), num(1, 1<<16, 0), num(1, 1<<32, 0), num(1, 0, 1<<32),
	} {
		l := []api.Change{root(c, "wrong"), root(id(5), "right"), root(c, "wrong too")}
		if got := fold.Sort(l); len(got) != 1 || line(got[0]) != line(l[1]) {
			t.Errorf("P15.1: %v: Sort: %s", c, lines(got))
		}
		if got := told(fold.Of(l)); got != "0 0 live  [title right]" {
			t.Errorf("P15.1: %v: Of: %s", c, got)
		}
		check(t, fmt.Sprint(c), l)
	}
}

// P15.1: of one number the first in the list stays, whichever it is.
func TestTwice(t *testing.T) {
	a := add(1, 0, "cn=a")
	for i, l := range [][]api.Change{
		{add(5, 0, "cn=a"), add(5, 0, "cn=b")},
		{add(5, 0, "cn=a"), add(5, 1, "cn=a")},
		{add(5, 0, "cn=a"), add(5, 0, "cn=a", plus("sn", "x"))},
		{add(5, 0, "cn=a", plus("sn", "x")), add(5, 0, "cn=a", plus("sn", "X"))},
		{add(5, 0, "cn=a"), del(5, 1)},
		{modify(5, 1, set("sn", "x")), del(5, 1)},
		{modify(5, 1, set("sn", "x")), modify(5, 1, plus("sn", "x"))},
		{modify(5, 1, set("sn", "x", "y")), modify(5, 1, set("sn", "y", "x"))},
		{modify(5, 1, set("sn", "x")), modify(5, 0, set("sn", "x"))},
		{move(5, 1, 0, "cn=b"), moveOff(5, 1, 0, "cn=b")},
		{move(5, 1, 0, "cn=b"), move(5, 1, 2, "cn=b")},
		{move(5, 1, 0, "cn=b"), del(5, 1), modify(5, 1, set("sn", "x")), add(5, 1, "cn=c")},
	} {
		mustBe(t, l)
		for l := range orders(l) {
			for _, all := range [][]api.Change{slices.Insert(slices.Clone(l), 0, a), append(slices.Clone(l), a), slices.Insert(slices.Clone(l), 1, a)} {
				want := lines([]api.Change{a, l[0]})
				if got := lines(fold.Sort(all)); got != want {
					t.Fatalf("P15.1: row %d: Sort of\n%s\n\n%s\nwant\n%s", i, lines(all), got, want)
				}
				alike(t, fmt.Sprint("P15.1: Of row ", i), fold.Of(all), after(tree.New(), []api.Change{a, l[0]}))
				check(t, fmt.Sprint("row ", i), all)
			}
		}
	}
	for _, r := range rows() { // alike in all parts
		l := append(slices.Clone(r.changes), r.changes...)
		slices.Reverse(l)
		l = append(l, r.changes...)
		if got := lines(fold.Sort(l)); got != lines(r.changes) {
			t.Errorf("P15.1: %s: Sort:\n%s", r.name, got)
		}
		if got := told(fold.Of(l)); got != trimmed(r.want) {
			t.Errorf("P15.1: %s: Of: %s\nwant\n%s", r.name, got, trimmed(r.want))
		}
	}
}

// noChanges are made of each Kind: what isn't change's Is, of that number.
func noChanges(n int64) []api.Change {
	a, d, m, v := add(n, 0, "cn=z"), del(n, 1), modify(n, 1, set("sn", "z")), moveOff(n, 1, 0, "cn=z")
	long := strings.Repeat("z", 61)
	return []api.Change{
		with(a, func(c *api.Change) { c.Kind = 0 }), with(a, func(c *api.Change) { c.Kind = 5 }), with(a, func(c *api.Change) { c.Kind = -1 }), with(a, func(c *api.Change) { c.Kind = math.MaxInt }),
		{CSN: id(n)},
		with(a, func(c *api.Change) { c.ID = id(n - 1) }), with(a, func(c *api.Change) { c.ID = id(0) }), with(a, func(c *api.Change) { c.Parent = c.CSN }), with(a, func(c *api.Change) { c.Parent = id(n + 1) }),
		with(a, func(c *api.Change) { c.Parent = id(-1) }), with(a, func(c *api.Change) { c.RDN = nil }), with(a, func(c *api.Change) { c.RDN = rdn("cn=a+sn=b+ou=c+o=d") }),
		with(a, func(c *api.Change) { c.RDN = rdn("cn=a+entryid=1.0.0") }), with(a, func(c *api.Change) { c.RDN = rdn("nosuch=a") }), with(a, func(c *api.Change) { c.RDN = api.RDN{{Attr: "CN", Value: "a"}} }),
		with(a, func(c *api.Change) { c.RDN = slices.Repeat(rdn("cn=a"), 1000) }), with(a, func(c *api.Change) { c.DelOld = true }), with(a, func(c *api.Change) { c.Mods = []api.Mod{set("sn", "a")} }),
		with(a, func(c *api.Change) { c.Mods = []api.Mod{plus("sn")} }), with(a, func(c *api.Change) { c.Mods = []api.Mod{plus("sn", long)} }), with(a, func(c *api.Change) { c.Mods = slices.Repeat([]api.Mod{plus("sn", "a")}, 9) }),
		with(d, func(c *api.Change) { c.ID = id(0) }), with(d, func(c *api.Change) { c.ID = id(n) }), with(d, func(c *api.Change) { c.ID = id(n + 1) }), with(d, func(c *api.Change) { c.RDN = rdn("cn=a") }),
		with(d, func(c *api.Change) { c.Parent = id(1) }), with(d, func(c *api.Change) { c.DelOld = true }), with(d, func(c *api.Change) { c.Mods = []api.Mod{set("sn", "z")} }),
		with(m, func(c *api.Change) { c.ID = id(n) }), with(m, func(c *api.Change) { c.Mods = nil }), with(m, func(c *api.Change) { c.Mods = []api.Mod{set("entryid", "z")} }), with(m, func(c *api.Change) { c.Mods = []api.Mod{set("nosuch", "z")} }),
		with(m, func(c *api.Change) { c.Mods = []api.Mod{set("SN", "z")} }), with(m, func(c *api.Change) { c.Mods = []api.Mod{mod(4, "sn", "z")} }), with(m, func(c *api.Change) { c.Mods = []api.Mod{set("uidnumber", "07")} }),
		with(m, func(c *api.Change) { c.Mods = []api.Mod{set("sn", slices.Repeat([]string{"z"}, 13)...)} }), with(m, func(c *api.Change) { c.RDN = rdn("cn=z") }), with(m, func(c *api.Change) { c.Parent = id(1) }),
		with(v, func(c *api.Change) { c.ID = id(0) }), with(v, func(c *api.Change) { c.ID = id(n) }), with(v, func(c *api.Change) { c.Parent = id(n) }), with(v, func(c *api.Change) { c.RDN = nil }),
		with(v, func(c *api.Change) { c.RDN = rdn("entryid=1.0.0") }), with(v, func(c *api.Change) { c.Mods = []api.Mod{set("sn", "z")} }), with(v, func(c *api.Change) { c.RDN = rdn("cn=a+sn=b+ou=c+o=d") }),
	}
}

// P15.1: what is no change isn't told, and plays no part, not even for its number.
func TestNoChanges(t *testing.T) {
	right := []api.Change{add(1, 0, "cn=a"), add(2, 1, "cn=b"), modify(3, 1, plus("sn", "x")), move(4, 2, 0, "cn=c"), del(5, 1)}
	mustBe(t, right)
	want := told(after(tree.New(), right))
	kinds := map[int]int{}
	for n := int64(1); n <= 6; n++ {
		for i, c := range noChanges(n) {
			if change.Is(c) {
				t.Fatalf("no change %d of %d is one: %s", i, n, line(c))
			}
			kinds[c.Kind]++
			for at := range len(right) + 1 { // ahead of the one of its number, behind it, at once with it
				l := slices.Insert(slices.Clone(right), at, c)
				twice := append(slices.Clone(l), c)
				slices.Reverse(twice)
				for _, l := range [][]api.Change{l, twice} {
					if got := lines(fold.Sort(l)); got != lines(right) {
						t.Fatalf("P15.1: %s at %d: Sort:\n%s", line(c), at, got)
					}
					if got := told(fold.Of(l)); got != want {
						t.Fatalf("P15.1: %s at %d: Of:\n%s\nwant\n%s", line(c), at, got, want)
					}
					if got := told(fold.Upon(tree.New(), l)); got != want {
						t.Fatalf("P15.1: %s at %d: Upon:\n%s\nwant\n%s", line(c), at, got, want)
					}
				}
			}
		}
		wrong := noChanges(n)
		if got := fold.Sort(wrong); len(got) != 0 {
			t.Errorf("P15.1: Sort of no changes alone: %s", lines(got))
		}
		alike(t, "P15.1: Of no changes alone", fold.Of(wrong), tree.New())
		check(t, "no changes alone", wrong)
		check(t, "no changes ahead", append(wrong, right...))
		check(t, "no changes behind", append(slices.Clone(right), wrong...))
	}
	for _, k := range []int{api.KAdd, api.KDelete, api.KModify, api.KMove, 0, 5, -1} {
		if kinds[k] == 0 {
			t.Errorf("none of kind %d", k)
		}
	}
}

// P15.1: a change that is too large to have bytes is one.
func TestLarge(t *testing.T) {
	var values []string
	for i := range 12 {
		values = append(values, fmt.Sprintf("%s%02d", strings.Repeat("x", 58), i))
	}
	a := add(1, 0, "cn=a")
	for _, attr := range []string{"cn", "sn", "ou", "o", "dc", "uid", "mail", "description"} {
		a.Mods = append(a.Mods, plus(attr, values...))
	}
	if _, err := change.Bytes(a); err != api.ErrLarge {
		t.Fatalf("it isn't too large: %v", err)
	}
	if got := fold.Sort([]api.Change{del(2, 1), a}); len(got) != 2 || line(got[0]) != line(a) {
		t.Errorf("P15.1: Sort: %.500s", lines(got))
	}
	check(t, "a large one", []api.Change{del(2, 1), a})
	check(t, "a large one alone", []api.Change{a})
}

// P15.1: many, of few numbers: of each the first stays.
func TestMany(t *testing.T) {
	r := rand.New(rand.NewSource(151))
	for _, n := range []int{12, 13, 20, 21, 64, 199, 200, 201, 1000} {
		for _, numbers := range []int{1, 2, 7, n} {
			var l []api.Change
			for i := range n {
				m := r.Intn(numbers)
				l = append(l, root(num(int64(m/36), m/6%6, m%6), strconv.Itoa(i)))
			}
			check(t, fmt.Sprint(n, " of ", numbers), l)
		}
	}
	var l []api.Change // one number, each with other parts, among others
	for i := range 300 {
		l = append(l, root(id(7), "seven "+strconv.Itoa(i)), add(int64(700-i), 0, "cn=a"))
	}
	check(t, "one number", l)
	if got := fold.Sort(l); len(got) != 301 || got[0].Mods[0].Values[0] != "seven 0" {
		t.Errorf("P15.1: %d: %s", len(got), line(got[0]))
	}
}

// DOC.md, 8: very many take no longer than their number says.
func TestVeryMany(t *testing.T) {
	const n = 60000
	var falling, same []api.Change
	for i := int64(n); i > 0; i-- {
		falling = append(falling, add(i, i/2, "cn=a"))
		same = append(same, root(id(7), strconv.FormatInt(i, 10)))
	}
	got := fold.Sort(falling)
	if len(got) != n {
		t.Fatalf("Sort: %d", len(got))
	}
	for i, c := range got {
		if c.CSN != id(int64(i+1)) {
			t.Fatalf("Sort: at %d: %s", i, line(c))
		}
	}
	d := fold.Of(falling)
	if e, ok := d.Get(id(n)); !ok || e.Parent != id(n/2) || len(d.Kids(id(n/2))) != 1 || len(d.Kids(id(n/4))) != 2 {
		t.Errorf("Of: %v, %v", e, ok)
	}
	if got := fold.Sort(same); len(got) != 1 || line(got[0]) != line(same[0]) {
		t.Errorf("Sort: %d", len(got))
	}
	if got := told(fold.Upon(d, same)); !strings.HasPrefix(got, "0 0 live  [title "+strconv.Itoa(n)+"]") {
		t.Errorf("Upon: %.100s", got)
	}
}

// drawn makes n changes of all Kinds, rising, each of its own number, and what they name mostly there.
func drawn(r *rand.Rand, n int) []api.Change {
	parts := []string{"cn=a", "cn=A", "cn=b", "sn=a+cn=b", "cn=B+sn=A", "title=a", "title=b"}
	mods := []api.Mod{plus("cn", "a", "c"), plus("sn", "x"), mod(api.MDelete, "cn"), mod(api.MDelete, "cn", "A"), set("title", "t"), set("sn", "b", "y"), plus("title", "a")}
	var l []api.Change
	var entries []api.CSN
	at := api.CSN{}
	for len(l) < n {
		switch r.Intn(3) {
		case 0:
			at = num(at.Time+1+int64(r.Intn(3)), 0, r.Intn(maxReps))
		case 1:
			at = num(at.Time, at.Seq+1+r.Intn(3), r.Intn(maxReps))
		case 2:
			at.Rep++
		}
		if at.Rep == maxReps {
			at = num(at.Time+1, 0, 0)
		}
		some := func() api.CSN { // one of those that are there, or the root, or one that isn't
			switch i := r.Intn(len(entries) + 2); {
			case i < len(entries):
				return entries[i]
			case i == len(entries) && at.Seq > 0:
				return num(at.Time, at.Seq-1, r.Intn(maxReps))
			}
			return api.CSN{}
		}
		c := api.Change{CSN: at, Kind: 1 + r.Intn(4)}
		switch c.Kind {
		case api.KAdd:
			c.ID, c.Parent, c.RDN, c.Mods = at, some(), rdn(parts[r.Intn(len(parts))]), []api.Mod{plus("sn", "v")}[:r.Intn(2)]
		case api.KDelete:
			c.ID = some()
		case api.KModify:
			c.ID, c.Mods = some(), []api.Mod{mods[r.Intn(len(mods))], mods[r.Intn(len(mods))]}
		case api.KMove:
			c.ID, c.Parent, c.RDN, c.DelOld = some(), some(), rdn(parts[r.Intn(len(parts))]), r.Intn(2) == 0
		}
		if !change.Is(c) { // of the root, or of what is above it
			continue
		}
		if c.Kind == api.KAdd {
			entries = append(entries, at)
		}
		l = append(l, c)
	}
	return l
}

// P15.1, P15.2: whatever the order, it is the same tree.
func TestDrawn(t *testing.T) {
	r := rand.New(rand.NewSource(152))
	seen := map[string]int{}
	for range 250 {
		l := drawn(r, 1+r.Intn(60))
		want := after(tree.New(), l)
		alike(t, "P15.1: Of, rising", fold.Of(l), want)
		for range 5 {
			mixed := slices.Clone(l)
			for range r.Intn(10) { // alike in all parts
				mixed = append(mixed, l[r.Intn(len(l))])
			}
			r.Shuffle(len(mixed), func(i, j int) { mixed[i], mixed[j] = mixed[j], mixed[i] })
			if got := lines(fold.Sort(mixed)); got != lines(l) {
				t.Fatalf("P15.1: Sort of\n%s\n\n%s", lines(mixed), got)
			}
			alike(t, "P15.2: Of", fold.Of(mixed), want)
			at := r.Intn(len(l) + 1)
			rest := slices.Clone(l[at:])
			r.Shuffle(len(rest), func(i, j int) { rest[i], rest[j] = rest[j], rest[i] })
			begun := fold.Of(l[:at])
			was := told(begun)
			alike(t, "P15.2: Upon", fold.Upon(begun, rest), want)
			if told(begun) != was {
				t.Fatalf("P15.1: Upon changes its tree:\n%s\nit was\n%s", told(begun), was)
			}
			if told(after(tree.New(), mixed)) != told(want) {
				seen["order counts"]++
			}
		}
		for _, c := range l {
			seen[fmt.Sprint("kind ", c.Kind)]++
		}
		for _, e := range want.All() {
			seen[fmt.Sprint("state ", e.State)]++
			if e.Renamed {
				seen["renamed"]++
			}
		}
	}
	for _, s := range []string{"order counts", "kind 1", "kind 2", "kind 3", "kind 4", "state 1", "state 2", "state 3", "renamed"} {
		if seen[s] < 200 {
			t.Errorf("%s: but %d", s, seen[s])
		}
	}
}

// P15.1: numbers drawn twice, with other parts, and what is no change between them.
func TestDrawnTwice(t *testing.T) {
	r := rand.New(rand.NewSource(153))
	for range 150 {
		l := append(drawn(r, r.Intn(40)), drawn(r, r.Intn(40))...)
		for _, c := range noChanges(1 + r.Int63n(9)) {
			if r.Intn(3) == 0 {
				l = append(l, c)
			}
		}
		r.Shuffle(len(l), func(i, j int) { l[i], l[j] = l[j], l[i] })
		check(t, "drawn", l)
	}
}

// P15.2: what was sorted stays as it is.
func TestSorted(t *testing.T) {
	r := rand.New(rand.NewSource(154))
	for range 100 {
		l := drawn(r, 30)
		r.Shuffle(len(l), func(i, j int) { l[i], l[j] = l[j], l[i] })
		once := fold.Sort(l)
		if got := fold.Sort(once); lines(got) != lines(once) {
			t.Fatalf("Sort of Sort:\n%s\nwant\n%s", lines(got), lines(once))
		}
		alike(t, "Of Sort", fold.Of(once), fold.Of(l))
	}
}

// grown are changes of all Kinds, by which there are entries of all States, and what is no change, and a number twice.
func grown() []api.Change {
	return []api.Change{
		add(7, 5, "cn=i", plus("cn", "j", "k")), move(12, 6, 2, "cn=g"), add(1, 0, "cn=a+sn=b", plus("mail", "m", "n"), plus("title", "t")), add(2, 0, "cn=a+sn=b", plus("title", "x")), add(3, 1, "cn=c"),
		add(4, 3, "cn=d"), {}, add(5, 0, "ou=e"), del(13, 5), del(8, 3), modify(9, 1, plus("mail", "o"), mod(api.MDelete, "mail", "m")), add(6, 5, "cn=f"),
		add(2, 1, "cn=other"), moveOff(10, 4, 0, "cn=h+ou=x"), root(id(11), "r"), add(14, 15, "cn=no"), add(16, 0, "cn=z"), del(17, 16), add(18, 8, "cn=b"),
	}
}

// room tells l with room behind it and behind its lists, and what tells whether all of that stays as it was.
func room(l []api.Change) ([]api.Change, func() string) {
	own := append(slices.Clone(l), add(1, 0, "cn=room"), root(id(2), "room"))
	var rdns []api.RDN
	var mods [][]api.Mod
	var values [][]string
	for i, c := range own {
		r := append(slices.Clone(c.RDN), rdn("cn=room+sn=room")...)
		m := append(slices.Clone(c.Mods), plus("cn", "room"), mod(api.MDelete, "sn", "room"))
		for j := range m {
			v := append(slices.Clone(m[j].Values), "room", "more")
			values = append(values, v)
			m[j].Values = v[:len(v)-2]
		}
		rdns, mods = append(rdns, r), append(mods, m)
		own[i].RDN, own[i].Mods = r[:len(c.RDN)], m[:len(c.Mods)]
	}
	return own[:len(l)], func() string { return fmt.Sprint(own, rdns, mods, values) }
}

// scribble writes to c and to all its lists, and behind them.
func scribble(c *api.Change) {
	for i := range c.RDN[:cap(c.RDN)] {
		c.RDN[:cap(c.RDN)][i] = api.AVA{Attr: "o", Value: "scribbled"}
	}
	mods := c.Mods[:cap(c.Mods)]
	for i, m := range mods {
		for j := range m.Values[:cap(m.Values)] {
			m.Values[:cap(m.Values)][j] = "scribbled"
		}
		mods[i] = mod(-7, "o", "scribbled")
	}
	c.CSN, c.Kind, c.ID, c.Parent, c.DelOld = id(77), -7, id(77), id(77), true
}

// scribbleAll writes to l and behind it.
func scribbleAll(l []api.Change) {
	l = l[:cap(l)]
	for i := range l {
		scribble(&l[i])
	}
}

// DOC.md, 3: what is handed in stays as it was, and isn't kept.
func TestHandedIn(t *testing.T) {
	want := sorted(grown())
	l, shows := room(grown())
	was := shows()
	got := fold.Sort(l)
	if shows() != was {
		t.Errorf("Sort changes what is handed in:\n%s\nit was\n%s", shows(), was)
	}
	if scribbleAll(l); lines(got) != lines(want) {
		t.Errorf("Sort keeps what is handed in:\n%s\nwant\n%s", lines(got), lines(want))
	}
	l, shows = room(grown())
	if scribbleAll(fold.Sort(l)); shows() != was {
		t.Errorf("Sort answers what is handed in:\n%s\nit was\n%s", shows(), was)
	}
	makers := []func([]api.Change) *tree.Tree{fold.Of}
	for _, grow := range bases() {
		makers = append(makers, func(l []api.Change) *tree.Tree { return fold.Upon(grow(), l) })
	}
	for i, maker := range makers {
		l, shows := room(grown())
		d, want := maker(l), told(maker(want))
		if shows() != was {
			t.Errorf("tree %d: what is handed in is changed:\n%s\nit was\n%s", i, shows(), was)
		}
		if scribbleAll(l); told(d) != want {
			t.Errorf("tree %d: what is handed in is kept:\n%s\nwant\n%s", i, told(d), want)
		}
	}
}

// DOC.md, 3: what Sort answers is apart from every other answer, and its lists from one another.
func TestApart(t *testing.T) {
	shared := []api.Mod{plus("sn", "x", "y"), plus("ou", "z")}
	name := rdn("cn=a+title=b")
	l := grown()
	for i := int64(20); i < 30; i++ { // lists that hang on several changes
		l = append(l, with(add(i, 0, "cn=a"), func(c *api.Change) { c.RDN, c.Mods = name, shared }))
		shared = append(shared, shared[0])[:2:2]
	}
	want := lines(sorted(l))
	one, other := fold.Sort(l), fold.Sort(l)
	if lines(one) != want || lines(other) != want {
		t.Fatalf("Sort:\n%s\nwant\n%s", lines(one), want)
	}
	for i := range one {
		rest := lines(one[i+1:])
		scribble(&one[i])
		if lines(one[i+1:]) != rest {
			t.Errorf("what is at %d shares with what is behind it", i)
		}
	}
	scribbleAll(one)
	if lines(other) != want {
		t.Errorf("two answers share:\n%s\nwant\n%s", lines(other), want)
	}
	for i, c := range other { // within one change
		for j := range c.Mods {
			was := fmt.Sprint(c.Mods[j+1:], c.RDN)
			for k := range c.Mods[j].Values[:cap(c.Mods[j].Values)] {
				c.Mods[j].Values[:cap(c.Mods[j].Values)][k] = "scribbled"
			}
			if fmt.Sprint(c.Mods[j+1:], c.RDN) != was {
				t.Errorf("at %d: the values of mod %d are in another list, too", i, j)
			}
		}
	}
	if got := lines(fold.Sort(l)); got != want {
		t.Errorf("what is handed in is in an answer:\n%s\nwant\n%s", got, want)
	}
	for i, l := range [][]api.Change{fold.Sort(nil), fold.Sort([]api.Change{{}})} {
		scribbleAll(l)
		if got := fold.Sort(nil); len(got) != 0 {
			t.Errorf("%d: %v", i, got)
		}
	}
}

// P15.1: behind what Sort answers there is nothing of what it was handed, nor of what it left out.
func TestRoom(t *testing.T) {
	l := append(slices.Repeat([]api.Change{add(1, 0, "cn=a", plus("sn", "x"))}, 50), add(2, 0, "cn=b"), del(3, 1))
	l = append(l, noChanges(5)...)
	got := fold.Sort(l)
	if len(got) != 3 {
		t.Fatalf("Sort: %s", lines(got))
	}
	for _, c := range got[:cap(got)][3:] {
		if line(c) != line(api.Change{}) {
			t.Errorf("behind the answer is %s", line(c))
		}
	}
}

// inside tells whether p and s have bytes in common.
func inside(p, s string) bool {
	if p == "" || s == "" {
		return false
	}
	begin, at := uintptr(unsafe.Pointer(unsafe.StringData(s))), uintptr(unsafe.Pointer(unsafe.StringData(p)))
	return at < begin+uintptr(len(s)) && begin < at+uintptr(len(p))
}

// texts tells all texts that hang on l.
func texts(l []api.Change) []string {
	var all []string
	for _, c := range l {
		for _, a := range c.RDN {
			all = append(all, a.Attr, a.Value)
		}
		for _, m := range c.Mods {
			all = append(append(all, m.Attr), m.Values...)
		}
	}
	return all
}

// DOC.md, 3: texts aren't kept, so that nothing larger hangs on one.
func TestTexts(t *testing.T) {
	long := "cn sn abcd efgh " + strings.Repeat("x", 1<<10)
	a := api.Change{CSN: id(1), Kind: api.KAdd, ID: id(1), RDN: api.RDN{{Attr: long[:2], Value: long[6:10]}}, Mods: []api.Mod{{Kind: api.MAdd, Attr: long[3:5], Values: []string{long[11:15]}}}}
	b := a
	b.CSN, b.ID = id(2), id(2)
	l := []api.Change{b, a}
	one, other := texts(fold.Sort(l)), texts(fold.Sort(l))
	if len(one) != 8 {
		t.Fatalf("texts: %q", one)
	}
	for i, s := range one {
		if inside(s, long) {
			t.Errorf("%q is kept", s)
		}
		for _, p := range append(slices.Clone(one[i+1:]), other...) {
			if inside(p, s) {
				t.Errorf("%q is in two answers, or twice in one", s)
			}
		}
	}
	for _, d := range []*tree.Tree{fold.Of(l), fold.Upon(tree.New(), l)} {
		for _, e := range d.All() {
			for _, a := range e.RDN {
				if inside(a.Attr, long) || inside(a.Value, long) {
					t.Errorf("%v is kept", a)
				}
			}
		}
	}
}

// P15.1: Upon's tree goes its own way, and so does what comes of it.
func TestOwnWay(t *testing.T) {
	more := []api.Change{root(id(50), "late"), add(51, 1, "cn=late"), del(52, 1), moveOff(53, 2, 0, "cn=late"), modify(54, 2, plus("sn", "late")), add(55, 3, "cn=late")}
	mustBe(t, more)
	for i, grow := range bases() {
		for _, l := range [][]api.Change{nil, {}, {{}}, {add(20, 0, "cn=a")}, grown()} {
			d := grow()
			was := told(d)
			e := fold.Upon(d, l)
			f := fold.Upon(d, l)
			if d == e || e == f {
				t.Fatalf("Upon %d: it is the same tree", i)
			}
			made := told(e)
			if told(d) != was {
				t.Fatalf("Upon %d changes its tree:\n%s\nit was\n%s", i, told(d), was)
			}
			after(e, more)
			if told(d) != was || told(f) != made {
				t.Fatalf("Upon %d: what is done with the answer is done with another tree:\n%s\nit was\n%s\n\n%s\nit was\n%s", i, told(d), was, told(f), made)
			}
			after(d, more)
			if told(f) != made {
				t.Fatalf("Upon %d: what is done with its tree is done with the answer:\n%s\nit was\n%s", i, told(f), made)
			}
		}
	}
	d, e := fold.Of(grown()), fold.Of(grown())
	made := told(e)
	after(d, more)
	if told(e) != made || d == e {
		t.Errorf("two answers of Of are one:\n%s\nit was\n%s", told(e), made)
	}
	alike(t, "Of none, once more", fold.Of(nil), tree.New())
	after(fold.Of(nil), more)
	alike(t, "Of none is another tree's", fold.Of(nil), tree.New())
}

// DOC.md, 6: whoever only asks changes nothing, however many ask at once.
func TestAsked(t *testing.T) {
	l, shows := room(grown())
	was, d := shows(), fold.Of(grown())
	sort, of, upon := lines(fold.Sort(l)), told(d), told(fold.Upon(d, l))
	var all sync.WaitGroup
	for range 8 {
		all.Add(1)
		go func() {
			defer all.Done()
			if lines(fold.Sort(l)) != sort || told(fold.Of(l)) != of || told(fold.Upon(d, l)) != upon {
				t.Error("asked by several, it is another one")
			}
		}()
	}
	all.Wait()
	if shows() != was || told(d) != of {
		t.Error("what is asked is changed")
	}
}

// DOC.md, Limits
func TestLimits(t *testing.T) {
	if api.MaxTime != maxTime || api.MaxSeq != maxSeq || api.MaxReps != maxReps {
		t.Error("the limits aren't the document's")
	}
}
