package tree_test

import (
	"cmp"
	"fmt"
	"math"
	"math/rand"
	"slices"
	"strings"
	"sync"
	"testing"
	"unsafe"

	"prefect/api"
	"prefect/attrs"
	"prefect/change"
	"prefect/csn"
	"prefect/dn"
	"prefect/match"
	"prefect/tree"
)

// The limits that the document names, by their numbers.
const (
	maxValue  = 60
	maxValues = 12
	maxAttrs  = 12
	maxAVAs   = 4
	maxMods   = 8
	maxTime   = 1099511627776
	maxSeq    = 65535
	maxReps   = 6
)

// id makes the number of that Time. 0 is the root's.
func id(time int64) api.CSN { return api.CSN{Time: time} }

// rdn reads a part of a name: none of "".
func rdn(s string) api.RDN {
	if s == "" {
		return nil
	}
	r, err := dn.ParseRDN(s)
	if err != api.OK {
		panic("no part of a name: " + s)
	}
	return r
}

func mod(kind int, attr string, values ...string) api.Mod {
	return api.Mod{Kind: kind, Attr: attr, Values: values}
}

// plus makes a mod that adds.
func plus(attr string, values ...string) api.Mod { return mod(api.MAdd, attr, values...) }

func add(n, parent int64, name string, mods ...api.Mod) api.Change {
	return api.Change{CSN: id(n), Kind: api.KAdd, ID: id(n), Parent: id(parent), RDN: rdn(name), Mods: mods}
}

// The others are changes of a Time that is behind all entries'.
const late = 1000

func del(n int64) api.Change {
	return api.Change{CSN: id(late), Kind: api.KDelete, ID: id(n)}
}

func modify(n int64, mods ...api.Mod) api.Change {
	return api.Change{CSN: id(late), Kind: api.KModify, ID: id(n), Mods: mods}
}

func move(n, parent int64, name string) api.Change {
	return api.Change{CSN: id(late), Kind: api.KMove, ID: id(n), Parent: id(parent), RDN: rdn(name)}
}

// moveOff is a move with DelOld.
func moveOff(n, parent int64, name string) api.Change {
	c := move(n, parent, name)
	c.DelOld = true
	return c
}

// after applies changes to a new tree, each of which must be one.
func after(t *testing.T, changes ...api.Change) *tree.Tree {
	t.Helper()
	d := tree.New()
	for i, c := range changes {
		if !change.Is(c) {
			t.Fatalf("change %d isn't one: %v", i, c)
		}
		d.Apply(c)
	}
	return d
}

var states = map[int]string{api.Live: "live", api.Glue: "glue", api.Dead: "dead"}

// line tells an entry: ID, Parent, State, RDN (in quotes where it is Renamed), and its attributes.
func line(e api.Entry) string {
	name := dn.PrintRDN(e.RDN)
	if e.Renamed {
		name = "'" + name + "'"
	}
	var l []string
	for _, a := range e.Attrs {
		l = append(l, a.Name+" "+strings.Join(a.Values, ","))
	}
	return fmt.Sprintf("%s %s %s %s [%s]", number(e.ID), number(e.Parent), states[e.State], name, strings.Join(l, "; "))
}

// number tells the Time of a number without the rest, else all of it.
func number(c api.CSN) string {
	return strings.TrimSuffix(csn.Text(c), ".0.0")
}

// told tells entries, a line each; the root without attributes is left out.
func told(l []api.Entry) string {
	var lines []string
	for _, e := range l {
		if s := line(e); s != "0 0 live  []" {
			lines = append(lines, s)
		}
	}
	return strings.Join(lines, "\n")
}

func numbers(l []api.CSN) string {
	var texts []string
	for _, c := range l {
		texts = append(texts, number(c))
	}
	return strings.Join(texts, " ")
}

// row is a row of changes, and the lines of what they make.
type row struct {
	name    string
	changes []api.Change
	want    string
}

func (r row) check(t *testing.T) {
	t.Helper()
	d := after(t, r.changes...)
	var want []string
	for s := range strings.Lines(r.want) {
		if s = strings.TrimSpace(s); s != "" {
			want = append(want, s)
		}
	}
	if got := told(d.All()); got != strings.Join(want, "\n") {
		t.Errorf("%s:\n%s\nwant\n%s", r.name, got, strings.Join(want, "\n"))
	}
	sound(t, d)
}

// sound tells whether d is a tree, and whether its calls tell of one tree.
func sound(t *testing.T, d *tree.Tree) {
	t.Helper()
	l := d.All()
	if len(l) == 0 || !csn.Zero(l[0].ID) || l[0].State != api.Live || len(l[0].RDN) > 0 || !csn.Zero(l[0].Parent) || l[0].Renamed {
		t.Fatalf("the root isn't first, or isn't one: %v", l)
	}
	byID := map[api.CSN]api.Entry{}
	kids := map[api.CSN][]api.CSN{}
	for i, e := range l {
		if i > 0 && csn.Cmp(l[i-1].ID, e.ID) >= 0 {
			t.Fatalf("All doesn't rise:\n%s", told(l))
		}
		byID[e.ID] = e
		if i > 0 && e.State != api.Dead {
			kids[e.Parent] = append(kids[e.Parent], e.ID)
		}
	}
	for i, e := range l {
		if got, ok := d.Get(e.ID); !ok || line(got) != line(e) {
			t.Fatalf("Get of %v: %v, %v", e, got, ok)
		}
		if got := d.Kids(e.ID); !slices.Equal(got, kids[e.ID]) {
			t.Fatalf("Kids of %s: %s, want %s, of\n%s", number(e.ID), numbers(got), numbers(kids[e.ID]), told(l))
		}
		if e.State == api.Dead && len(kids[e.ID]) > 0 || e.State == api.Glue && len(kids[e.ID]) == 0 {
			t.Fatalf("%s has kids: %s, of\n%s", number(e.ID), numbers(kids[e.ID]), told(l))
		}
		up := e
		for steps := 0; !csn.Zero(up.ID); steps++ {
			above, ok := byID[up.Parent]
			if !ok || steps > len(l) || up.State != api.Dead && above.State == api.Dead {
				t.Fatalf("from %s there is no way up, of\n%s", number(e.ID), told(l))
			}
			up = above
		}
		for _, f := range l[:i] {
			if e.State != api.Dead && f.State != api.Dead && !csn.Zero(f.ID) && e.Parent == f.Parent && match.SameRDN(e.RDN, f.RDN) {
				t.Fatalf("%s and %s have one name, of\n%s", number(e.ID), number(f.ID), told(l))
			}
		}
	}
}

// P14.1
func TestNew(t *testing.T) {
	for i, d := range []*tree.Tree{tree.New(), {}} { // the root always is
		l := d.All()
		if len(l) != 1 || line(l[0]) != "0 0 live  []" || len(l[0].RDN) != 0 || len(l[0].Attrs) != 0 {
			t.Errorf("%d: All: %v", i, l)
		}
		if e, ok := d.Get(id(0)); !ok || line(e) != "0 0 live  []" {
			t.Errorf("%d: Get of the root: %v, %v", i, e, ok)
		}
		for _, c := range strange {
			if e, ok := d.Get(c); ok || line(e) != line(api.Entry{}) || e.State != 0 {
				t.Errorf("%d: Get of %v: %v, %v", i, c, e, ok)
			}
			if l := d.Kids(c); len(l) != 0 {
				t.Errorf("%d: Kids of %v: %v", i, c, l)
			}
		}
		if l := d.Kids(id(0)); len(l) != 0 {
			t.Errorf("%d: Kids of the root: %v", i, l)
		}
		if !tree.Same(d, tree.New()) || !tree.Same(tree.New(), d) || !tree.Same(d, d.Copy()) || !tree.Same(d, tree.Load(l)) {
			t.Errorf("%d: it isn't New", i)
		}
	}
	for i, d := range []*tree.Tree{{}, {}, {}, {}} { // each call may be the first one
		switch i {
		case 0:
			d.Apply(add(1, 0, "cn=a"))
		case 1:
			d = d.Copy()
			d.Apply(add(1, 0, "cn=a"))
		case 2:
			d.Kids(id(0))
			d.Apply(add(1, 0, "cn=a"))
		case 3:
			if tree.Same(d, after(t, add(1, 0, "cn=a"))) {
				t.Error("no entries are the same as one")
			}
			d.Apply(add(1, 0, "cn=a"))
		}
		if got := told(d.All()); got != "1 0 live cn=a [cn a]" {
			t.Errorf("%d: %s", i, got)
		}
	}
}

// strange are numbers that no entry here has: of no change's, too.
var strange = []api.CSN{
	id(99), {Seq: 1}, {Rep: 1}, {Time: 1, Rep: 1}, {Time: 1, Seq: 1}, id(-1), {Seq: -1}, {Rep: -1}, {Rep: maxReps},
	id(maxTime), id(maxTime + 1), {Time: math.MaxInt64, Seq: math.MaxInt, Rep: math.MaxInt}, {Time: math.MinInt64, Seq: math.MinInt, Rep: math.MinInt},
}

// P14.1
func TestGetKids(t *testing.T) {
	d := after(t,
		add(5, 0, "cn=z"), add(3, 0, "cn=a"), add(4, 0, "cn=m"), add(7, 3, "cn=z"), add(6, 3, "cn=a"), add(9, 6, "cn=a"),
		add(8, 3, "cn=gone"), del(8), add(10, 8, "cn=a"), del(10), // 8 is dead again
		add(11, 0, "cn=gone"), del(11), del(6), // 6 is glue
	)
	sound(t, d)
	for n, want := range map[int64]string{0: "3 4 5", 3: "6 7", 4: "", 5: "", 6: "9", 7: "", 8: "", 9: "", 10: "", 11: "", 12: ""} {
		if got := numbers(d.Kids(id(n))); got != want {
			t.Errorf("Kids of %d: %s, want %s", n, got, want)
		}
	}
	for n, want := range map[int64]string{
		3: "3 0 live cn=a [cn a]", 6: "6 3 glue cn=a [cn a]", 9: "9 6 live cn=a [cn a]", 8: "8 3 dead cn=gone []", 10: "10 8 dead cn=a []", 11: "11 0 dead cn=gone []",
	} {
		if got, ok := d.Get(id(n)); !ok || line(got) != want {
			t.Errorf("Get of %d: %s, %v, want %s", n, line(got), ok, want)
		}
	}
	for _, c := range append(strange, id(1), id(2), id(12), api.CSN{Time: 3, Seq: 1}, api.CSN{Time: 3, Rep: 1}) {
		if e, ok := d.Get(c); ok || line(e) != line(api.Entry{}) {
			t.Errorf("Get of %v: %v, %v", c, e, ok)
		}
		if l := d.Kids(c); len(l) != 0 {
			t.Errorf("Kids of %v: %v", c, l)
		}
	}
	var ids []api.CSN
	for _, e := range d.All() {
		ids = append(ids, e.ID)
	}
	if got := numbers(ids); got != "0 3 4 5 6 7 8 9 10 11" {
		t.Errorf("All: %s", got)
	}
}

// P14.1
func TestRising(t *testing.T) {
	l := []api.CSN{{Rep: 1}, {Seq: 1}, {Seq: 1, Rep: 5}, {Time: 1}, {Time: 1, Rep: 2}, {Time: 1, Seq: 3}, {Time: 1, Seq: maxSeq, Rep: maxReps - 1}, {Time: 2}, {Time: 10}, {Time: maxTime, Seq: maxSeq, Rep: maxReps - 1}}
	r := rand.New(rand.NewSource(1))
	for range 20 {
		d := tree.New()
		for _, i := range r.Perm(len(l)) {
			d.Apply(api.Change{CSN: l[i], Kind: api.KAdd, ID: l[i], RDN: rdn(fmt.Sprintf("cn=%d", r.Intn(4)))})
		}
		if got := d.Kids(id(0)); !slices.Equal(got, l) {
			t.Fatalf("Kids: %s", numbers(got))
		}
		sound(t, d)
	}
}

// P14.2
func TestAdd(t *testing.T) {
	for _, r := range []row{
		{"beneath the root", []api.Change{add(1, 0, "cn=a")}, `
			1 0 live cn=a [cn a]`},
		{"beneath another one", []api.Change{add(1, 0, "cn=a"), add(2, 1, "cn=a"), add(3, 2, "ou=x")}, `
			1 0 live cn=a [cn a]
			2 1 live cn=a [cn a]
			3 2 live ou=x [ou x]`},
		{"with mods: one behind the other, then its RDN's", []api.Change{add(1, 0, "cn=A+title=t",
			plus("sn", "b", "c", "B"), plus("cn", "x", "a"), plus("title", "u", "v"), plus("sn", "d"), plus("title", "w"))}, `
			1 0 live cn=A+title=t [cn x,a; sn b,c,d; title t]`},
		{"of several AVAs", []api.Change{add(1, 0, "sn=b+cn=a+uidnumber=7")}, `
			1 0 live sn=b+cn=a+uidnumber=7 [cn a; sn b; uidnumber 7]`},
		{"of a value that isn't there as yet", []api.Change{add(1, 0, "cn=c", plus("cn", "a", "b"))}, `
			1 0 live cn=c [cn a,b,c]`},
		{"of an ID that is known", []api.Change{add(1, 0, "cn=a"), add(2, 0, "cn=b"), add(1, 0, "cn=c", plus("sn", "x"))}, `
			1 0 live cn=a [cn a]
			2 0 live cn=b [cn b]`},
		{"of an ID that is dead", []api.Change{add(1, 0, "cn=a"), del(1), add(1, 0, "cn=a"), add(1, 0, "cn=b")}, `
			1 0 dead cn=a []`},
		{"of an ID that is glue", []api.Change{add(1, 0, "cn=a"), add(2, 1, "cn=b"), del(1), add(1, 0, "cn=c")}, `
			1 0 glue cn=a [cn a]
			2 1 live cn=b [cn b]`},
		{"of an ID that is known, beneath a dead one: it isn't raised", []api.Change{add(1, 0, "cn=a"), add(2, 0, "cn=b"), del(1), add(2, 1, "cn=c")}, `
			1 0 dead cn=a []
			2 0 live cn=b [cn b]`},
		{"of a Parent that isn't known", []api.Change{add(5, 3, "cn=a"), add(6, 4, "cn=a")}, `
			5 0 live cn=a [cn a]
			6 0 live 'cn=a+entryid=6.0.0' [cn a; entryid 6.0.0]`},
		{"of a Parent that comes to be known later", []api.Change{add(5, 3, "cn=a"), add(3, 0, "cn=b")}, `
			3 0 live cn=b [cn b]
			5 0 live cn=a [cn a]`},
		{"beneath a dead one", []api.Change{add(1, 0, "cn=a", plus("sn", "x")), del(1), add(2, 1, "cn=b")}, `
			1 0 glue cn=a [cn a]
			2 1 live cn=b [cn b]`},
		{"beneath a dead one, whose Parent is dead", []api.Change{add(1, 0, "cn=a"), add(2, 1, "cn=b+sn=x"), del(2), del(1), add(3, 2, "cn=c")}, `
			1 0 glue cn=a [cn a]
			2 1 glue cn=b+sn=x [cn b; sn x]
			3 2 live cn=c [cn c]`},
		{"beneath a dead one, whose Parent is live, and the one above dead no more", []api.Change{add(1, 0, "cn=a", plus("sn", "x")), add(2, 1, "cn=b"), del(2), add(3, 2, "cn=c")}, `
			1 0 live cn=a [cn a; sn x]
			2 1 glue cn=b [cn b]
			3 2 live cn=c [cn c]`},
		{"beneath glue", []api.Change{add(1, 0, "cn=a"), add(2, 1, "cn=b"), del(1), add(3, 1, "cn=c")}, `
			1 0 glue cn=a [cn a]
			2 1 live cn=b [cn b]
			3 1 live cn=c [cn c]`},
		{"beneath a dead one that is renamed since its name is taken", []api.Change{add(1, 0, "cn=a"), del(1), add(2, 0, "cn=A"), add(3, 1, "cn=b")}, `
			1 0 glue 'cn=a+entryid=1.0.0' [cn a; entryid 1.0.0]
			2 0 live cn=A [cn A]
			3 1 live cn=b [cn b]`},
		{"beneath a dead one whose name is free again", []api.Change{add(1, 0, "cn=a"), add(2, 0, "cn=a"), del(2), del(1), add(3, 2, "cn=b")}, `
			1 0 dead cn=a []
			2 0 glue cn=a [cn a]
			3 2 live cn=b [cn b]`},
		{"of a name that is free, since its owner is dead", []api.Change{add(1, 0, "cn=a"), del(1), add(2, 0, "cn=a")}, `
			1 0 dead cn=a []
			2 0 live cn=a [cn a]`},
		{"of a name that glue has", []api.Change{add(1, 0, "cn=a"), add(2, 1, "cn=a"), del(1), add(3, 0, "cn=a")}, `
			1 0 glue cn=a [cn a]
			2 1 live cn=a [cn a]
			3 0 live 'cn=a+entryid=3.0.0' [cn a; entryid 3.0.0]`},
		{"of a name that is another's elsewhere", []api.Change{add(1, 0, "cn=a"), add(2, 0, "cn=b"), add(3, 1, "cn=b"), add(4, 2, "cn=a")}, `
			1 0 live cn=a [cn a]
			2 0 live cn=b [cn b]
			3 1 live cn=b [cn b]
			4 2 live cn=a [cn a]`},
	} {
		r.check(t)
	}
}

// P14.2
func TestDelete(t *testing.T) {
	for _, r := range []row{
		{"without Kids", []api.Change{add(1, 0, "cn=a", plus("sn", "x")), del(1)}, `
			1 0 dead cn=a []`},
		{"with Kids", []api.Change{add(1, 0, "cn=a+ou=b", plus("sn", "x"), plus("cn", "c")), add(2, 1, "cn=b"), del(1)}, `
			1 0 glue cn=a+ou=b [cn a; ou b]
			2 1 live cn=b [cn b]`},
		{"with dead ones beneath it alone", []api.Change{add(1, 0, "cn=a"), add(2, 1, "cn=b"), del(2), del(1)}, `
			1 0 dead cn=a []
			2 1 dead cn=b []`},
		{"with glue beneath it", []api.Change{add(1, 0, "cn=a"), add(2, 1, "cn=b"), add(3, 2, "cn=c"), del(2), del(1)}, `
			1 0 glue cn=a [cn a]
			2 1 glue cn=b [cn b]
			3 2 live cn=c [cn c]`},
		{"of one that is glue", []api.Change{add(1, 0, "cn=a"), add(2, 1, "cn=b"), del(1), del(1)}, `
			1 0 glue cn=a [cn a]
			2 1 live cn=b [cn b]`},
		{"of one that is dead", []api.Change{add(1, 0, "cn=a"), del(1), del(1)}, `
			1 0 dead cn=a []`},
		{"of one that isn't known", []api.Change{add(1, 0, "cn=a"), del(2)}, `
			1 0 live cn=a [cn a]`},
		{"of the last one beneath glue: upward as far as glue goes", []api.Change{
			add(1, 0, "cn=a"), add(2, 1, "cn=b"), add(3, 2, "cn=c"), add(4, 3, "cn=d"), del(2), del(3), del(4)}, `
			1 0 live cn=a [cn a]
			2 1 dead cn=b []
			3 2 dead cn=c []
			4 3 dead cn=d []`},
		{"of the last one beneath glue, up to the root", []api.Change{add(1, 0, "cn=a"), add(2, 1, "cn=b"), del(1), del(2)}, `
			1 0 dead cn=a []
			2 1 dead cn=b []`},
		{"of the last one beneath glue, up to glue that has another one", []api.Change{
			add(1, 0, "cn=a"), add(2, 1, "cn=b"), add(3, 2, "cn=c"), add(4, 1, "cn=d"), del(1), del(2), del(3)}, `
			1 0 glue cn=a [cn a]
			2 1 dead cn=b []
			3 2 dead cn=c []
			4 1 live cn=d [cn d]`},
		{"of one beneath glue that has another one", []api.Change{add(1, 0, "cn=a"), add(2, 1, "cn=b"), add(3, 1, "cn=c"), del(1), del(2)}, `
			1 0 glue cn=a [cn a]
			2 1 dead cn=b []
			3 1 live cn=c [cn c]`},
		{"of a renamed one, with Kids", []api.Change{add(1, 0, "cn=a"), add(2, 0, "cn=a", plus("sn", "x")), add(3, 2, "cn=b"), del(2)}, `
			1 0 live cn=a [cn a]
			2 0 glue 'cn=a+entryid=2.0.0' [cn a; entryid 2.0.0]
			3 2 live cn=b [cn b]`},
		{"of a renamed one, without Kids: its RDN stays", []api.Change{add(1, 0, "cn=a"), add(2, 0, "cn=a"), del(2)}, `
			1 0 live cn=a [cn a]
			2 0 dead 'cn=a+entryid=2.0.0' []`},
		{"of the first of a name: the other one keeps what it has", []api.Change{add(1, 0, "cn=a"), add(2, 0, "cn=a"), del(1)}, `
			1 0 dead cn=a []
			2 0 live 'cn=a+entryid=2.0.0' [cn a; entryid 2.0.0]`},
		{"of the first of a name: the next one takes it", []api.Change{add(1, 0, "cn=a"), add(2, 0, "cn=a"), del(1), add(3, 0, "cn=a"), add(4, 0, "cn=a")}, `
			1 0 dead cn=a []
			2 0 live 'cn=a+entryid=2.0.0' [cn a; entryid 2.0.0]
			3 0 live cn=a [cn a]
			4 0 live 'cn=a+entryid=4.0.0' [cn a; entryid 4.0.0]`},
	} {
		r.check(t)
	}
}

// P14.2
func TestModify(t *testing.T) {
	many := func(from, n int) []string {
		var l []string
		for i := range n {
			l = append(l, fmt.Sprint("v", from+i))
		}
		return l
	}
	for _, r := range []row{
		{"of an entry, one mod behind the other", []api.Change{add(1, 0, "cn=a", plus("sn", "x", "y")), modify(1,
			plus("ou", "o"), mod(api.MDelete, "sn", "X"), mod(api.MReplace, "mail", "m", "n"), plus("sn", "z"), mod(api.MDelete, "mail", "m"))}, `
			1 0 live cn=a [cn a; mail n; ou o; sn y,z]`},
		{"of the root", []api.Change{modify(0, plus("cn", "a", "b"), plus("aci", "x")), modify(0, mod(api.MDelete, "cn", "a"))}, `
			0 0 live  [aci x; cn b]`},
		{"of the root: all of it goes", []api.Change{modify(0, plus("cn", "a")), modify(0, mod(api.MReplace, "cn"))}, ``},
		{"by which its RDN's value would go", []api.Change{add(1, 0, "cn=a+sn=b", plus("cn", "c")), modify(1, mod(api.MDelete, "cn"), mod(api.MDelete, "sn", "b", "B"))}, `
			1 0 live cn=a+sn=b [cn a; sn b]`},
		{"by which its RDN's value would be another one: it comes last", []api.Change{add(1, 0, "cn=a"), modify(1, mod(api.MReplace, "cn", "x", "y"))}, `
			1 0 live cn=a [cn x,y,a]`},
		{"by which its RDN's value is written otherwise", []api.Change{add(1, 0, "cn=a"), modify(1, mod(api.MReplace, "cn", " A "))}, `
			1 0 live cn=a [cn  A ]`},
		{"of a single type that is its RDN's", []api.Change{add(1, 0, "title=t"), modify(1, plus("title", "u"))}, `
			1 0 live title=t [title t]`},
		{"of a renamed one: its entryid stays", []api.Change{add(1, 0, "cn=a"), add(2, 0, "cn=a"), modify(2, plus("sn", "x"), mod(api.MDelete, "cn"))}, `
			1 0 live cn=a [cn a]
			2 0 live 'cn=a+entryid=2.0.0' [cn a; entryid 2.0.0; sn x]`},
		{"of one that is glue", []api.Change{add(1, 0, "cn=a"), add(2, 1, "cn=b"), del(1), modify(1, plus("sn", "x"))}, `
			1 0 glue cn=a [cn a]
			2 1 live cn=b [cn b]`},
		{"of one that is dead", []api.Change{add(1, 0, "cn=a"), del(1), modify(1, plus("sn", "x"))}, `
			1 0 dead cn=a []`},
		{"of one that isn't known", []api.Change{modify(1, plus("sn", "x"))}, ``},
		{"of no values at all", []api.Change{add(1, 0, "cn=a", plus("sn", "x")), modify(1, mod(api.MDelete, "mail"), mod(api.MReplace, "sn"))}, `
			1 0 live cn=a [cn a]`},
		{"of as many values as may be: the RDN's isn't among them", []api.Change{add(1, 0, "cn=a"), modify(1, mod(api.MReplace, "cn", many(1, maxValues)...))}, `
			1 0 live cn=a [cn ` + strings.Join(many(1, maxValues), ",") + `]`},
		{"of one value less: the RDN's is", []api.Change{add(1, 0, "cn=a"), modify(1, mod(api.MReplace, "cn", many(1, maxValues-1)...))}, `
			1 0 live cn=a [cn ` + strings.Join(many(1, maxValues-1), ",") + `,a]`},
	} {
		r.check(t)
	}
}

// P14.2
func TestMove(t *testing.T) {
	for _, r := range []row{
		{"to another parent", []api.Change{add(1, 0, "cn=a"), add(2, 0, "cn=b", plus("sn", "x")), add(3, 2, "cn=c"), move(2, 1, "cn=b")}, `
			1 0 live cn=a [cn a]
			2 1 live cn=b [cn b; sn x]
			3 2 live cn=c [cn c]`},
		{"that renames only", []api.Change{add(1, 0, "cn=a+sn=b", plus("ou", "o")), move(1, 0, "cn=c")}, `
			1 0 live cn=c [cn a,c; ou o; sn b]`},
		{"that renames only, with DelOld", []api.Change{add(1, 0, "cn=a+sn=b", plus("ou", "o"), plus("sn", "x")), moveOff(1, 0, "cn=c")}, `
			1 0 live cn=c [cn c; ou o; sn x]`},
		{"to the parent and the name that it has", []api.Change{add(1, 0, "cn=a", plus("sn", "x")), add(2, 1, "cn=b"), move(2, 1, "cn=b"), moveOff(2, 1, "cn=B"), move(1, 0, "cn=a")}, `
			1 0 live cn=a [cn a; sn x]
			2 1 live cn=B [cn B]`},
		{"to its name written otherwise: the value that is there stays", []api.Change{add(1, 0, "cn=a+sn=b"), move(1, 0, "sn=B+cn=A")}, `
			1 0 live sn=B+cn=A [cn a; sn b]`},
		{"to a Parent that isn't known", []api.Change{add(1, 0, "cn=a"), add(2, 1, "cn=b"), move(2, 9, "cn=a")}, `
			1 0 live cn=a [cn a]
			2 0 live 'cn=a+entryid=2.0.0' [cn b,a; entryid 2.0.0]`},
		{"to the root", []api.Change{add(1, 0, "cn=a"), add(2, 1, "cn=b"), moveOff(2, 0, "cn=c")}, `
			1 0 live cn=a [cn a]
			2 0 live cn=c [cn c]`},
		{"beneath itself", []api.Change{add(1, 0, "cn=a"), moveOff(1, 1, "cn=b")}, `
			1 0 live cn=a [cn a]`},
		{"beneath what is beneath it", []api.Change{add(1, 0, "cn=a"), add(2, 1, "cn=b"), add(3, 2, "cn=c"), moveOff(1, 2, "cn=d"), moveOff(1, 3, "cn=d")}, `
			1 0 live cn=a [cn a]
			2 1 live cn=b [cn b]
			3 2 live cn=c [cn c]`},
		{"beneath what is dead beneath it: that isn't raised", []api.Change{add(1, 0, "cn=a"), add(2, 1, "cn=b"), add(3, 2, "cn=c"), del(3), del(2), moveOff(1, 2, "cn=d"), moveOff(1, 3, "cn=d")}, `
			1 0 live cn=a [cn a]
			2 1 dead cn=b []
			3 2 dead cn=c []`},
		{"beneath what is beneath it by way of glue", []api.Change{add(1, 0, "cn=a"), add(2, 1, "cn=b"), add(3, 2, "cn=c"), del(2), moveOff(1, 3, "cn=d")}, `
			1 0 live cn=a [cn a]
			2 1 glue cn=b [cn b]
			3 2 live cn=c [cn c]`},
		{"beneath a dead one", []api.Change{add(1, 0, "cn=a"), add(2, 1, "cn=b"), add(3, 0, "cn=c"), del(2), del(1), move(3, 2, "cn=c")}, `
			1 0 glue cn=a [cn a]
			2 1 glue cn=b [cn b]
			3 2 live cn=c [cn c]`},
		{"beneath a dead one of its own name: that is raised while it is there", []api.Change{add(1, 0, "cn=a"), del(1), add(2, 0, "cn=a"), move(2, 1, "cn=a")}, `
			1 0 glue 'cn=a+entryid=1.0.0' [cn a; entryid 1.0.0]
			2 1 live cn=a [cn a]`},
		{"of one that is glue", []api.Change{add(1, 0, "cn=a"), add(2, 1, "cn=b"), add(3, 0, "cn=c"), del(1), moveOff(1, 3, "cn=d")}, `
			1 0 glue cn=a [cn a]
			2 1 live cn=b [cn b]
			3 0 live cn=c [cn c]`},
		{"of one that is dead", []api.Change{add(1, 0, "cn=a"), add(2, 0, "cn=b"), del(1), moveOff(1, 2, "cn=d")}, `
			1 0 dead cn=a []
			2 0 live cn=b [cn b]`},
		{"of one that isn't known, and of one that is dead, beneath a dead one: that isn't raised", []api.Change{add(1, 0, "cn=a"), add(2, 0, "cn=b"), del(1), del(2), move(3, 1, "cn=d"), move(2, 1, "cn=d")}, `
			1 0 dead cn=a []
			2 0 dead cn=b []`},
		{"away from glue that then has none", []api.Change{add(1, 0, "cn=a"), add(2, 1, "cn=b"), add(3, 2, "cn=c"), del(2), del(1), move(3, 0, "cn=c")}, `
			1 0 dead cn=a []
			2 1 dead cn=b []
			3 0 live cn=c [cn c]`},
		{"away from glue that has another one", []api.Change{add(1, 0, "cn=a"), add(2, 1, "cn=b"), add(3, 1, "cn=c"), del(1), move(3, 0, "cn=c")}, `
			1 0 glue cn=a [cn a]
			2 1 live cn=b [cn b]
			3 0 live cn=c [cn c]`},
		{"away from glue to what is above that", []api.Change{add(1, 0, "cn=a"), add(2, 1, "cn=b"), add(3, 2, "cn=c"), del(2), del(1), move(3, 1, "cn=c")}, `
			1 0 glue cn=a [cn a]
			2 1 dead cn=b []
			3 1 live cn=c [cn c]`},
		{"away from glue to a dead one beneath that", []api.Change{add(1, 0, "cn=a"), add(2, 1, "cn=b"), add(3, 1, "cn=c"), del(2), del(1), move(3, 2, "cn=c")}, `
			1 0 glue cn=a [cn a]
			2 1 glue cn=b [cn b]
			3 2 live cn=c [cn c]`},
		{"within glue", []api.Change{add(1, 0, "cn=a"), add(2, 1, "cn=b"), del(1), moveOff(2, 1, "cn=c")}, `
			1 0 glue cn=a [cn a]
			2 1 live cn=c [cn c]`},
		{"away from a live one: that stays", []api.Change{add(1, 0, "cn=a"), add(2, 1, "cn=b"), move(2, 0, "cn=b")}, `
			1 0 live cn=a [cn a]
			2 0 live cn=b [cn b]`},
		{"of a single type: the new value stays", []api.Change{add(1, 0, "title=t"), move(1, 0, "title=u")}, `
			1 0 live title=u [title u]`},
		{"beneath what was beneath it", []api.Change{add(1, 0, "cn=a"), add(2, 1, "cn=b"), move(2, 0, "cn=b"), move(1, 2, "cn=a")}, `
			1 2 live cn=a [cn a]
			2 0 live cn=b [cn b]`},
		{"and a new one takes the name that it had", []api.Change{add(1, 0, "cn=a"), move(1, 0, "cn=b"), add(2, 0, "cn=a"), add(3, 0, "cn=b")}, `
			1 0 live cn=b [cn a,b]
			2 0 live cn=a [cn a]
			3 0 live 'cn=b+entryid=3.0.0' [cn b; entryid 3.0.0]`},
	} {
		r.check(t)
	}
}

// P14.3, and the example.
func TestNames(t *testing.T) {
	for _, r := range []row{
		{"two of one name", []api.Change{add(1, 0, "cn=a"), add(2, 0, "cn=a")}, `
			1 0 live cn=a [cn a]
			2 0 live 'cn=a+entryid=2.0.0' [cn a; entryid 2.0.0]`},
		{"the later one is the one that is placed later", []api.Change{add(2, 0, "cn=a"), add(1, 0, "cn=a")}, `
			1 0 live 'cn=a+entryid=1.0.0' [cn a; entryid 1.0.0]
			2 0 live cn=a [cn a]`},
		{"in different cases, with other blanks, in another order", []api.Change{add(1, 0, "cn=a b+sn=c"), add(2, 0, `sn=C+cn=A  B`), add(3, 0, `cn=\ a b+sn=c`)}, `
			1 0 live cn=a b+sn=c [cn a b; sn c]
			2 0 live 'sn=C+cn=A  B+entryid=2.0.0' [cn A  B; entryid 2.0.0; sn C]
			3 0 live 'cn=\ a b+sn=c+entryid=3.0.0' [cn  a b; entryid 3.0.0; sn c]`},
		{"names that are others", []api.Change{add(1, 0, "cn=a"), add(2, 0, "sn=a"), add(3, 0, "cn=a+sn=a"), add(4, 0, "mail=a"), add(5, 0, "mail=A"), add(6, 0, "uidnumber=1"), add(7, 0, "uidnumber=-1")}, `
			1 0 live cn=a [cn a]
			2 0 live sn=a [sn a]
			3 0 live cn=a+sn=a [cn a; sn a]
			4 0 live mail=a [mail a]
			5 0 live mail=A [mail A]
			6 0 live uidnumber=1 [uidnumber 1]
			7 0 live uidnumber=-1 [uidnumber -1]`},
		{"a value that reads as another name's text", []api.Change{add(1, 0, "cn=a+sn=b"), add(2, 0, `cn=a\+sn=b`)}, `
			1 0 live cn=a+sn=b [cn a; sn b]
			2 0 live cn=a\+sn=b [cn a+sn=b]`},
		{"three of one name: the first goes, and the second", []api.Change{add(1, 0, "cn=a"), add(2, 0, "cn=a"), add(3, 0, "cn=a"), del(1), del(2), add(4, 0, "cn=a")}, `
			1 0 dead cn=a []
			2 0 dead 'cn=a+entryid=2.0.0' []
			3 0 live 'cn=a+entryid=3.0.0' [cn a; entryid 3.0.0]
			4 0 live cn=a [cn a]`},
		{"a renamed one is placed anew, its name free: without its entryid, whose value stays", []api.Change{add(1, 0, "cn=a"), add(2, 0, "cn=a"), del(1), move(2, 0, "cn=a")}, `
			1 0 dead cn=a []
			2 0 live cn=a [cn a; entryid 2.0.0]`},
		{"with DelOld the value of its entryid goes", []api.Change{add(1, 0, "cn=a"), add(2, 0, "cn=a"), del(1), moveOff(2, 0, "cn=a")}, `
			1 0 dead cn=a []
			2 0 live cn=a [cn a]`},
		{"a renamed one is placed anew, its name taken: with one entryid", []api.Change{add(1, 0, "cn=a"), add(2, 0, "cn=a"), moveOff(2, 0, "cn=A"), move(2, 0, "cn=A")}, `
			1 0 live cn=a [cn a]
			2 0 live 'cn=A+entryid=2.0.0' [cn A; entryid 2.0.0]`},
		{"a renamed one is moved to where its name is free", []api.Change{add(1, 0, "cn=a"), add(2, 0, "cn=a"), moveOff(2, 1, "cn=a")}, `
			1 0 live cn=a [cn a]
			2 1 live cn=a [cn a]`},
		{"a renamed one that is raised, its name free, takes it", []api.Change{add(1, 0, "cn=a"), add(2, 0, "cn=a"), del(2), del(1), add(3, 2, "cn=b")}, `
			1 0 dead cn=a []
			2 0 glue cn=a [cn a]
			3 2 live cn=b [cn b]`},
		{"a renamed one that is raised, its name taken, is so again", []api.Change{add(1, 0, "cn=a"), add(2, 0, "cn=a"), del(2), add(3, 2, "cn=b")}, `
			1 0 live cn=a [cn a]
			2 0 glue 'cn=a+entryid=2.0.0' [cn a; entryid 2.0.0]
			3 2 live cn=b [cn b]`},
		{"a dead one has no name that another could miss", []api.Change{add(1, 0, "cn=a"), del(1), add(2, 0, "cn=a"), del(2), add(3, 1, "cn=b"), add(4, 2, "cn=b")}, `
			1 0 glue cn=a [cn a]
			2 0 glue 'cn=a+entryid=2.0.0' [cn a; entryid 2.0.0]
			3 1 live cn=b [cn b]
			4 2 live cn=b [cn b]`},
		{"one that was renamed when it was raised keeps that when it is dead again", []api.Change{
			add(1, 0, "cn=a"), add(2, 1, "cn=b"), add(3, 1, "cn=c"), del(2), move(3, 1, "cn=b"), add(4, 2, "cn=d"), del(4)}, `
			1 0 live cn=a [cn a]
			2 1 dead 'cn=b+entryid=2.0.0' []
			3 1 live cn=b [cn c,b]
			4 2 dead cn=d []`},
		{"dead ones keep RDN and Parent", []api.Change{add(1, 0, "cn=a"), add(2, 1, "sn=b+cn=B"), add(3, 1, "cn=b"), move(3, 2, "cn=c"), del(3), del(2), del(1)}, `
			1 0 dead cn=a []
			2 1 dead sn=b+cn=B []
			3 2 dead cn=c []`},
	} {
		r.check(t)
	}
}

// P14.2, P14.3: numbers and parts of a name as large as they may be.
func TestLargest(t *testing.T) {
	a := api.CSN{Time: maxTime, Seq: maxSeq, Rep: maxReps - 1}
	d := after(t, add(1, 0, "cn=a"), api.Change{CSN: a, Kind: api.KAdd, ID: a, RDN: rdn("cn=a+sn=b+ou=c")}, add(2, 0, "cn=a+sn=b+ou=c"),
		api.Change{CSN: a, Kind: api.KMove, ID: id(2), RDN: rdn("ou=C+cn=A+sn=B")}, api.Change{CSN: a, Kind: api.KMove, ID: id(1), RDN: rdn("ou=c+cn=a+sn=b")})
	if got, want := told(d.All()), strings.Join([]string{
		"1 0 live 'ou=c+cn=a+sn=b+entryid=1.0.0' [cn a; entryid 1.0.0; ou c; sn b]",
		"2 0 live 'ou=C+cn=A+sn=B+entryid=2.0.0' [cn a; entryid 2.0.0; ou c; sn b]",
		"1099511627776.65535.5 0 live cn=a+sn=b+ou=c [cn a; ou c; sn b]",
	}, "\n"); got != want {
		t.Errorf("%s\nwant\n%s", got, want)
	}
	b := api.CSN{Time: maxTime, Seq: maxSeq - 1, Rep: maxReps - 1}
	d.Apply(api.Change{CSN: b, Kind: api.KAdd, ID: b, RDN: rdn("cn=a+sn=b+ou=c")})
	e, ok := d.Get(b)
	if !ok || !dn.IsRDN(e.RDN) || len(e.RDN) != maxAVAs || e.RDN[maxAVAs-1] != (api.AVA{Attr: "entryid", Value: "1099511627776.65534.5"}) {
		t.Errorf("%v, %v", e, ok)
	}
	sound(t, d)
}

// P14.2: entries have at most so many attributes, of which those of least name stay.
func TestMany(t *testing.T) {
	types := []string{"aci", "c", "cn", "dc", "description", "mail", "member", "o", "ou", "sn", "title", "uid", "uidnumber", "userpassword"}
	value := map[string]string{"member": "cn=m", "uidnumber": "7"}
	var first, second []api.Mod
	for i, s := range types {
		m := plus(s, cmp.Or(value[s], "v"))
		if i < maxMods {
			first = append(first, m)
		} else {
			second = append(second, m)
		}
	}
	namesOf := func(d *tree.Tree, n int64) string {
		e, _ := d.Get(id(n))
		var l []string
		for _, a := range e.Attrs {
			l = append(l, a.Name)
		}
		return strings.Join(l, " ")
	}
	d := after(t, add(1, 0, "cn=v", first...), modify(1, second...), add(2, 0, "cn=v", first...), modify(2, second...))
	if got, want := namesOf(d, 1), strings.Join(types[:maxAttrs], " "); got != want {
		t.Errorf("of one: %s, want %s", got, want)
	}
	if got, want := namesOf(d, 2), "aci c cn dc description entryid mail member o ou sn title"; got != want {
		t.Errorf("of a renamed one: %s, want %s", got, want)
	}
	d = after(t, add(1, 0, "userpassword=v", first...), modify(1, second[:maxAttrs-maxMods]...))
	if got, want := namesOf(d, 1), strings.Join(types[:maxAttrs], " "); got != want {
		t.Errorf("of one whose RDN has no room: %s, want %s", got, want)
	}
	sound(t, d)
}

// wrong are changes of each Kind that aren't change's Is; entries 1 (live), 2 beneath it (live), 3 (glue), 4 beneath it, 5 (dead) are there.
func wrong() []api.Change {
	with := func(c api.Change, do func(c *api.Change)) api.Change {
		do(&c)
		return c
	}
	l := []api.Change{
		{},
		{CSN: id(late), ID: id(1)},
		with(add(50, 0, "cn=x"), func(c *api.Change) { c.Kind = 0 }),
		with(add(50, 0, "cn=x"), func(c *api.Change) { c.Kind = 5 }),
		with(add(50, 0, "cn=x"), func(c *api.Change) { c.Kind = -1 }),
		with(add(50, 0, "cn=x"), func(c *api.Change) { c.ID = id(49) }),
		with(add(50, 0, "cn=x"), func(c *api.Change) { c.CSN, c.ID = api.CSN{}, api.CSN{} }),
		with(add(50, 0, "cn=x"), func(c *api.Change) { c.CSN, c.ID = id(-1), id(-1) }),
		with(add(50, 0, "cn=x"), func(c *api.Change) { c.CSN.Rep, c.ID.Rep = maxReps, maxReps }),
		with(add(50, 0, "cn=x"), func(c *api.Change) { c.Parent.Seq = -1 }),
		with(add(50, 0, "cn=x"), func(c *api.Change) { c.DelOld = true }),
		with(add(50, 0, "cn=x"), func(c *api.Change) { c.RDN = nil }),
		with(add(50, 0, "cn=x"), func(c *api.Change) { c.RDN[0].Value = "" }),
		add(50, 50, "cn=x"), add(50, 51, "cn=x"),
		add(50, 0, "nosuch=x"), add(50, 0, "entryid=x"), add(50, 0, "cn=x+entryid=50.0.0"), add(50, 0, "cn=x+sn=x+ou=x+o=x"), add(50, 0, "uidnumber=x"),
		add(50, 0, "cn=x", mod(api.MDelete, "sn", "x")), add(50, 0, "cn=x", mod(api.MReplace, "sn", "x")), add(50, 0, "cn=x", plus("sn")),
		add(50, 0, "cn=x", plus("SN", "x")), add(50, 0, "cn=x", plus("nosuch", "x")), add(50, 0, "cn=x", plus("entryid", "x")), add(50, 0, "cn=x", plus("sn", "")),
		add(50, 5, "cn=x", slices.Repeat([]api.Mod{plus("sn", "x")}, maxMods+1)...),
		add(50, 5, "cn=x", plus("sn", strings.Repeat("x", maxValue+1))), add(50, 5, "cn=x", plus("sn", slices.Repeat([]string{"x"}, maxValues+1)...)),
		del(0), del(late), del(late + 1), del(-1),
		with(del(2), func(c *api.Change) { c.CSN = api.CSN{} }),
		with(del(2), func(c *api.Change) { c.Parent = id(1) }),
		with(del(2), func(c *api.Change) { c.RDN = rdn("cn=b") }),
		with(del(2), func(c *api.Change) { c.DelOld = true }),
		with(del(2), func(c *api.Change) { c.Mods = []api.Mod{plus("sn", "x")} }),
		with(del(2), func(c *api.Change) { c.CSN = id(2) }),
		with(del(2), func(c *api.Change) { c.CSN = id(1) }),
		modify(1), modify(0), modify(late, plus("sn", "x")),
		modify(1, plus("sn")), modify(1, plus("SN", "x")), modify(1, plus("nosuch", "x")), modify(1, mod(api.MDelete, "entryid")), modify(0, mod(0, "sn", "x")), modify(0, mod(4, "sn", "x")),
		modify(1, plus("sn", "x"), plus("uidnumber", "x")), modify(1, slices.Repeat([]api.Mod{plus("sn", "x")}, maxMods+1)...),
		with(modify(1, plus("sn", "x")), func(c *api.Change) { c.DelOld = true }),
		with(modify(1, plus("sn", "x")), func(c *api.Change) { c.Parent = id(2) }),
		with(modify(1, plus("sn", "x")), func(c *api.Change) { c.RDN = rdn("cn=x") }),
		with(modify(1, plus("sn", "x")), func(c *api.Change) { c.CSN = id(1) }),
		with(modify(0, plus("sn", "x")), func(c *api.Change) { c.CSN = api.CSN{} }),
		move(0, 1, "cn=x"), move(0, 0, "cn=x"), moveOff(2, late, "cn=x"), move(late, 0, "cn=x"), move(2, 0, ""), move(2, 5, "entryid=x"), move(2, 5, "cn=x+sn=x+ou=x+o=x"), move(2, 5, "nosuch=x"),
		with(move(2, 5, "cn=x"), func(c *api.Change) { c.Mods = []api.Mod{plus("sn", "x")} }),
		with(move(2, 5, "cn=x"), func(c *api.Change) { c.CSN = id(2) }),
		with(move(2, 5, "cn=x"), func(c *api.Change) { c.Parent.Rep = maxReps }),
		with(move(2, 5, "cn=x"), func(c *api.Change) { c.RDN = append(c.RDN, c.RDN...) }),
	}
	return l
}

// P14.2
func TestNoChange(t *testing.T) {
	rows := []api.Change{add(1, 0, "cn=a"), add(2, 1, "cn=b"), add(3, 0, "cn=c"), add(4, 3, "cn=d"), add(5, 0, "cn=e"), del(3), del(5)}
	want := after(t, rows...)
	for i, c := range wrong() {
		if change.Is(c) {
			t.Fatalf("row %d is a change: %v", i, c)
		}
		d := want.Copy()
		d.Apply(c)
		if !tree.Same(d, want) {
			t.Errorf("row %d, %v:\n%s", i, c, told(d.All()))
		}
		d = &tree.Tree{}
		d.Apply(c)
		if !tree.Same(d, tree.New()) {
			t.Errorf("row %d, of none: %v:\n%s", i, c, told(d.All()))
		}
	}
	if !tree.Same(want, after(t, rows...)) {
		t.Error("the tree isn't what it was")
	}
}

// model does what the chapter says, word by word, on a list of entries.
type model struct{ l []api.Entry }

func (m *model) at(c api.CSN) *api.Entry {
	for i := range m.l {
		if m.l[i].ID == c {
			return &m.l[i]
		}
	}
	return nil
}

func (m *model) kids(c api.CSN) []api.CSN {
	var l []api.CSN
	for _, e := range m.l {
		if e.Parent == c && e.ID != (api.CSN{}) && (e.State == api.Live || e.State == api.Glue) {
			l = append(l, e.ID)
		}
	}
	slices.SortFunc(l, csn.Cmp)
	return l
}

func (m *model) raise(c api.CSN) {
	if m.at(c).State != api.Dead {
		return
	}
	parent := m.at(c).Parent
	m.raise(parent)
	m.at(c).State = api.Glue
	m.place(c, parent, m.at(c).RDN)
	m.at(c).Attrs = attrs.With(nil, m.at(c).RDN)
}

func (m *model) place(c, parent api.CSN, r api.RDN) {
	var name api.RDN
	for _, a := range r {
		if a.Attr != "entryid" {
			name = append(name, a)
		}
	}
	renamed := false
	for _, k := range m.kids(parent) {
		if k != c && match.SameRDN(m.at(k).RDN, name) {
			renamed = true
		}
	}
	if renamed {
		name = append(name, api.AVA{Attr: "entryid", Value: csn.Text(c)})
	}
	e := m.at(c)
	e.Parent, e.RDN, e.Renamed = parent, name, renamed
}

func (m *model) prune(c api.CSN) {
	if e := m.at(c); e.State == api.Glue && len(m.kids(c)) == 0 {
		e.State, e.Attrs = api.Dead, nil
		m.prune(e.Parent)
	}
}

func (m *model) apply(c api.Change) {
	if !change.Is(c) {
		return
	}
	e, parent := m.at(c.ID), c.Parent
	if m.at(parent) == nil {
		parent = api.CSN{}
	}
	if (e == nil) != (c.Kind == api.KAdd) || e != nil && e.State != api.Live {
		return
	}
	with := func(mods []api.Mod) {
		e = m.at(c.ID)
		for _, mod := range mods {
			e.Attrs = attrs.Apply(e.Attrs, mod)
		}
		e.Attrs = attrs.With(e.Attrs, e.RDN)
	}
	switch c.Kind {
	case api.KAdd:
		m.raise(parent)
		m.l = append(m.l, api.Entry{ID: c.ID, Parent: c.ID, State: api.Live}) // its own parent: nobody's sibling as yet
		m.place(c.ID, parent, c.RDN)
		with(c.Mods)
	case api.KModify:
		with(c.Mods)
	case api.KDelete:
		if len(m.kids(c.ID)) > 0 {
			e.State, e.Attrs = api.Glue, attrs.With(nil, e.RDN)
			return
		}
		e.State, e.Attrs = api.Dead, nil
		m.prune(e.Parent)
	case api.KMove:
		for up := parent; up != (api.CSN{}); up = m.at(up).Parent {
			if up == c.ID {
				return
			}
		}
		former := e.Parent
		m.raise(parent)
		if c.DelOld {
			for _, a := range e.RDN {
				e.Attrs = attrs.Apply(e.Attrs, mod(api.MDelete, a.Attr, a.Value))
			}
		}
		m.place(c.ID, parent, c.RDN)
		with(nil)
		if former != parent {
			m.prune(former)
		}
	}
}

func (m *model) all() []api.Entry {
	l := slices.Clone(m.l)
	slices.SortFunc(l, func(a, b api.Entry) int { return csn.Cmp(a.ID, b.ID) })
	return l
}

// drawn makes n changes of all Kinds, of few names and few entries; some of them aren't changes.
func drawn(r *rand.Rand, n, entries int) []api.Change {
	parts := []string{"cn=a", "cn=A", "cn=b", "sn=a+cn=b", "cn=B+sn=A", "title=a", "title=b", "cn=a+sn=b+ou=c"}
	mods := []api.Mod{plus("cn", "a", "c"), plus("sn", "x"), mod(api.MDelete, "cn"), mod(api.MDelete, "cn", "A"), mod(api.MReplace, "title", "t"), mod(api.MReplace, "sn", "b", "y"), plus("title", "a"), plus("nosuch", "x")}
	number := func(from int) api.CSN {
		n := from + r.Intn(entries)
		return api.CSN{Time: int64((n + 1) / 2), Rep: n % 2}
	}
	var l []api.Change
	for len(l) < n {
		c := api.Change{Kind: 1 + r.Intn(4), CSN: api.CSN{Time: int64(entries + r.Intn(entries)), Seq: r.Intn(3)}, ID: number(0), Parent: number(0), RDN: rdn(parts[r.Intn(len(parts))])}
		some := []api.Mod{mods[r.Intn(len(mods))], mods[r.Intn(len(mods))]}
		switch c.Kind {
		case api.KAdd:
			c.CSN = number(1)
			c.ID, c.Mods = c.CSN, some[:r.Intn(2)]
		case api.KDelete:
			c.Parent, c.RDN = api.CSN{}, nil
		case api.KModify:
			c.Parent, c.RDN, c.Mods = api.CSN{}, nil, some
		case api.KMove:
			c.DelOld = r.Intn(2) == 0
		}
		l = append(l, c)
	}
	return l
}

// P14.1, P14.2, P14.3, P14.4, P14.5
func TestDrawn(t *testing.T) {
	r := rand.New(rand.NewSource(14))
	seen := map[string]int{}
	for range 1500 {
		d, m := tree.New(), &model{l: []api.Entry{{State: api.Live}}}
		for _, c := range drawn(r, 60, 3+r.Intn(12)) {
			before := told(m.all())
			m.apply(c)
			d.Apply(c)
			if got, want := told(d.All()), told(m.all()); got != want {
				t.Fatalf("%v makes of\n%s\n\n%s\n\nwant\n%s", c, before, got, want)
			}
			if told(m.all()) != before {
				seen[fmt.Sprint("kind ", c.Kind)]++
			}
		}
		sound(t, d)
		if e := tree.Load(d.All()); !tree.Same(d, e) || told(e.All()) != told(d.All()) {
			t.Fatalf("Load of\n%s\n\n%s", told(d.All()), told(e.All()))
		}
		for _, e := range d.All() {
			seen[states[e.State]]++
			if e.Renamed {
				seen["renamed "+states[e.State]]++
			}
		}
	}
	for _, s := range []string{"kind 1", "kind 2", "kind 3", "kind 4", "live", "glue", "dead", "renamed live", "renamed glue", "renamed dead"} {
		if seen[s] < 40 {
			t.Errorf("%s: but %d", s, seen[s])
		}
	}
}

// P14.5
func TestTree(t *testing.T) {
	r := rand.New(rand.NewSource(5))
	for range 300 {
		l := drawn(r, 80, 12)
		r.Shuffle(len(l), func(i, j int) { l[i], l[j] = l[j], l[i] })
		d := tree.New()
		for _, c := range l {
			d.Apply(c)
			sound(t, d)
		}
	}
}

// P14.1: what came to be the same way is the same, and another one goes its own way.
func TestCopy(t *testing.T) {
	r := rand.New(rand.NewSource(6))
	for range 200 {
		l := drawn(r, 60, 10)
		d := tree.New()
		for _, c := range l[:30] {
			d.Apply(c)
		}
		at := told(d.All())
		e, f := d.Copy(), tree.Load(d.All())
		if !tree.Same(d, e) || !tree.Same(e, d) || told(e.All()) != at {
			t.Fatalf("Copy of\n%s\n\n%s", at, told(e.All()))
		}
		for _, c := range l[30:] {
			e.Apply(c)
			f.Apply(c)
		}
		if told(d.All()) != at {
			t.Fatalf("what is done with a copy is done with\n%s\n\n%s", at, told(d.All()))
		}
		end := told(e.All())
		if told(f.All()) != end || !tree.Same(e, f) {
			t.Fatalf("a copy and what was loaded go other ways:\n%s\n\n%s", end, told(f.All()))
		}
		sound(t, d)
		sound(t, e)
		for _, c := range l[30:] {
			d.Apply(c)
		}
		if told(d.All()) != end || told(e.All()) != end {
			t.Fatalf("what is done with a tree is done with its copy, or otherwise:\n%s\n\n%s\n\n%s", end, told(d.All()), told(e.All()))
		}
	}
}

// P14.1
func TestSame(t *testing.T) {
	trees := [][]api.Change{
		{},
		{modify(0, plus("cn", "a"))},
		{modify(0, plus("cn", "A"))},
		{modify(0, plus("cn", "a", "b"))},
		{modify(0, plus("cn", "b", "a"))},
		{modify(0, plus("sn", "a"))},
		{add(1, 0, "cn=a")},
		{add(1, 0, "cn=A")},
		{add(1, 0, "cn=a"), add(2, 0, "cn=b")},
		{add(1, 0, "cn=a"), add(2, 1, "cn=b")},
		{add(1, 0, "cn=a"), add(3, 1, "cn=b")},
		{add(1, 0, "cn=a"), add(2, 1, "cn=b"), del(1)},
		{add(1, 0, "cn=a"), add(2, 1, "cn=b"), del(2)},
		{add(1, 0, "cn=a"), add(2, 1, "cn=c"), del(2)},
		{add(1, 0, "cn=a"), add(2, 0, "cn=b"), del(2)},
		{add(1, 0, "cn=a"), del(1)},
		{add(1, 0, "cn=b"), del(1)},
		{add(1, 0, "cn=a+sn=b")},
		{add(1, 0, "sn=b+cn=a")},
		{add(1, 0, "cn=a", plus("sn", "b"))},
		{add(1, 0, "cn=a"), add(2, 0, "cn=a")},
		{add(1, 0, "cn=a"), add(2, 0, "cn=a"), del(1)},
		{add(1, 0, "cn=a"), add(2, 0, "cn=a"), del(1), move(2, 0, "cn=a")},
		{add(2, 0, "cn=a"), add(1, 0, "cn=a")},
		{{CSN: api.CSN{Time: 1, Seq: 1}, Kind: api.KAdd, ID: api.CSN{Time: 1, Seq: 1}, RDN: rdn("cn=a")}},
		{{CSN: api.CSN{Time: 1, Rep: 1}, Kind: api.KAdd, ID: api.CSN{Time: 1, Rep: 1}, RDN: rdn("cn=a")}},
	}
	for i, a := range trees {
		for j, b := range trees {
			x, y := after(t, a...), after(t, b...)
			if got := tree.Same(x, y); got != (i == j) {
				t.Errorf("%v and %v: %v", a, b, got)
			}
			if i != j && told(x.All()) == told(y.All()) {
				t.Errorf("rows %d and %d don't differ", i, j)
			}
		}
	}
	x := after(t, add(1, 0, "cn=a"), add(2, 0, "cn=b"), del(1))
	y := after(t, add(2, 1, "cn=b"), add(1, 0, "cn=a", plus("sn", "x")), del(1), del(1))
	if !tree.Same(x, y) || !tree.Same(x, x) {
		t.Error("the way to a tree tells it apart")
	}
}

// P14.4
func TestLoad(t *testing.T) {
	for i, l := range [][]api.Change{
		{},
		{modify(0, plus("cn", "b", "a"), plus("aci", "x"))},
		{add(1, 0, "cn=a"), add(2, 1, "cn=b"), add(3, 2, "cn=c"), del(2)},
		{add(1, 0, "cn=a"), add(2, 1, "cn=b"), add(3, 2, "cn=c"), del(3), del(2), del(1)},
		{add(5, 0, "cn=a"), add(2, 1, "cn=b"), move(2, 5, "cn=x"), add(1, 0, "cn=k"), move(5, 1, "cn=y")}, // parents above their kids
		{add(1, 0, "cn=a"), add(2, 0, "cn=a"), add(3, 0, "cn=A"), del(1)},
		{add(1, 0, "cn=a"), del(1), add(2, 0, "cn=a"), del(2), add(3, 0, "cn=a")},
		{add(2, 0, "cn=a"), add(1, 0, "cn=a"), del(2), add(3, 0, "cn=a+sn=b+ou=c"), add(4, 0, "ou=C+cn=a+sn=b")},
		{add(1, 0, "cn=a"), add(2, 0, "cn=a"), del(1), move(2, 0, "cn=a"), modify(2, mod(api.MReplace, "cn", "z"))},
	} {
		d := after(t, l...)
		e := tree.Load(d.All())
		if !tree.Same(d, e) || told(d.All()) != told(e.All()) {
			t.Errorf("row %d: %s\nwant\n%s", i, told(e.All()), told(d.All()))
		}
		sound(t, e)
		for _, c := range []api.Change{add(50, 3, "cn=a"), add(51, 50, "cn=z"), add(52, 0, "cn=a"), moveOff(2, 51, "cn=z"), del(1), del(51), modify(2, plus("mail", "m"))} {
			d.Apply(c)
			e.Apply(c)
			if told(d.All()) != told(e.All()) {
				t.Errorf("row %d, then %v: %s\nwant\n%s", i, c, told(e.All()), told(d.All()))
			}
		}
	}
}

// entry makes an entry without attributes.
func entry(n, parent int64, state int, name string) api.Entry {
	return api.Entry{ID: id(n), Parent: id(parent), State: state, RDN: rdn(name)}
}

// P14.4: of others whatever, but each call comes back, and it is a tree.
func TestLoadOthers(t *testing.T) {
	root := api.Entry{State: api.Live}
	a, b, c := entry(1, 0, api.Live, "cn=a"), entry(2, 1, api.Live, "cn=b"), entry(3, 2, api.Dead, "cn=c")
	with := func(e api.Entry, do func(e *api.Entry)) api.Entry {
		do(&e)
		return e
	}
	rows := [][]api.Entry{
		nil, {}, {root, root}, {a}, {a, b}, {b, a, root}, {b}, {c, b, a}, {root, a, a}, {root, a, with(a, func(e *api.Entry) { e.RDN = rdn("cn=z") })},
		{root, entry(1, 1, api.Live, "cn=a")}, {root, entry(1, 1, api.Dead, "cn=a")}, {root, entry(1, 2, api.Live, "cn=a"), entry(2, 1, api.Live, "cn=b")},
		{root, entry(1, 3, api.Dead, "cn=a"), entry(2, 1, api.Dead, "cn=b"), entry(3, 2, api.Dead, "cn=b")}, {root, entry(1, 2, api.Live, "cn=a"), entry(2, 2, api.Live, "cn=b")},
		{root, a, entry(1, 1, api.Live, "cn=a")}, {root, a, b, entry(1, 2, api.Live, "cn=a")}, {root, entry(1, 9, api.Live, "cn=a")},
		{root, a, entry(2, 0, api.Live, "cn=A")}, {root, a, entry(2, 0, api.Glue, "cn=A")}, {root, a, entry(2, 0, api.Dead, "cn=A")},
		{root, entry(1, 0, api.Dead, "cn=a"), b}, {root, entry(1, 0, api.Dead, "cn=a"), entry(2, 1, api.Glue, "cn=a")}, {root, entry(1, 0, api.Glue, "cn=a")},
		{root, entry(1, 0, 0, "cn=a")}, {root, entry(1, 0, 4, "cn=a"), b}, {root, entry(1, 0, -1, "cn=a")}, {root, entry(1, 0, math.MaxInt, "cn=a")},
		{root, entry(1, 0, api.Live, "")}, {root, entry(1, 0, api.Live, ""), entry(2, 0, api.Live, "")}, {root, entry(1, 0, api.Dead, "")},
		{root, entry(1, 0, api.Live, "entryid=1.0.0"), entry(2, 0, api.Live, "entryid=2.0.0")}, {root, entry(1, 0, api.Dead, "entryid=1.0.0")},
		{root, entry(1, 0, api.Live, "cn=a+entryid=2.0.0"), entry(3, 0, api.Live, "cn=a")}, {root, entry(1, 0, api.Live, "entryid=1.0.0+cn=a")},
		{root, entry(4, 0, api.Live, "cn=a"), with(entry(1, 0, api.Live, "cn=a+entryid=13.0.0"), func(e *api.Entry) { e.Renamed = true })}, // 13 will want that name
		{root, entry(4, 0, api.Live, "cn=a"), entry(1, 0, api.Live, "cn=a+entryid=13.0.0")},
		{root, with(entry(1, 0, api.Live, "cn=a+entryid=2.0.0"), func(e *api.Entry) { e.Renamed = true }), entry(3, 0, api.Live, "cn=a")},
		{root, with(a, func(e *api.Entry) { e.Renamed = true })}, {root, entry(1, 0, api.Live, "cn=a+entryid=1.0.0")},
		{root, entry(1, 0, api.Live, "cn=a+sn=b+ou=c+o=d"), entry(2, 0, api.Dead, "cn=a+sn=b+ou=c+o=d")},
		{root, with(a, func(e *api.Entry) {
			e.RDN = append(rdn("cn=a+sn=b+ou=c+o=d"), rdn("entryid=1.0.0")...)
			e.Renamed = true
		})},
		{root, with(a, func(e *api.Entry) { e.RDN = api.RDN{{Attr: "CN", Value: "a"}} })}, {root, with(a, func(e *api.Entry) { e.RDN = api.RDN{{Attr: "cn"}} })},
		{root, with(a, func(e *api.Entry) { e.RDN = slices.Repeat(rdn("cn=a"), 3) })}, {root, with(a, func(e *api.Entry) { e.RDN = api.RDN{{}} })},
		{root, with(a, func(e *api.Entry) { e.RDN = slices.Repeat(rdn("entryid=1.0.0"), 1000) })},
		{root, with(a, func(e *api.Entry) { e.RDN = api.RDN{{Attr: "nosuch", Value: strings.Repeat("x", maxValue+1)}} })},
		{root, entry(1, 0, api.Live, "nosuch=x"), entry(2, 0, api.Live, "nosuch=x")},
		{root, with(a, func(e *api.Entry) { e.ID = api.CSN{Rep: maxReps} })}, {root, with(a, func(e *api.Entry) { e.ID = id(-1) })}, {root, with(a, func(e *api.Entry) { e.Parent = id(-1) })},
		{root, with(a, func(e *api.Entry) { e.ID = api.CSN{Time: math.MinInt64, Seq: math.MinInt, Rep: math.MinInt} })},
		{with(root, func(e *api.Entry) { e.State = api.Dead }), a}, {with(root, func(e *api.Entry) { e.State = api.Glue }), a}, {with(root, func(e *api.Entry) { e.State = 0 }), a},
		{with(root, func(e *api.Entry) { e.Parent = id(1) }), a}, {with(root, func(e *api.Entry) { e.RDN = rdn("cn=a"); e.Renamed = true }), a},
	}
	for _, l := range [][]api.Attr{
		{{}}, {{Name: "cn"}}, {{Name: "sn", Values: []string{"b"}}, {Name: "cn", Values: []string{"a"}}}, {{Name: "cn", Values: []string{"a", "A"}}}, {{Name: "CN", Values: []string{"a"}}},
		{{Name: "nosuch", Values: []string{"a"}}}, {{Name: "uidnumber", Values: []string{"x", ""}}}, {{Name: "title", Values: []string{"a", "b"}}}, {{Name: "cn", Values: slices.Repeat([]string{"a"}, 100)}},
	} {
		for _, state := range []int{api.Live, api.Glue, api.Dead} {
			rows = append(rows, []api.Entry{with(root, func(e *api.Entry) { e.Attrs = l }), with(a, func(e *api.Entry) { e.Attrs, e.State = l, state }), b})
		}
	}
	for i, l := range rows {
		goOn(t, fmt.Sprint("row ", i), l)
	}
}

// goOn loads l and goes on from there, by calls of all kinds.
func goOn(t *testing.T, name string, l []api.Entry) {
	t.Helper()
	d := tree.Load(l)
	up(t, name, d)
	if !tree.Same(d, tree.Load(d.All())) || !tree.Same(d, d.Copy()) {
		t.Fatalf("%s: what was loaded is loaded otherwise:\n%s", name, told(d.All()))
	}
	for _, c := range []api.Change{
		add(10, 1, "cn=a"), add(11, 2, "cn=b"), add(12, 3, "cn=c"), add(13, 0, "cn=a"), modify(0, plus("cn", "a")), modify(1, plus("cn", "x")), moveOff(1, 3, "cn=a+sn=b+ou=c"),
		moveOff(13, 2, "cn=b"), move(3, 1, "cn=a"), del(11), del(2), del(1), move(12, 0, "cn=a"), add(14, 1, "cn=z"), move(2, 14, "cn=a"), del(12), del(14), del(3),
	} {
		d.Apply(c)
		up(t, name, d)
	}
}

// up is what sound asks of a tree that came from any list: glue may have nothing beneath it.
func up(t *testing.T, name string, d *tree.Tree) {
	t.Helper()
	l := d.All()
	known := map[api.CSN]api.Entry{}
	for _, e := range l {
		known[e.ID] = e
	}
	if e := l[0]; !csn.Zero(e.ID) || e.State != api.Live || len(e.RDN) > 0 || !csn.Zero(e.Parent) || e.Renamed {
		t.Fatalf("%s: no root:\n%s", name, told(l))
	}
	for i, e := range l {
		if i > 0 && csn.Cmp(l[i-1].ID, e.ID) >= 0 || !attrs.Is(e.Attrs) {
			t.Fatalf("%s: no entries:\n%s", name, told(l))
		}
		at := e
		for steps := 0; !csn.Zero(at.ID); steps++ {
			above, ok := known[at.Parent]
			if !ok || steps > len(l) || at.State != api.Dead && above.State == api.Dead {
				t.Fatalf("%s: from %s there is no way up:\n%s", name, number(e.ID), told(l))
			}
			at = above
		}
		forms := map[string]bool{}
		var kids []api.CSN
		for _, k := range l[1:] {
			if k.Parent == e.ID && k.State != api.Dead {
				kids = append(kids, k.ID)
			}
		}
		if got := d.Kids(e.ID); !slices.Equal(got, kids) {
			t.Fatalf("%s: Kids of %s: %s, want %s:\n%s", name, number(e.ID), numbers(got), numbers(kids), told(l))
		}
		for _, k := range kids {
			kid, form := known[k], match.RDN(known[k].RDN)
			if form == "" || forms[form] || kid.Parent != e.ID || kid.State != api.Live && kid.State != api.Glue {
				t.Fatalf("%s: beneath %s:\n%s", name, number(e.ID), told(l))
			}
			forms[form] = true
		}
	}
}

// P14.4, P14.5
func TestLoadDrawn(t *testing.T) {
	r := rand.New(rand.NewSource(44))
	for i := range 400 {
		d := tree.New()
		for _, c := range drawn(r, 40, 8) {
			d.Apply(c)
		}
		l := d.All()
		for range 1 + r.Intn(4) {
			at, other := r.Intn(len(l)), l[r.Intn(len(l))]
			switch r.Intn(8) {
			case 0:
				l[at].Parent = other.ID
			case 1:
				l[at].ID = other.ID
			case 2:
				l[at].RDN = other.RDN
			case 3:
				l[at].State = r.Intn(6) - 1
			case 4:
				l[at].Renamed = !l[at].Renamed
			case 5:
				l[at].Attrs = append(other.Attrs, l[at].Attrs...)
			case 6:
				l = slices.Delete(l, at, min(at+1, max(1, len(l)-1)))
			case 7:
				r.Shuffle(len(l), func(i, j int) { l[i], l[j] = l[j], l[i] })
			}
		}
		goOn(t, fmt.Sprint("list ", i), l)
	}
}

// room tells c with room behind its lists, and what tells whether it stays as it was.
func room(c api.Change) (api.Change, func() string) {
	var lists [][]string
	r := append(slices.Clone(c.RDN), rdn("cn=room+sn=room")...)
	mods := append(slices.Clone(c.Mods), plus("cn", "room"), mod(api.MDelete, "sn", "room"))
	for i := range mods {
		l := append(slices.Clone(mods[i].Values), "room", "more")
		lists = append(lists, l)
		mods[i].Values = l[:len(l)-2]
	}
	c.RDN, c.Mods = r[:len(c.RDN)], mods[:len(c.Mods)]
	return c, func() string { return fmt.Sprint(c, r, mods, lists) }
}

// scribbleChange writes to all lists of c, and behind them.
func scribbleChange(c api.Change) {
	for _, m := range c.Mods[:cap(c.Mods)] {
		scribbleTexts(m.Values)
	}
	for i := range c.Mods[:cap(c.Mods)] {
		c.Mods[:cap(c.Mods)][i] = mod(-7, "o", "scribbled")
	}
	scribbleRDN(c.RDN)
}

func scribbleTexts(l []string) {
	for i := range l[:cap(l)] {
		l[:cap(l)][i] = "scribbled"
	}
}

func scribbleRDN(r api.RDN) {
	for i := range r[:cap(r)] {
		r[:cap(r)][i] = api.AVA{Attr: "o", Value: "scribbled"}
	}
}

func scribbleEntry(e api.Entry) {
	scribbleRDN(e.RDN)
	for _, a := range e.Attrs[:cap(e.Attrs)] {
		scribbleTexts(a.Values)
	}
	for i := range e.Attrs[:cap(e.Attrs)] {
		e.Attrs[:cap(e.Attrs)][i] = api.Attr{Name: "o", Values: []string{"scribbled"}}
	}
}

func scribbleIDs(l []api.CSN) {
	for i := range l[:cap(l)] {
		l[:cap(l)][i] = id(77)
	}
}

// grown are changes of all Kinds, by which there are entries of all States, renamed ones too.
func grown() []api.Change {
	return []api.Change{
		modify(0, plus("cn", "r", "s"), plus("sn", "t")), add(1, 0, "cn=a+sn=b", plus("mail", "m", "n")), add(2, 0, "cn=a+sn=b", plus("title", "x")), add(3, 1, "cn=c"), add(4, 3, "cn=d"),
		add(5, 0, "ou=e"), del(5), del(3), modify(1, plus("mail", "o"), mod(api.MDelete, "mail", "m")), add(6, 5, "cn=f"), moveOff(4, 0, "cn=h+ou=x"), move(6, 2, "cn=g"), add(7, 5, "cn=i", plus("cn", "j", "k")),
	}
}

// DOC.md, 3: what is handed in stays, the room behind it too; what is answered is apart from it, from the tree and from all else.
func TestApart(t *testing.T) {
	d := tree.New()
	for i, c := range grown() {
		c, shows := room(c)
		before := shows()
		d.Apply(c)
		if shows() != before {
			t.Errorf("change %d is changed: %s, it was %s", i, shows(), before)
		}
		at := told(d.All())
		scribbleChange(c)
		if got := told(d.All()); got != at {
			t.Errorf("change %d is kept: %s, it was %s", i, got, at)
		}
	}
	want := told(after(t, grown()...).All())
	same := func(what string) {
		t.Helper()
		if got := told(d.All()); got != want {
			t.Fatalf("%s: %s\nwant\n%s", what, got, want)
		}
		sound(t, d)
	}
	same("the tree")
	l, again := d.All(), d.All()
	for i := range l {
		for _, e := range l[i+1:] {
			was := line(e)
			if scribbleEntry(l[i]); line(e) != was {
				t.Errorf("%s shares with what is ahead of it", was)
			}
		}
		scribbleEntry(l[i])
	}
	for i := range l[:cap(l)] {
		l[:cap(l)][i] = entry(7, 7, api.Live, "cn=scribbled")
	}
	if told(again) != want {
		t.Error("two All share")
	}
	same("All")
	for _, e := range again {
		x, _ := d.Get(e.ID)
		y, _ := d.Get(e.ID)
		scribbleEntry(x)
		if line(y) != line(e) {
			t.Errorf("two Get share: %s", line(y))
		}
		k, m := d.Kids(e.ID), d.Kids(e.ID)
		was := numbers(m)
		scribbleIDs(k)
		if numbers(m) != was {
			t.Errorf("two Kids share: %s", numbers(m))
		}
	}
	same("Get and Kids")
	for _, e := range []*tree.Tree{d.Copy(), tree.Load(again)} {
		for _, x := range e.All() {
			scribbleEntry(x)
		}
		for _, c := range []api.Change{modify(0, plus("cn", "new")), moveOff(1, 4, "cn=new"), del(2), add(9, 5, "cn=new"), modify(4, mod(api.MReplace, "ou", "new"))} {
			e.Apply(c)
		}
		same("Copy, Load")
	}
	for _, e := range again { // each list has room behind it
		e.RDN = append(e.RDN, rdn("cn=more")...)[:len(e.RDN)]
		for i := range e.Attrs {
			e.Attrs[i].Values = append(e.Attrs[i].Values, "more")[:len(e.Attrs[i].Values)]
		}
	}
	e := tree.Load(again)
	if told(again) != want {
		t.Error("Load changes its list")
	}
	for _, x := range again {
		scribbleEntry(x)
	}
	if got := told(e.All()); got != want {
		t.Errorf("Load keeps its list: %s", got)
	}
}

// inside tells whether p and s have bytes in common.
func inside(p, s string) bool {
	if p == "" || s == "" {
		return false
	}
	begin, at := uintptr(unsafe.Pointer(unsafe.StringData(s))), uintptr(unsafe.Pointer(unsafe.StringData(p)))
	return at < begin+uintptr(len(s)) && begin < at+uintptr(len(p))
}

func texts(l []api.Entry) []string {
	var all []string
	for _, e := range l {
		for _, a := range e.RDN {
			all = append(all, a.Attr, a.Value)
		}
		for _, a := range e.Attrs {
			all = append(append(all, a.Name), a.Values...)
		}
	}
	return all
}

// DOC.md, 3: texts aren't kept, so that nothing larger hangs on one.
func TestTexts(t *testing.T) {
	long := "cn sn abcd efgh " + strings.Repeat("x", 1<<10)
	name := api.RDN{{Attr: long[:2], Value: long[6:10]}}
	c := api.Change{CSN: id(1), Kind: api.KAdd, ID: id(1), RDN: name, Mods: []api.Mod{{Kind: api.MAdd, Attr: long[3:5], Values: []string{long[11:15]}}}}
	other := c
	other.CSN, other.ID, other.Mods = id(2), id(2), nil
	d := after(t, c, other)
	e := api.Entry{ID: id(3), State: api.Live, RDN: api.RDN{{Attr: long[:2], Value: long[11:15]}}, Attrs: []api.Attr{{Name: long[:2], Values: []string{long[11:15]}}}}
	for i, l := range [][]api.Entry{d.All(), d.Copy().All(), tree.Load([]api.Entry{e}).All()} {
		if len(l) < 2 {
			t.Errorf("%d: there is but the root", i)
		}
		for _, s := range texts(l) {
			if inside(s, long) {
				t.Errorf("%d: %q is kept", i, s)
			}
		}
	}
	l, again := d.All(), d.All()
	one, _ := d.Get(id(2))
	for _, s := range texts(l) {
		for _, p := range texts(append(again, one)) {
			if inside(p, s) {
				t.Errorf("%q is in two answers", s)
			}
		}
	}
}

// DOC.md, 6: a tree hangs on nothing but its own changes, and whoever only asks changes nothing.
func TestAsked(t *testing.T) {
	d := after(t, grown()...)
	want := told(d.All())
	for _, d := range []*tree.Tree{d, tree.New()} {
		var all sync.WaitGroup
		for i := range 8 {
			all.Add(1)
			go func() {
				defer all.Done()
				e := d.Copy()
				if !tree.Same(d, e) || len(d.All()) != len(e.All()) || !slices.Equal(d.Kids(id(0)), e.Kids(id(0))) {
					t.Error("asked by several, it is another one")
				}
				d.Get(id(int64(i)))
				e.Apply(add(int64(50+i), 0, "cn=x"))
			}()
		}
		all.Wait()
	}
	if got := told(d.All()); got != want {
		t.Errorf("%s\nwant\n%s", got, want)
	}
}

// DOC.md, 8: many entries, beside and beneath one another, take no longer than their number says.
func TestLong(t *testing.T) {
	const n = 20000
	wide, deep := tree.New(), tree.New()
	for i := int64(1); i <= n; i++ {
		wide.Apply(add(i, 0, "cn=a"))
		deep.Apply(add(i, i-1, "cn=a"))
	}
	if got := len(wide.Kids(id(0))); got != n {
		t.Fatalf("Kids: %d", got)
	}
	if e, _ := wide.Get(id(n)); line(e) != "20000 0 live 'cn=a+entryid=20000.0.0' [cn a; entryid 20000.0.0]" {
		t.Errorf("%s", line(e))
	}
	for i := int64(1); i < n; i++ {
		wide.Apply(api.Change{CSN: id(n + 1), Kind: api.KDelete, ID: id(i)})
		deep.Apply(api.Change{CSN: id(n + 1), Kind: api.KDelete, ID: id(i)})
	}
	if got := numbers(wide.Kids(id(0))); got != "20000" {
		t.Errorf("Kids: %.100s", got)
	}
	if e, _ := deep.Get(id(1)); line(e) != "1 0 glue cn=a [cn a]" {
		t.Errorf("%s", line(e))
	}
	if !tree.Same(deep, tree.Load(deep.All())) || !tree.Same(wide, wide.Copy()) {
		t.Error("what is loaded is another one")
	}
	deep.Apply(api.Change{CSN: id(n + 1), Kind: api.KDelete, ID: id(n)}) // all above it is pruned
	for _, i := range []int64{1, n / 2, n - 1, n} {
		if e, _ := deep.Get(id(i)); line(e) != fmt.Sprintf("%d %d dead cn=a []", i, i-1) {
			t.Errorf("%s", line(e))
		}
	}
	deep.Apply(api.Change{CSN: id(n + 1), Kind: api.KAdd, ID: id(n + 1), Parent: id(n), RDN: rdn("cn=a")}) // all above it is raised
	for _, i := range []int64{1, n / 2, n - 1, n} {
		if e, _ := deep.Get(id(i)); line(e) != fmt.Sprintf("%d %d glue cn=a [cn a]", i, i-1) {
			t.Errorf("%s", line(e))
		}
	}
	var ring []api.Entry
	for i := int64(1); i <= n; i++ {
		ring = append(ring, entry(i, i%n+1, api.Live, "cn=a"))
	}
	if !tree.Same(tree.Load(ring), tree.New()) {
		t.Error("a ring is no part of a tree")
	}
}

// DOC.md, Limits
func TestLimits(t *testing.T) {
	if api.MaxValue != maxValue || api.MaxValues != maxValues || api.MaxAttrs != maxAttrs || api.MaxAVAs != maxAVAs || api.MaxMods != maxMods ||
		api.MaxTime != maxTime || api.MaxSeq != maxSeq || api.MaxReps != maxReps {
		t.Error("the limits aren't the document's")
	}
}
