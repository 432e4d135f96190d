package base_test

import (
	"fmt"
	"iter"
	"math"
	"math/rand"
	"slices"
	"strconv"
	"strings"
	"sync"
	"testing"
	"unsafe"

	"prefect/api"
	"prefect/base"
	"prefect/change"
	"prefect/csn"
	"prefect/dn"
	"prefect/fold"
	"prefect/tree"
	"prefect/vector"
)

// The limits that the document names, by their numbers.
const (
	maxTime    = 1099511627776
	maxSeq     = 65535
	maxReps    = 6
	maxChanges = 200
)

func num(time int64, seq, rep int) api.CSN { return api.CSN{Time: time, Seq: seq, Rep: rep} }

// id makes the number of that Time. 0 is the root's.
func id(time int64) api.CSN { return num(time, 0, 0) }

// rdn reads a part of a name.
func rdn(s string) api.RDN {
	r, err := dn.ParseRDN(s)
	if err != api.OK {
		panic("no part of a name: " + s)
	}
	return r
}

func mod(kind int, attr string, values ...string) api.Mod {
	return api.Mod{Kind: kind, Attr: attr, Values: values}
}

// plus makes a mod that adds, set one that replaces.
func plus(attr string, values ...string) api.Mod { return mod(api.MAdd, attr, values...) }
func set(attr string, values ...string) api.Mod  { return mod(api.MReplace, attr, values...) }

func add(n, parent int64, name string, mods ...api.Mod) api.Change {
	return api.Change{CSN: id(n), Kind: api.KAdd, ID: id(n), Parent: id(parent), RDN: rdn(name), Mods: mods}
}

func del(n, of int64) api.Change {
	return api.Change{CSN: id(n), Kind: api.KDelete, ID: id(of)}
}

func modify(n, of int64, mods ...api.Mod) api.Change {
	return api.Change{CSN: id(n), Kind: api.KModify, ID: id(of), Mods: mods}
}

func move(n, of, to int64, name string) api.Change {
	return api.Change{CSN: id(n), Kind: api.KMove, ID: id(of), Parent: id(to), RDN: rdn(name)}
}

// moveOff is a move with DelOld.
func moveOff(n, of, to int64, name string) api.Change {
	return with(move(n, of, to, name), func(c *api.Change) { c.DelOld = true })
}

// root is a change of the root of that number, whatever it is: title tells which one it was.
func root(c api.CSN, title string) api.Change {
	return api.Change{CSN: c, Kind: api.KModify, Mods: []api.Mod{set("title", title)}}
}

// with tells c as do changes it.
func with(c api.Change, do func(c *api.Change)) api.Change {
	do(&c)
	return c
}

// line tells a change so that two that differ differ; no list and an empty one don't.
func line(c api.Change) string {
	var b strings.Builder
	fmt.Fprintf(&b, "%v %d %v %v %v", c.CSN, c.Kind, c.ID, c.Parent, c.DelOld)
	for _, a := range c.RDN {
		fmt.Fprintf(&b, " %q=%q", a.Attr, a.Value)
	}
	for _, m := range c.Mods {
		fmt.Fprintf(&b, "; %d %q %q", m.Kind, m.Attr, m.Values)
	}
	return b.String()
}

// lines tells changes, a line each.
func lines(l []api.Change) string {
	var texts []string
	for _, c := range l {
		texts = append(texts, line(c))
	}
	return strings.Join(texts, "\n")
}

// number tells the Time of a number without the rest, else all of it.
func number(c api.CSN) string {
	return strings.TrimSuffix(csn.Text(c), ".0.0")
}

// numbers tells the numbers of changes, blanks between.
func numbers(l []api.Change) string {
	var texts []string
	for _, c := range l {
		texts = append(texts, number(c.CSN))
	}
	return strings.Join(texts, " ")
}

// told tells entries, one a line: ID, Parent, State, RDN (in quotes where it is Renamed), and the attributes. The root without attributes is left out.
func told(l []api.Entry) string {
	var texts []string
	for _, e := range l {
		name := dn.PrintRDN(e.RDN)
		if e.Renamed {
			name = "'" + name + "'"
		}
		var l []string
		for _, a := range e.Attrs {
			l = append(l, a.Name+" "+strings.Join(a.Values, ","))
		}
		state := map[int]string{api.Live: "live", api.Glue: "glue", api.Dead: "dead"}[e.State]
		if s := fmt.Sprintf("%s %s %s %s [%s]", number(e.ID), number(e.Parent), state, name, strings.Join(l, "; ")); s != "0 0 live  []" {
			texts = append(texts, s)
		}
	}
	return strings.Join(texts, "\n")
}

// visible tells the entries of l that are visible.
func visible(l []api.Entry) []api.Entry {
	return slices.DeleteFunc(slices.Clone(l), func(e api.Entry) bool { return e.State == api.Dead })
}

// trimmed tells the lines of s that aren't empty, without blanks at their ends.
func trimmed(s string) string {
	var l []string
	for s := range strings.Lines(s) {
		if s = strings.TrimSpace(s); s != "" {
			l = append(l, s)
		}
	}
	return strings.Join(l, "\n")
}

// less is how numbers go, by its own account.
func less(a, b api.CSN) bool {
	if a.Time != b.Time {
		return a.Time < b.Time
	}
	if a.Seq != b.Seq {
		return a.Seq < b.Seq
	}
	return a.Rep < b.Rep
}

// inBounds tells whether c may be a number, by its own account.
func inBounds(c api.CSN) bool {
	return c.Time >= 0 && c.Time <= maxTime && c.Seq >= 0 && c.Seq <= maxSeq && c.Rep >= 0 && c.Rep < maxReps
}

// model is a log by its own account: the changes as they came, the base as its entries.
type model struct {
	floor   api.CSN
	base    []api.Entry
	changes []api.Change
}

// newModel tells the model of a new log.
func newModel() *model { return &model{base: tree.New().All()} }

// modelOf tells the model of what g tells.
func modelOf(g *base.Log) *model { return &model{g.Floor(), g.Base(), g.List()} }

func (m *model) copy() *model { return &model{m.floor, slices.Clone(m.base), slices.Clone(m.changes)} }

func (m *model) has(c api.CSN) bool {
	return slices.ContainsFunc(m.changes, func(x api.Change) bool { return x.CSN == c })
}

func (m *model) put(c api.Change) api.Errno {
	switch {
	case !change.Is(c):
		return api.ErrForm
	case !less(m.floor, c.CSN):
		return api.ErrPhase
	case m.has(c.CSN):
		return api.OK
	case len(m.changes) == maxChanges:
		return api.ErrFull
	}
	m.changes = append(m.changes, c)
	return api.OK
}

// list tells the changes, rising: again and again the least one above the last one.
func (m *model) list() []api.Change {
	var l []api.Change
	for range m.changes {
		at := -1
		for i, c := range m.changes {
			if (len(l) == 0 || less(l[len(l)-1].CSN, c.CSN)) && (at < 0 || less(c.CSN, m.changes[at].CSN)) {
				at = i
			}
		}
		l = append(l, m.changes[at])
	}
	return l
}

func (m *model) since(v api.Vector) []api.Change {
	if !vector.Is(v) {
		v = nil
	}
	return slices.DeleteFunc(m.list(), func(c api.Change) bool { return c.CSN.Rep < len(v) && !less(v[c.CSN.Rep], c.CSN) })
}

func (m *model) tree() *tree.Tree {
	d := tree.Load(m.base)
	for _, c := range m.list() {
		d.Apply(c)
	}
	return d
}

func (m *model) trim(floor api.CSN) int {
	if !inBounds(floor) || !less(m.floor, floor) {
		return 0
	}
	d := tree.Load(m.base)
	var left []api.Change
	for _, c := range m.list() {
		if less(floor, c.CSN) {
			left = append(left, c)
		} else {
			d.Apply(c)
		}
	}
	gone := len(m.changes) - len(left)
	m.floor, m.base, m.changes = floor, d.All(), left
	for {
		at := slices.IndexFunc(m.base, func(e api.Entry) bool { return e.State == api.Dead && !m.named(e.ID) })
		if at < 0 {
			return gone
		}
		m.base = slices.Delete(m.base, at, at+1)
	}
}

// named tells whether a change, or an entry of the base, names that ID.
func (m *model) named(c api.CSN) bool {
	return slices.ContainsFunc(m.changes, func(x api.Change) bool { return x.ID == c || x.Parent == c }) ||
		slices.ContainsFunc(m.base, func(e api.Entry) bool { return e.Parent == c })
}

// beside tells c and the numbers about it, of which some are none.
func beside(c api.CSN) []api.CSN {
	l := []api.CSN{c}
	for _, d := range []int{-1, 1} {
		l = append(l, num(c.Time+int64(d), c.Seq, c.Rep), num(c.Time, c.Seq+d, c.Rep), num(c.Time, c.Seq, c.Rep+d))
	}
	return l
}

// someNumbers tells numbers to ask of.
func (m *model) someNumbers() []api.CSN {
	l := []api.CSN{{}, id(1), id(5), num(1, 2, 3), num(maxTime, maxSeq, maxReps-1), num(-1, 0, 0), num(maxTime+1, 0, 0), num(math.MinInt64, math.MinInt, math.MinInt), num(math.MaxInt64, math.MaxInt, math.MaxInt)}
	l = append(l, beside(m.floor)...)
	for i, c := range m.changes {
		if i < 5 || i == len(m.changes)-1 {
			l = append(l, beside(c.CSN)...)
		}
	}
	return l
}

// someVectors tells vectors to ask of, and what is none.
func (m *model) someVectors() []api.Vector {
	all := vector.New(maxReps)
	for _, c := range m.changes {
		all = vector.Raise(all, c.CSN)
	}
	l := []api.Vector{nil, {}, vector.New(1), vector.New(maxReps), all, all[:3], append(slices.Clone(all), num(1, 0, 6)), {num(9, 0, 1)}, {num(-1, 0, 0)}, {num(maxTime+1, 0, 0)}}
	for i := range all {
		l = append(l, all[:i], vector.Raise(vector.New(maxReps), all[i]))
	}
	for i, c := range m.changes {
		if i < 3 {
			for _, c := range beside(c.CSN) {
				l = append(l, vector.Raise(vector.New(maxReps), c))
			}
		}
	}
	return l
}

// check asks all calls of g, but those that change it, of what its model says.
func check(t *testing.T, what string, g *base.Log, m *model) {
	t.Helper()
	if g.Floor() != m.floor {
		t.Fatalf("%s: Floor: %v, want %v", what, g.Floor(), m.floor)
	}
	if got := g.Base(); told(got) != told(m.base) || len(got) != len(m.base) || !tree.Same(tree.Load(got), tree.Load(m.base)) {
		t.Fatalf("%s: Base:\n%s\nwant\n%s", what, told(got), told(m.base))
	}
	if got, want := g.List(), m.list(); !slices.EqualFunc(got, want, change.Same) {
		t.Fatalf("%s: List:\n%s\nwant\n%s", what, lines(got), lines(want))
	}
	want := m.tree()
	if got := g.Tree(); !tree.Same(got, want) || told(got.All()) != told(want.All()) {
		t.Fatalf("%s: Tree:\n%s\nwant\n%s", what, told(got.All()), told(want.All()))
	}
	if got := fold.Upon(tree.Load(g.Base()), g.List()); !tree.Same(got, want) {
		t.Fatalf("%s: Tree isn't fold's Upon of Base and List:\n%s\nwant\n%s", what, told(want.All()), told(got.All()))
	}
	for _, c := range m.someNumbers() {
		if got := g.Has(c); got != m.has(c) {
			t.Fatalf("%s: Has %v: %v", what, c, got)
		}
	}
	for _, v := range m.someVectors() {
		if got, want := g.Since(v), m.since(v); !slices.EqualFunc(got, want, change.Same) {
			t.Fatalf("%s: Since %v:\n%s\nwant\n%s", what, v, lines(got), lines(want))
		}
	}
}

// state tells all that a call could tell of g.
func state(g *base.Log) string {
	m := modelOf(g)
	var b strings.Builder
	fmt.Fprintf(&b, "%v\n%s\n-\n%s\n-\n%s\n", g.Floor(), told(g.Base()), lines(g.List()), told(g.Tree().All()))
	for _, c := range m.someNumbers() {
		fmt.Fprint(&b, g.Has(c), " ")
	}
	for _, v := range m.someVectors() {
		fmt.Fprint(&b, numbers(g.Since(v)), "; ")
	}
	return b.String()
}

// put puts c into both, and asks that they answer the same.
func put(t *testing.T, what string, g *base.Log, m *model, c api.Change) api.Errno {
	t.Helper()
	got, want := g.Put(c), m.put(c)
	if got != want {
		t.Fatalf("%s: Put %s: %v, want %v", what, line(c), got, want)
	}
	return got
}

// trim trims both, and asks that they answer the same and, as P16.4 says, that what is visible stays.
func trim(t *testing.T, what string, g *base.Log, m *model, floor api.CSN) int {
	t.Helper()
	was := told(visible(g.Tree().All()))
	got, want := g.Trim(floor), m.trim(floor)
	if got != want {
		t.Fatalf("%s: Trim %v: %d, want %d", what, floor, got, want)
	}
	if now := told(visible(g.Tree().All())); now != was {
		t.Fatalf("P16.4: %s: Trim %v: visible is\n%s\nit was\n%s", what, floor, now, was)
	}
	return got
}

// filled makes a log by puts that must be OK, and its model.
func filled(t *testing.T, l ...api.Change) (*base.Log, *model) {
	t.Helper()
	g, m := base.New(), newModel()
	for _, c := range l {
		if err := put(t, "filled", g, m, c); err != api.OK {
			t.Fatalf("Put %s: %v", line(c), err)
		}
	}
	return g, m
}

// goOn puts and trims more, in both, and checks them.
func goOn(t *testing.T, what string, g *base.Log, m *model) {
	t.Helper()
	check(t, what, g, m)
	at := m.floor.Time
	for i, c := range []api.Change{
		add(at+20, 1, "cn=a"), add(at+21, at+20, "cn=b"), {}, del(at+22, 1), modify(at+3, 2, plus("sn", "on")), move(at+23, 2, 3, "cn=c"), add(at+2, at+1, "cn=a"), del(at, 1), moveOff(at+24, at+2, 1, "cn=a"),
		del(at+25, at+20), del(at+26, at+21), add(at+26, 0, "cn=z"), root(num(at+30, 4, 2), "on"), add(at+31, at+21, "cn=d"), add(at+10, 4, "cn=e"), del(at+11, at+10), del(at+32, 3),
	} {
		put(t, what, g, m, c)
		if i%8 == 7 {
			check(t, what+", gone on", g, m)
		}
	}
	for _, n := range []int64{1, 11, 11, 5, 21, 22, 24, 26, 31, 40} {
		trim(t, what, g, m, id(at+n))
		put(t, what, g, m, add(at+n+4, 4, "cn=a"))
		put(t, what, g, m, del(at+n+5, at+n+3))
		check(t, what+", trimmed and gone on", g, m)
	}
}

// orders goes through all orders of l.
func orders(l []api.Change) iter.Seq[[]api.Change] {
	return func(yield func([]api.Change) bool) {
		own := slices.Clone(l)
		var from func(k int) bool
		from = func(k int) bool {
			if k >= len(own) {
				return yield(slices.Clone(own))
			}
			for i := k; i < len(own); i++ {
				own[k], own[i] = own[i], own[k]
				if !from(k + 1) {
					return false
				}
				own[k], own[i] = own[i], own[k]
			}
			return true
		}
		from(0)
	}
}

// mustBe asks that all are changes.
func mustBe(t *testing.T, l []api.Change) {
	t.Helper()
	for i, c := range l {
		if !change.Is(c) {
			t.Fatalf("%d isn't a change: %s", i, line(c))
		}
	}
}

// P16.1
func TestNew(t *testing.T) {
	for i, g := range []*base.Log{base.New(), {}, base.New().Copy(), base.Load(api.CSN{}, nil, nil), base.Load(api.CSN{}, tree.New().All(), []api.Change{})} {
		if !csn.Zero(g.Floor()) || len(g.List()) != 0 || len(g.Since(nil)) != 0 || g.Has(api.CSN{}) || g.Has(id(1)) {
			t.Errorf("P16.1: %d: there is something", i)
		}
		if got := g.Base(); len(got) != 1 || got[0].State != api.Live || !csn.Zero(got[0].ID) || len(got[0].Attrs) != 0 || len(got[0].RDN) != 0 {
			t.Errorf("P16.1: %d: Base: %v", i, got)
		}
		if !tree.Same(g.Tree(), tree.New()) {
			t.Errorf("P16.1: %d: Tree: %s", i, told(g.Tree().All()))
		}
		if n := g.Trim(api.CSN{}); n != 0 {
			t.Errorf("P16.2: %d: Trim: %d", i, n)
		}
		goOn(t, fmt.Sprint("new ", i), g, newModel())
	}
}

// P16.1: changes of each Kind, in whatever order.
func TestPut(t *testing.T) {
	l := []api.Change{add(1, 0, "cn=a"), add(2, 1, "cn=b", plus("sn", "x")), modify(3, 2, plus("sn", "y")), moveOff(4, 2, 0, "cn=c"), del(5, 1)}
	mustBe(t, l)
	for l := range orders(l) {
		g, m := base.New(), newModel()
		for i, c := range l {
			if err := put(t, "P16.1", g, m, c); err != api.OK {
				t.Fatalf("P16.1: Put %s: %v", line(c), err)
			}
			check(t, fmt.Sprint("P16.1: ", numbers(l[:i+1])), g, m)
		}
		if got := numbers(g.List()); got != "1 2 3 4 5" {
			t.Fatalf("P16.1: put as %s: List: %s", numbers(l), got)
		}
		if got := told(g.Tree().All()); got != "1 0 dead cn=a []\n2 0 live cn=c [cn c; sn x,y]" {
			t.Fatalf("P16.1: put as %s: Tree:\n%s", numbers(l), got)
		}
		if got := g.Base(); len(got) != 1 || g.Floor() != (api.CSN{}) {
			t.Fatalf("P16.1: put as %s: Base:\n%s", numbers(l), told(got))
		}
	}
}

// P16.1: numbers that differ in Time, in Seq, in Rep alone.
func TestNumbers(t *testing.T) {
	rising := []api.CSN{
		num(0, 0, 1), num(0, 0, maxReps-1), num(0, 1, 0), num(0, maxSeq, maxReps-1), num(1, 0, 0), num(1, 0, 1), num(1, 0, 2), num(1, 1, 0), num(1, 2, 0), num(1, 10, 0), num(2, 0, 0), num(9, 0, 0), num(10, 0, 0),
		num(1<<32, 0, 0), num(1<<32+1, 0, 0), num(maxTime-1, maxSeq, maxReps-1), num(maxTime, 0, 0), num(maxTime, maxSeq, 0), num(maxTime, maxSeq, maxReps-1),
	}
	var l []api.Change
	for i, c := range rising {
		l = append(l, root(c, strconv.Itoa(i)))
	}
	mustBe(t, l)
	r := rand.New(rand.NewSource(16))
	for range 20 {
		mixed := slices.Clone(l)
		r.Shuffle(len(mixed), func(i, j int) { mixed[i], mixed[j] = mixed[j], mixed[i] })
		g, m := filled(t, mixed...)
		check(t, "P16.1: numbers", g, m)
		for _, c := range rising {
			if !g.Has(c) {
				t.Errorf("P16.1: Has %v: false", c)
			}
		}
		for i, c := range rising {
			if n := trim(t, "P16.2: numbers", g, m, c); n != 1 || g.Has(c) || len(g.List()) != len(l)-1-i {
				t.Fatalf("P16.2: Trim %v: %d", c, n)
			}
			check(t, "P16.2: numbers", g, m)
		}
	}
}

// noChanges are made of each Kind: what isn't change's Is, of that number.
func noChanges(n int64) []api.Change {
	a, d, m, v := add(n, 0, "cn=z"), del(n, 1), modify(n, 1, set("sn", "z")), moveOff(n, 1, 0, "cn=z")
	long := strings.Repeat("z", 61)
	return []api.Change{
		{}, {CSN: id(n)}, with(a, func(c *api.Change) { c.Kind = 0 }), with(a, func(c *api.Change) { c.Kind = 5 }), with(a, func(c *api.Change) { c.Kind = -1 }), with(a, func(c *api.Change) { c.Kind = math.MaxInt }),
		with(a, func(c *api.Change) { c.ID = id(n - 1) }), with(a, func(c *api.Change) { c.ID = id(0) }), with(a, func(c *api.Change) { c.Parent = c.CSN }), with(a, func(c *api.Change) { c.Parent = id(n + 1) }),
		with(a, func(c *api.Change) { c.Parent = id(-1) }), with(a, func(c *api.Change) { c.RDN = nil }), with(a, func(c *api.Change) { c.RDN = rdn("cn=a+sn=b+ou=c+o=d") }),
		with(a, func(c *api.Change) { c.RDN = rdn("cn=a+entryid=1.0.0") }), with(a, func(c *api.Change) { c.RDN = rdn("nosuch=a") }), with(a, func(c *api.Change) { c.RDN = slices.Repeat(rdn("cn=a"), 1000) }),
		with(a, func(c *api.Change) { c.DelOld = true }), with(a, func(c *api.Change) { c.Mods = []api.Mod{set("sn", "a")} }), with(a, func(c *api.Change) { c.Mods = []api.Mod{plus("sn")} }),
		with(a, func(c *api.Change) { c.Mods = []api.Mod{plus("sn", long)} }), with(a, func(c *api.Change) { c.Mods = slices.Repeat([]api.Mod{plus("sn", "a")}, 9) }),
		with(a, func(c *api.Change) { c.CSN.Rep, c.ID.Rep = maxReps, maxReps }), with(a, func(c *api.Change) { c.CSN.Seq, c.ID.Seq = maxSeq+1, maxSeq+1 }), with(a, func(c *api.Change) { c.CSN.Rep, c.ID.Rep = -1, -1 }),
		with(d, func(c *api.Change) { c.ID = id(0) }), with(d, func(c *api.Change) { c.ID = id(n) }), with(d, func(c *api.Change) { c.ID = id(n + 1) }), with(d, func(c *api.Change) { c.RDN = rdn("cn=a") }),
		with(d, func(c *api.Change) { c.Parent = id(1) }), with(d, func(c *api.Change) { c.DelOld = true }), with(d, func(c *api.Change) { c.Mods = []api.Mod{set("sn", "z")} }), with(d, func(c *api.Change) { c.CSN = num(maxTime+1, 0, 0) }),
		with(m, func(c *api.Change) { c.ID = id(n) }), with(m, func(c *api.Change) { c.Mods = nil }), with(m, func(c *api.Change) { c.Mods = []api.Mod{set("entryid", "z")} }), with(m, func(c *api.Change) { c.Mods = []api.Mod{set("nosuch", "z")} }),
		with(m, func(c *api.Change) { c.Mods = []api.Mod{mod(4, "sn", "z")} }), with(m, func(c *api.Change) { c.Mods = []api.Mod{set("uidnumber", "07")} }), with(m, func(c *api.Change) { c.CSN = num(-1, 0, 0) }),
		with(m, func(c *api.Change) { c.Mods = []api.Mod{set("sn", slices.Repeat([]string{"z"}, 13)...)} }), with(m, func(c *api.Change) { c.RDN = rdn("cn=z") }), with(m, func(c *api.Change) { c.Parent = id(1) }),
		with(v, func(c *api.Change) { c.ID = id(0) }), with(v, func(c *api.Change) { c.ID = id(n) }), with(v, func(c *api.Change) { c.Parent = id(n) }), with(v, func(c *api.Change) { c.RDN = nil }),
		with(v, func(c *api.Change) { c.RDN = rdn("entryid=1.0.0") }), with(v, func(c *api.Change) { c.Mods = []api.Mod{set("sn", "z")} }), with(v, func(c *api.Change) { c.CSN = api.CSN{} }),
	}
}

// refuse asks that g answers c by that error, and is as it was.
func refuse(t *testing.T, what string, g *base.Log, c api.Change, want api.Errno) {
	t.Helper()
	was := state(g)
	if err := g.Put(c); err != want {
		t.Fatalf("P16.1: %s: Put %s: %v, want %v", what, line(c), err, want)
	}
	if now := state(g); now != was {
		t.Fatalf("P16.1: %s: Put %s turns\n%s\ninto\n%s", what, line(c), was, now)
	}
}

// P16.1: what is no change is ErrForm, whatever else is so of it, and turns nothing.
func TestForm(t *testing.T) {
	full, _ := filled(t, many()...)
	fullTrimmed, _ := filled(t, many()...)
	fullTrimmed.Trim(id(50))
	for i := range 50 {
		fullTrimmed.Put(root(num(500, i, 1), "more"))
	}
	held, _ := filled(t, add(1, 0, "cn=a"), add(2, 1, "cn=b"), modify(5, 1, plus("sn", "x")), del(7, 2))
	trimmed := held.Copy()
	trimmed.Trim(id(5))
	kinds := map[int]int{}
	for name, g := range map[string]*base.Log{"new": base.New(), "one that has some": held, "trimmed": trimmed, "full": full, "full and trimmed": fullTrimmed} {
		for _, n := range []int64{1, 4, 5, 6, 7, 60, 900} { // below the floor, at it, above it; there, and not
			for i, c := range noChanges(n) {
				if change.Is(c) {
					t.Fatalf("no change %d of %d is one: %s", i, n, line(c))
				}
				kinds[c.Kind]++
				if len(g.List()) < 100 || n != 4 && i%5 == 0 { // where there are many, all that state asks for takes long
					refuse(t, name, g, c, api.ErrForm)
				} else if err := g.Put(c); err != api.ErrForm {
					t.Fatalf("P16.1: %s: Put %s: %v", name, line(c), err)
				}
			}
		}
	}
	for _, k := range []int{api.KAdd, api.KDelete, api.KModify, api.KMove, 0, 5, -1} {
		if kinds[k] == 0 {
			t.Errorf("none of kind %d", k)
		}
	}
	if got := numbers(held.List()); got != "1 2 5 7" {
		t.Errorf("P16.1: List: %s", got)
	}
}

// P16.1: about the floor.
func TestFloor(t *testing.T) {
	floor := num(5, 5, 3)
	l := []api.Change{root(num(4, 0, 0), "a"), root(num(5, 5, 2), "b"), root(floor, "c"), root(num(7, 0, 0), "d")}
	g, m := filled(t, l...)
	between, n := filled(t, l[0], l[3])
	if got := trim(t, "P16.2: at one", g, m, floor); got != 3 {
		t.Fatalf("P16.2: Trim: %d", got)
	}
	if got := trim(t, "P16.2: between two", between, n, floor); got != 1 {
		t.Fatalf("P16.2: Trim: %d", got)
	}
	for _, c := range []api.CSN{
		floor, num(5, 5, 2), num(5, 5, 0), num(5, 4, 3), num(5, 4, 5), num(5, 0, 3), num(4, 5, 3), num(4, maxSeq, maxReps-1), num(4, 0, 0), num(0, 0, 1), num(5, 0, 0), num(1, 0, 0),
	} {
		for _, kind := range []api.Change{root(c, "late"), {CSN: c, Kind: api.KAdd, ID: c, RDN: rdn("cn=a")}, {CSN: c, Kind: api.KDelete, ID: num(0, 0, 1)}, {CSN: c, Kind: api.KMove, ID: num(0, 0, 1), RDN: rdn("cn=a")}} {
			if change.Is(kind) { // but of the number that is named
				refuse(t, "not above the floor", g, kind, api.ErrPhase)
				refuse(t, "not above the floor", between, kind, api.ErrPhase)
			}
		}
	}
	for _, c := range l[:3] { // those that were there, too
		refuse(t, "it was there", g, c, api.ErrPhase)
	}
	for _, c := range []api.CSN{num(6, 5, 3), num(5, 6, 3), num(5, 5, 4), num(5, 5, maxReps-1), num(5, 6, 0), num(6, 0, 0), num(maxTime, maxSeq, maxReps-1), num(5, maxSeq, maxReps-1)} {
		for _, g := range []*base.Log{g, between} {
			if err := g.Copy().Put(root(c, "new")); err != api.OK {
				t.Errorf("P16.1: Put %v above the floor %v: %v", c, floor, err)
			}
			if err := g.Put(root(c, "new")); err != api.OK || !g.Has(c) {
				t.Errorf("P16.1: Put %v above the floor %v: %v", c, floor, err)
			}
		}
		m.put(root(c, "new"))
		n.put(root(c, "new"))
	}
	check(t, "P16.1: about the floor", g, m)
	check(t, "P16.1: about the floor", between, n)
	if err := base.New().Put(root(num(0, 0, 1), "first")); err != api.OK {
		t.Errorf("P16.1: the least number there is: %v", err)
	}
}

// P16.1: of one number what is there stays.
func TestThere(t *testing.T) {
	a := add(1, 0, "cn=a")
	for i, l := range [][]api.Change{
		{add(5, 0, "cn=a"), add(5, 0, "cn=b")},
		{add(5, 0, "cn=a"), add(5, 1, "cn=a")},
		{add(5, 0, "cn=a", plus("sn", "x")), add(5, 0, "cn=a", plus("sn", "X"))},
		{modify(5, 1, set("sn", "x")), modify(5, 1, plus("sn", "x"))},
		{modify(5, 1, set("sn", "x", "y")), modify(5, 1, set("sn", "y", "x"))},
		{move(5, 1, 0, "cn=b"), moveOff(5, 1, 0, "cn=b")},
		{move(5, 1, 0, "cn=b"), del(5, 1), modify(5, 1, set("sn", "x")), add(5, 1, "cn=c")},
	} {
		mustBe(t, l)
		for l := range orders(l) {
			for _, others := range [][]api.Change{nil, {a}, {a, del(9, 5)}, {add(3, 0, "cn=c"), add(7, 3, "cn=d")}} {
				g, m := filled(t, others...)
				put(t, "first", g, m, l[0])
				for _, c := range append(slices.Clone(l[1:]), l...) {
					refuse(t, fmt.Sprint("row ", i), g, c, api.OK)
				}
				check(t, fmt.Sprint("P16.1: row ", i), g, m)
				if at := slices.IndexFunc(g.List(), func(c api.Change) bool { return c.CSN == id(5) }); at < 0 || line(g.List()[at]) != line(l[0]) {
					t.Fatalf("P16.1: row %d: List:\n%s\nwant\n%s", i, lines(g.List()), line(l[0]))
				}
			}
		}
	}
}

// many are as many changes as a log takes, of all Kinds, the last of number 200.
func many() []api.Change {
	var l []api.Change
	for n := int64(1); n <= maxChanges; n++ {
		switch n % 5 {
		case 2:
			l = append(l, modify(n, n-1, plus("sn", strconv.FormatInt(n, 10))))
		case 3:
			l = append(l, moveOff(n, n-2, max(0, n-7), "cn=b"))
		case 4:
			l = append(l, del(n, max(1, n-8)))
		default:
			l = append(l, add(n, max(0, n-6), "cn=a"))
		}
	}
	return l
}

// P16.1: as many as there may be, and one more.
func TestFull(t *testing.T) {
	mustBe(t, many())
	for i, l := range [][]api.Change{many(), func() []api.Change { l := many(); slices.Reverse(l); return l }()} {
		what := fmt.Sprint("P16.1: full ", i)
		g, m := base.New(), newModel()
		for at, c := range l {
			if err := put(t, what, g, m, c); err != api.OK || len(g.List()) != at+1 {
				t.Fatalf("%s: Put %s as the %d. one: %v", what, line(c), at+1, err)
			}
		}
		check(t, what, g, m)
		for _, c := range []api.Change{add(201, 0, "cn=c"), root(num(0, 0, 1), "r"), root(num(100, 0, 1), "r"), del(900, 1), move(300, 1, 0, "cn=c"), root(num(maxTime, maxSeq, maxReps-1), "r")} {
			refuse(t, what+", one more", g, c, api.ErrFull)
			if g.Has(c.CSN) {
				t.Errorf("%s: Has %v", what, c.CSN)
			}
		}
		for _, c := range []api.Change{l[0], l[77], l[199], root(id(100), "other"), del(200, 7)} {
			refuse(t, what+", one that is there", g, c, api.OK)
		}
		if n := trim(t, what, g, m, id(3)); n != 3 {
			t.Fatalf("%s: Trim: %d", what, n)
		}
		check(t, what+", trimmed", g, m)
		for at := range 3 {
			if err := put(t, what, g, m, root(num(100, at, 1), "more")); err != api.OK {
				t.Fatalf("%s: one more behind a Trim: %v", what, err)
			}
		}
		refuse(t, what+", one too many behind a Trim", g, root(num(100, 3, 1), "more"), api.ErrFull)
		for n := int64(1); n <= 3; n++ {
			refuse(t, what+", not above the floor", g, root(id(n), "late"), api.ErrPhase)
			refuse(t, what+", not above the floor", g, add(n, 0, "cn=late"), api.ErrPhase)
		}
		refuse(t, what+", above the floor", g, root(num(3, 0, 1), "late"), api.ErrFull)
		check(t, what+", full once more", g, m)
		if n := trim(t, what, g, m, id(300)); n != maxChanges || len(g.List()) != 0 {
			t.Fatalf("%s: Trim: %d", what, n)
		}
		check(t, what+", trimmed of all", g, m)
	}
}

// P16.1
func TestHas(t *testing.T) {
	g, m := filled(t, add(2, 0, "cn=a"), add(4, 2, "cn=b"), root(num(6, 3, 2), "r"), del(8, 4))
	ask := func(want ...api.CSN) {
		t.Helper()
		for _, c := range []api.CSN{{}, id(1), id(2), id(3), id(4), id(5), num(6, 3, 2), num(6, 3, 1), num(6, 3, 3), num(6, 2, 2), num(6, 4, 2), num(5, 3, 2), num(7, 3, 2), id(6), id(8), id(9), num(-6, 3, 2), num(maxTime+1, 0, 0)} {
			if got := g.Has(c); got != slices.Contains(want, c) {
				t.Errorf("P16.1: Has %v: %v", c, got)
			}
		}
		check(t, "P16.1: Has", g, m)
	}
	ask(id(2), id(4), num(6, 3, 2), id(8))
	g.Put(api.Change{CSN: id(3), Kind: 9})
	ask(id(2), id(4), num(6, 3, 2), id(8))
	trim(t, "Has", g, m, id(4))
	ask(num(6, 3, 2), id(8))
	g.Put(root(id(3), "late"))
	ask(num(6, 3, 2), id(8))
	trim(t, "Has", g, m, id(7))
	ask(id(8))
	trim(t, "Has", g, m, id(99))
	ask()
}

// P16.1
func TestSince(t *testing.T) {
	rep := func(n int64, seq, rep int) api.Change { return root(num(n, seq, rep), "r") }
	g, m := filled(t, rep(7, 0, 1), rep(3, 2, 0), rep(5, 0, 2), rep(4, 0, 1), rep(3, 1, 0), rep(6, 0, 0), rep(9, 9, 5))
	const all = "3.1.0 3.2.0 4.0.1 5.0.2 6 7.0.1 9.9.5"
	for _, r := range []struct {
		v    api.Vector
		want string
	}{
		{nil, all}, {api.Vector{}, all}, {vector.New(1), all}, {vector.New(3), all}, {vector.New(maxReps), all},
		{api.Vector{num(6, 0, 0), num(7, 0, 1), num(5, 0, 2), num(0, 0, 3), num(0, 0, 4), num(9, 9, 5)}, ""},
		{api.Vector{num(maxTime, maxSeq, 0), num(maxTime, maxSeq, 1), num(maxTime, maxSeq, 2), num(maxTime, maxSeq, 3), num(maxTime, maxSeq, 4), num(maxTime, maxSeq, 5)}, ""},
		// no place for some
		{api.Vector{num(6, 0, 0)}, "4.0.1 5.0.2 7.0.1 9.9.5"},
		{api.Vector{num(6, 0, 0), num(7, 0, 1), num(5, 0, 2)}, "9.9.5"},
		{api.Vector{num(6, 0, 0), num(7, 0, 1), num(5, 0, 2), num(0, 0, 3), num(0, 0, 4)}, "9.9.5"},
		// just below one, just at it, just above it
		{api.Vector{num(2, maxSeq, 0)}, all},
		{api.Vector{num(3, 0, 0)}, all},
		{api.Vector{num(3, 1, 0)}, "3.2.0 4.0.1 5.0.2 6 7.0.1 9.9.5"},
		{api.Vector{num(3, 2, 0)}, "4.0.1 5.0.2 6 7.0.1 9.9.5"},
		{api.Vector{num(3, 3, 0)}, "4.0.1 5.0.2 6 7.0.1 9.9.5"},
		{api.Vector{num(5, maxSeq, 0)}, "4.0.1 5.0.2 6 7.0.1 9.9.5"},
		{api.Vector{num(0, 0, 0), num(3, maxSeq, 1)}, all},
		{api.Vector{num(0, 0, 0), num(4, 0, 1)}, "3.1.0 3.2.0 5.0.2 6 7.0.1 9.9.5"},
		{api.Vector{num(0, 0, 0), num(6, maxSeq, 1)}, "3.1.0 3.2.0 5.0.2 6 7.0.1 9.9.5"},
		{api.Vector{num(0, 0, 0), num(9, 0, 1), num(4, maxSeq, 2)}, "3.1.0 3.2.0 5.0.2 6 9.9.5"},
		{api.Vector{num(0, 0, 0), num(0, 0, 1), num(0, 0, 2), num(9, 0, 3), num(9, 0, 4), num(9, 8, 5)}, all},
		{api.Vector{num(0, 0, 0), num(0, 0, 1), num(0, 0, 2), num(9, 0, 3), num(9, 0, 4), num(9, 9, 5)}, "3.1.0 3.2.0 4.0.1 5.0.2 6 7.0.1"},
		// what is no vector covers nothing
		{api.Vector{num(9, 0, 1)}, all}, {api.Vector{num(9, 0, 0), num(9, 0, 0)}, all}, {api.Vector{num(9, 0, 1), num(9, 0, 0)}, all}, {api.Vector{num(maxTime+1, 0, 0)}, all}, {api.Vector{num(9, maxSeq+1, 0)}, all},
		{api.Vector{num(-1, 0, 0)}, all}, {api.Vector{num(9, 9, 0), num(9, -1, 1)}, all}, {append(vector.New(maxReps), num(9, 0, 6)), all},
		{api.Vector{num(9, 9, 0), num(9, 9, 1), num(9, 9, 2), num(9, 9, 3), num(9, 9, 4), num(9, 9, 5), num(9, 9, 6)}, all},
	} {
		if got := numbers(g.Since(r.v)); got != r.want {
			t.Errorf("P16.1: Since %v: %s, want %s", r.v, got, r.want)
		}
	}
	check(t, "P16.1: Since", g, m)
	trim(t, "Since", g, m, num(4, 0, 1)) // what isn't there isn't told, whoever lacks it
	if got := numbers(g.Since(nil)); got != "5.0.2 6 7.0.1 9.9.5" {
		t.Errorf("P16.1: Since behind a Trim: %s", got)
	}
	if got := numbers(g.Since(api.Vector{num(3, 1, 0), num(4, 0, 1), num(5, 0, 2)})); got != "6 7.0.1 9.9.5" {
		t.Errorf("P16.1: Since behind a Trim: %s", got)
	}
	check(t, "P16.1: Since, trimmed", g, m)
}

// P16.2: where the floor comes to be among the numbers.
func TestTrim(t *testing.T) {
	l := []api.Change{add(2, 0, "cn=a", plus("sn", "x")), add(4, 2, "cn=b"), modify(6, 2, plus("sn", "y")), del(8, 4), moveOff(10, 2, 0, "cn=c")}
	const two, four, six, ten = "2 0 live cn=a [cn a; sn x]", "\n4 2 live cn=b [cn b]", "2 0 live cn=a [cn a; sn x,y]", "2 0 live cn=c [cn c; sn x,y]"
	for _, r := range []struct {
		floor      api.CSN
		n          int
		base, list string
	}{
		{num(0, 0, 1), 0, "", "2 4 6 8 10"}, {id(1), 0, "", "2 4 6 8 10"}, {num(1, maxSeq, maxReps-1), 0, "", "2 4 6 8 10"}, // below all
		{id(2), 1, two, "4 6 8 10"}, {num(2, 0, 1), 1, two, "4 6 8 10"}, {id(3), 1, two, "4 6 8 10"}, {num(3, maxSeq, maxReps-1), 1, two, "4 6 8 10"}, // at the least, above it
		{id(4), 2, two + four, "6 8 10"}, {num(4, 1, 0), 2, two + four, "6 8 10"}, {id(6), 3, six + four, "8 10"}, {id(7), 3, six + four, "8 10"},
		{id(8), 4, six, "10"}, {id(9), 4, six, "10"}, {num(9, maxSeq, maxReps-1), 4, six, "10"},
		{id(10), 5, ten, ""}, {num(10, 0, 1), 5, ten, ""}, {id(11), 5, ten, ""}, {num(maxTime, maxSeq, maxReps-1), 5, ten, ""}, // at the largest, above all
	} {
		for l := range orders(l) {
			g, m := filled(t, l...)
			all := g.Tree()
			if n := trim(t, "P16.2", g, m, r.floor); n != r.n {
				t.Fatalf("P16.2: Trim %v: %d, want %d", r.floor, n, r.n)
			}
			if got := g.Floor(); got != r.floor {
				t.Fatalf("P16.2: Trim %v: Floor: %v", r.floor, got)
			}
			if got := told(g.Base()); got != r.base {
				t.Fatalf("P16.2: Trim %v: Base:\n%s\nwant\n%s", r.floor, got, r.base)
			}
			if got := numbers(g.List()); got != r.list {
				t.Fatalf("P16.2: Trim %v: List: %s, want %s", r.floor, got, r.list)
			}
			if got := told(visible(g.Tree().All())); got != told(visible(all.All())) || got != ten {
				t.Fatalf("P16.4: Trim %v: Tree:\n%s", r.floor, got)
			}
			check(t, fmt.Sprint("P16.2: Trim ", r.floor), g, m)
		}
		g, m := filled(t, l...)
		trim(t, "P16.2", g, m, r.floor)
		if r.floor.Time < maxTime-100 {
			goOn(t, fmt.Sprint("P16.2: behind a Trim ", r.floor), g, m)
		}
		none, n := base.New(), newModel() // of no changes: the floor moves all the same
		if trim(t, "P16.2: none", none, n, r.floor) != 0 || none.Floor() != r.floor || len(none.Base()) != 1 {
			t.Errorf("P16.2: Trim %v of no changes: Floor: %v", r.floor, none.Floor())
		}
		check(t, "P16.2: no changes", none, n)
		if err := none.Put(root(r.floor, "at the floor")); err != api.ErrPhase {
			t.Errorf("P16.2: Put at the floor of no changes: %v", err)
		}
	}
}

// P16.2: what is no floor, or not above the one that is, turns nothing.
func TestTrimNothing(t *testing.T) {
	wrong := []api.CSN{
		num(-1, 0, 0), num(maxTime+1, 0, 0), num(7, -1, 0), num(7, maxSeq+1, 0), num(7, 0, -1), num(7, 0, maxReps), num(math.MinInt64, 0, 0), num(math.MaxInt64, 0, 0), num(7, math.MinInt, 0), num(7, math.MaxInt, 0),
		num(7, 0, math.MinInt), num(7, 0, math.MaxInt), num(math.MaxInt64, math.MaxInt, math.MaxInt), num(7, 1<<16, 0), num(1<<40+1, 0, 0), num(900, 0, 6), num(900, -1, 2), num(900, 65536, 2),
	}
	l := []api.Change{add(2, 0, "cn=a"), add(4, 2, "cn=b"), root(num(5, 5, 3), "r"), del(6, 4), del(8, 2), add(20, 4, "cn=c"), add(30, 0, "cn=d")}
	at := func(floor api.CSN) (*base.Log, *model) {
		g, m := filled(t, l...)
		trim(t, "floor", g, m, floor)
		return g, m
	}
	nothing := func(what string, g *base.Log, m *model, floor api.CSN) {
		t.Helper()
		was := state(g)
		if n := g.Trim(floor); n != 0 {
			t.Fatalf("P16.2: %s: Trim %v: %d", what, floor, n)
		}
		if now := state(g); now != was {
			t.Fatalf("P16.2: %s: Trim %v turns\n%s\ninto\n%s", what, floor, was, now)
		}
		check(t, fmt.Sprint("P16.2: ", what, ": Trim ", floor), g, m)
	}
	for _, floor := range []api.CSN{{}, id(1), num(5, 5, 3), id(6), id(8), id(25), id(40), num(maxTime, maxSeq, maxReps-1)} {
		g, m := at(floor)
		what := fmt.Sprint("floor ", floor)
		for _, c := range wrong {
			nothing(what, g, m, c)
		}
		for _, c := range append(beside(floor), api.CSN{}, num(0, 0, 1), id(1), id(2), num(5, 5, 2), num(5, 4, 5), num(4, 9, 5)) {
			if !less(floor, c) {
				nothing(what, g, m, c)
			}
		}
		if floor.Time < 100 {
			goOn(t, what, g, m)
		}
	}
	none := base.New()
	for _, c := range append(wrong, api.CSN{}) {
		nothing("none", none, newModel(), c)
	}
}

// step is a Trim: what is put ahead of it, and what is told behind it.
type step struct {
	puts  []api.Change
	floor int64
	n     int
	base  string
	list  string
}

// row is what is put, and then trimmed.
type row struct {
	name  string
	puts  []api.Change
	steps []step
}

// chain are four entries beneath one another, the first one beneath the root, all of them dead by 8.
func chain(more ...api.Change) []api.Change {
	return append([]api.Change{add(1, 0, "cn=a"), add(2, 1, "cn=b"), add(3, 2, "cn=c"), add(4, 3, "cn=d"), del(5, 4), del(6, 3), del(7, 2), del(8, 1)}, more...)
}

const deadChain = `
	1 0 dead cn=a []
	2 1 dead cn=b []
	3 2 dead cn=c []
	4 3 dead cn=d []`

const glueChain = `
	1 0 glue cn=a [cn a]
	2 1 glue cn=b [cn b]
	3 2 glue cn=c [cn c]
	4 3 glue cn=d [cn d]`

// rows are of entries that are dead, and of those that name them.
func rows() []row {
	const dead = "1 0 dead cn=a []"
	gone := []api.Change{add(1, 0, "cn=a", plus("sn", "x")), del(2, 1)}
	one := func(more ...api.Change) []api.Change { return append(slices.Clone(gone), more...) }
	return []row{
		{"nobody names it", gone, []step{{floor: 1, n: 1, base: "1 0 live cn=a [cn a; sn x]", list: "2"}, {floor: 2, n: 1}}},
		{"nobody names it, at once", gone, []step{{floor: 2, n: 2}}},
		{"nobody names it, between", one(add(9, 0, "cn=b"), modify(10, 9, plus("sn", "y"))), []step{{floor: 5, n: 2, list: "9 10"}}},
		{"changes of others name it not", one(add(9, 0, "cn=a"), del(10, 9), move(11, 9, 9, "cn=a")), []step{{floor: 5, n: 2, list: "9 10 11"}, {floor: 9, n: 1, base: "9 0 live cn=a [cn a]", list: "10 11"}, {floor: 10, n: 1, base: "9 0 dead cn=a []", list: "11"}, {floor: 11, n: 1}}},
		{"a KDelete names it", one(del(9, 1)), []step{{floor: 2, n: 2, base: dead, list: "9"}, {floor: 5, n: 0, base: dead, list: "9"}, {floor: 9, n: 1}}},
		{"a KModify names it", one(modify(9, 1, plus("sn", "y"))), []step{{floor: 2, n: 2, base: dead, list: "9"}, {floor: 9, n: 1}}},
		{"a KMove names it", one(move(9, 1, 0, "cn=b")), []step{{floor: 2, n: 2, base: dead, list: "9"}, {floor: 9, n: 1}}},
		{"a KMove names it twice", one(move(9, 1, 1, "cn=b")), []step{{floor: 2, n: 2, base: dead, list: "9"}, {floor: 9, n: 1}}},
		{"a KMove has it for its Parent", one(add(3, 0, "cn=b"), move(9, 3, 1, "cn=b")), []step{{floor: 3, n: 3, base: dead + "\n3 0 live cn=b [cn b]", list: "9"}, {floor: 9, n: 1, base: "1 0 glue cn=a [cn a]\n3 1 live cn=b [cn b]"}}},
		{"a KMove has it for its Parent, of one that isn't known", one(move(9, 3, 1, "cn=b")), []step{{floor: 3, n: 2, base: dead, list: "9"}, {floor: 9, n: 1}}},
		{"a KAdd has it for its Parent", one(add(9, 1, "cn=b")), []step{{floor: 2, n: 2, base: dead, list: "9"}, {floor: 9, n: 1, base: "1 0 glue cn=a [cn a]\n9 1 live cn=b [cn b]"}}},
		{"a KAdd has it for its Parent, and goes", one(add(9, 1, "cn=b"), del(10, 9)), []step{{floor: 2, n: 2, base: dead, list: "9 10"}, {floor: 9, n: 1, base: "1 0 glue cn=a [cn a]\n9 1 live cn=b [cn b]", list: "10"}, {floor: 10, n: 1}}},
		{"a KAdd had it for its Parent, and went", one(add(9, 1, "cn=b"), del(10, 9)), []step{{floor: 10, n: 4}}},
		{"several name it", one(del(9, 1), modify(10, 1, plus("sn", "y")), move(11, 1, 0, "cn=b")), []step{{floor: 2, n: 2, base: dead, list: "9 10 11"}, {floor: 9, n: 1, base: dead, list: "10 11"}, {floor: 10, n: 1, base: dead, list: "11"}, {floor: 11, n: 1}}},
		{"who named it goes with it", one(del(9, 1), modify(10, 1, plus("sn", "y"))), []step{{floor: 10, n: 4}}},
		{"named later", gone, []step{
			{floor: 2, puts: []api.Change{del(9, 1)}, n: 2, base: dead, list: "9"}, {floor: 9, puts: []api.Change{modify(12, 1, plus("sn", "y"))}, n: 1, base: dead, list: "12"},
			{floor: 12, puts: []api.Change{add(13, 1, "cn=b")}, n: 1, base: dead, list: "13"}, {floor: 13, puts: []api.Change{del(14, 13)}, n: 1, base: "1 0 glue cn=a [cn a]\n13 1 live cn=b [cn b]", list: "14"}, {floor: 14, n: 1},
		}},
		{"named too late", gone, []step{{floor: 2, n: 2}, {floor: 3, puts: []api.Change{del(9, 1), add(10, 1, "cn=b"), modify(11, 1, plus("sn", "y"))}, list: "9 10 11"}, {floor: 11, n: 3, base: "10 0 live cn=b [cn b]"}}},

		{"a row", chain(), []step{{floor: 5, n: 5, base: "1 0 live cn=a [cn a]\n2 1 live cn=b [cn b]\n3 2 live cn=c [cn c]", list: "6 7 8"}, {floor: 7, n: 2, base: "1 0 live cn=a [cn a]", list: "8"}, {floor: 8, n: 1}}},
		{"a row, at once", chain(), []step{{floor: 8, n: 8}}},
		{"a row of glue", []api.Change{add(1, 0, "cn=a"), add(2, 1, "cn=b"), add(3, 2, "cn=c"), del(5, 1), del(6, 2), del(7, 3)}, []step{{floor: 6, n: 5, base: "1 0 glue cn=a [cn a]\n2 1 glue cn=b [cn b]\n3 2 live cn=c [cn c]", list: "7"}, {floor: 7, n: 1}}},
		{"a row whose numbers fall", []api.Change{add(1, 0, "cn=a"), add(2, 0, "cn=b"), add(3, 0, "cn=c"), move(4, 1, 2, "cn=a"), move(5, 2, 3, "cn=b"), del(6, 1), del(7, 2), del(8, 3)}, []step{{floor: 5, n: 5, base: "1 2 live cn=a [cn a]\n2 3 live cn=b [cn b]\n3 0 live cn=c [cn c]", list: "6 7 8"}, {floor: 8, n: 3}}},
		{"a row whose numbers fall, its lowest named", []api.Change{add(1, 0, "cn=a"), add(2, 0, "cn=b"), add(3, 0, "cn=c"), move(4, 1, 2, "cn=a"), move(5, 2, 3, "cn=b"), del(6, 1), del(7, 2), del(8, 3), del(9, 1)}, []step{{floor: 8, n: 8, base: "1 2 dead cn=a []\n2 3 dead cn=b []\n3 0 dead cn=c []", list: "9"}, {floor: 9, n: 1}}},
		{"a row whose numbers are mixed", []api.Change{add(1, 0, "cn=a"), add(2, 0, "cn=b"), add(3, 1, "cn=c"), move(4, 1, 2, "cn=a"), del(6, 3), del(7, 1), del(8, 2), del(9, 1)}, []step{{floor: 8, n: 7, base: "1 2 dead cn=a []\n2 0 dead cn=b []", list: "9"}, {floor: 9, n: 1}}},
		{"a row, its lowest named by ID", chain(modify(9, 4, plus("sn", "y"))), []step{{floor: 8, n: 8, base: deadChain, list: "9"}, {floor: 9, n: 1}}},
		{"a row, its lowest named by Parent", chain(add(9, 4, "cn=e")), []step{{floor: 8, n: 8, base: deadChain, list: "9"}, {floor: 9, n: 1, base: glueChain + "\n9 4 live cn=e [cn e]"}}},
		{"a row, its lowest named by Parent, all dead once more", chain(add(9, 4, "cn=e"), del(10, 9)), []step{{floor: 8, n: 8, base: deadChain, list: "9 10"}, {floor: 9, n: 1, base: glueChain + "\n9 4 live cn=e [cn e]", list: "10"}, {floor: 10, n: 1}}},
		{"a row, one in it named", chain(del(9, 2)), []step{{floor: 8, n: 8, base: "1 0 dead cn=a []\n2 1 dead cn=b []", list: "9"}, {floor: 9, n: 1}}},
		{"a row, its highest named", chain(del(9, 1)), []step{{floor: 8, n: 8, base: dead, list: "9"}, {floor: 9, n: 1}}},
		{"a row, two in it named", chain(del(9, 3), add(10, 1, "cn=e")), []step{{floor: 8, n: 8, base: "1 0 dead cn=a []\n2 1 dead cn=b []\n3 2 dead cn=c []", list: "9 10"}, {floor: 9, n: 1, base: dead, list: "10"}, {floor: 10, n: 1, base: "1 0 glue cn=a [cn a]\n10 1 live cn=e [cn e]"}}},
		{"a row, raised in the middle", chain(add(9, 2, "cn=e")), []step{{floor: 8, n: 8, base: "1 0 dead cn=a []\n2 1 dead cn=b []", list: "9"}, {floor: 9, n: 1, base: "1 0 glue cn=a [cn a]\n2 1 glue cn=b [cn b]\n9 2 live cn=e [cn e]"}}},
		{"two branches, one of them named", []api.Change{add(1, 0, "cn=a"), add(2, 1, "cn=b"), add(3, 1, "cn=c"), add(4, 3, "cn=d"), del(5, 4), del(6, 3), del(7, 2), del(8, 1), del(9, 2)}, []step{{floor: 8, n: 8, base: "1 0 dead cn=a []\n2 1 dead cn=b []", list: "9"}, {floor: 9, n: 1}}},
		{"two branches, the other one named", []api.Change{add(1, 0, "cn=a"), add(2, 1, "cn=b"), add(3, 1, "cn=c"), add(4, 3, "cn=d"), del(5, 4), del(6, 3), del(7, 2), del(8, 1), move(9, 3, 0, "cn=b")}, []step{{floor: 8, n: 8, base: "1 0 dead cn=a []\n3 1 dead cn=c []", list: "9"}, {floor: 9, n: 1}}},
		{"two branches", []api.Change{add(1, 0, "cn=a"), add(2, 1, "cn=b"), add(3, 1, "cn=c"), add(4, 3, "cn=d"), del(5, 4), del(6, 3), del(7, 2), del(8, 1)}, []step{{floor: 8, n: 8}}},
		{"beneath a live one", []api.Change{add(1, 0, "cn=a"), add(2, 1, "cn=b"), add(3, 1, "cn=c"), del(4, 2)}, []step{{floor: 4, n: 4, base: "1 0 live cn=a [cn a]\n3 1 live cn=c [cn c]"}}},
		{"beneath glue", []api.Change{add(1, 0, "cn=a"), add(2, 1, "cn=b"), add(3, 1, "cn=c"), del(4, 1), del(5, 2)}, []step{{floor: 5, n: 5, base: "1 0 glue cn=a [cn a]\n3 1 live cn=c [cn c]"}}},
		{"its kid was moved away", []api.Change{add(1, 0, "cn=a"), add(2, 1, "cn=b"), move(3, 2, 0, "cn=b"), del(4, 1)}, []step{{floor: 4, n: 4, base: "2 0 live cn=b [cn b]"}}},
		{"what is visible stays, named or not", []api.Change{root(id(1), "r"), add(2, 0, "cn=a"), add(3, 2, "cn=b"), del(4, 2), add(5, 0, "ou=c"), del(9, 5)}, []step{{floor: 5, n: 5, base: "0 0 live  [title r]\n2 0 glue cn=a [cn a]\n3 2 live cn=b [cn b]\n5 0 live ou=c [ou c]", list: "9"}}},
		{"two of one name", []api.Change{add(1, 0, "cn=a"), add(2, 0, "cn=A"), del(3, 2), del(9, 2)}, []step{{floor: 3, n: 3, base: "1 0 live cn=a [cn a]\n2 0 dead 'cn=A+entryid=2.0.0' []", list: "9"}, {floor: 9, n: 1, base: "1 0 live cn=a [cn a]"}}},
		{"a name that is free", []api.Change{add(1, 0, "cn=a"), add(2, 0, "cn=A"), del(3, 1), add(9, 0, "cn=a")}, []step{{floor: 3, n: 3, base: "2 0 live 'cn=A+entryid=2.0.0' [cn A; entryid 2.0.0]", list: "9"}, {floor: 9, n: 1, base: "2 0 live 'cn=A+entryid=2.0.0' [cn A; entryid 2.0.0]\n9 0 live cn=a [cn a]"}}},
		{"what never was known", []api.Change{del(5, 1), modify(6, 1, plus("sn", "y")), move(7, 1, 2, "cn=b"), add(8, 3, "cn=a")}, []step{{floor: 4, list: "5 6 7 8"}, {floor: 7, n: 3, list: "8"}, {floor: 8, n: 1, base: "8 0 live cn=a [cn a]"}}},
		{"a second Trim above the first one", []api.Change{add(1, 0, "cn=a"), add(3, 1, "cn=b"), add(5, 3, "cn=c")}, []step{{floor: 1, n: 1, base: "1 0 live cn=a [cn a]", list: "3 5"}, {floor: 4, n: 1, base: "1 0 live cn=a [cn a]\n3 1 live cn=b [cn b]", list: "5"}, {floor: 4, base: "1 0 live cn=a [cn a]\n3 1 live cn=b [cn b]", list: "5"}, {floor: 5, n: 1, base: "1 0 live cn=a [cn a]\n3 1 live cn=b [cn b]\n5 3 live cn=c [cn c]"}}},
		{"puts behind a Trim", []api.Change{add(1, 0, "cn=a")}, []step{
			{floor: 1, n: 1, base: "1 0 live cn=a [cn a]"}, {floor: 3, puts: []api.Change{add(5, 1, "cn=b"), add(3, 1, "cn=B")}, n: 1, base: "1 0 live cn=a [cn a]\n3 1 live cn=B [cn B]", list: "5"},
			{floor: 5, puts: []api.Change{add(4, 3, "cn=c")}, n: 2, base: "1 0 live cn=a [cn a]\n3 1 live cn=B [cn B]\n4 3 live cn=c [cn c]\n5 1 live 'cn=b+entryid=5.0.0' [cn b; entryid 5.0.0]"},
		}},
	}
}

// P16.2, P16.3, P16.4: which of the dead ones go, and when.
func TestRows(t *testing.T) {
	for _, r := range rows() {
		mustBe(t, r.puts)
		falling := slices.Clone(r.puts)
		slices.Reverse(falling)
		for at, l := range [][]api.Change{r.puts, falling} {
			g, m := filled(t, l...)
			for i, s := range r.steps {
				what := fmt.Sprintf("P16.2: %s: %d", r.name, i)
				for _, c := range s.puts {
					if err := put(t, what, g, m, c); err != api.OK {
						t.Fatalf("%s: Put %s: %v", what, line(c), err)
					}
				}
				if n := trim(t, what, g, m, id(s.floor)); n != s.n {
					t.Fatalf("%s: Trim: %d, want %d", what, n, s.n)
				}
				if got := told(g.Base()); got != trimmed(s.base) {
					t.Fatalf("%s: Base:\n%s\nwant\n%s", what, got, trimmed(s.base))
				}
				if got := numbers(g.List()); got != s.list || g.Floor() != id(s.floor) {
					t.Fatalf("%s: List: %s, want %s; Floor: %v", what, got, s.list, g.Floor())
				}
				check(t, what, g, m)
				if at == 0 {
					goOn(t, what+", copied", g.Copy(), m.copy())
				} else {
					goOn(t, what+", loaded", base.Load(g.Floor(), g.Base(), g.List()), m.copy())
				}
			}
		}
	}
}

// P16.2: a change names what it names just above the floor, whichever part of its number is above; at the floor it is gone.
func TestNamedAtTheFloor(t *testing.T) {
	for i, c := range beside(num(5, 5, 3)) {
		for _, by := range []api.Change{{CSN: c, Kind: api.KDelete, ID: id(1)}, {CSN: c, Kind: api.KModify, ID: id(1), Mods: []api.Mod{set("sn", "x")}}, {CSN: c, Kind: api.KMove, ID: id(1), RDN: rdn("cn=b")}} {
			g, m := filled(t, add(1, 0, "cn=a"), del(2, 1), by)
			trim(t, "P16.2", g, m, num(5, 5, 3))
			want, there := "", less(num(5, 5, 3), c)
			if there {
				want = "1 0 dead cn=a []"
			}
			if got := told(g.Base()); got != want || g.Has(c) != there {
				t.Errorf("P16.2: %d: %s: Base: %s, want %s", i, line(by), got, want)
			}
			check(t, "P16.2: named", g, m)
		}
	}
}

// P16.2: what is no longer known is as what never was.
func TestForgotten(t *testing.T) {
	g, m := filled(t, chain()...)
	if n := trim(t, "P16.2", g, m, id(8)); n != 8 || len(g.Base()) != 1 {
		t.Fatalf("P16.2: Trim: %d: %s", n, told(g.Base()))
	}
	for _, c := range []api.Change{add(10, 4, "cn=x"), del(11, 1), modify(12, 2, plus("sn", "y")), move(13, 3, 10, "cn=y"), moveOff(14, 10, 1, "cn=z"), add(15, 2, "cn=z")} {
		put(t, "P16.2", g, m, c)
		check(t, "P16.2: forgotten", g, m)
	}
	if got := told(g.Tree().All()); got != "10 0 live cn=z [cn z]\n15 0 live 'cn=z+entryid=15.0.0' [cn z; entryid 15.0.0]" {
		t.Errorf("P16.2: Tree:\n%s", got)
	}
}

// P16.2, the example: Trim of all: no changes, the same tree.
func TestTrimOfAll(t *testing.T) {
	g, m := filled(t, grown()...)
	was := told(visible(g.Tree().All()))
	l := g.List()
	if n := trim(t, "P16.2", g, m, l[len(l)-1].CSN); n != len(l) || len(g.List()) != 0 {
		t.Errorf("P16.2: Trim: %d of %d", n, len(l))
	}
	if got := told(g.Base()); got != was || told(g.Tree().All()) != was {
		t.Errorf("P16.2: Base:\n%s\nwant\n%s", got, was)
	}
	check(t, "P16.2", g, m)
}

// P16.1: a copy goes its own way, and so does what it was made of.
func TestCopy(t *testing.T) {
	grow := func(floor int64) (*base.Log, *model) {
		g, m := filled(t, grown()...)
		trim(t, "copied", g, m, id(floor))
		return g, m
	}
	for _, floor := range []int64{0, 4, 9, 12, 99} {
		what := fmt.Sprint("P16.1: copied at ", floor)
		g, m := grow(floor)
		d := g.Copy()
		if d == g {
			t.Fatalf("%s: it is the same one", what)
		}
		was := state(g)
		if state(d) != was {
			t.Fatalf("%s:\n%s\nwant\n%s", what, state(d), was)
		}
		check(t, what, d, m)
		goOn(t, what, d, m.copy())
		if state(g) != was {
			t.Fatalf("%s: what is done with the copy is done with the other one:\n%s\nit was\n%s", what, state(g), was)
		}
		e := g.Copy()
		goOn(t, what, g, m.copy())
		if state(e) != was {
			t.Fatalf("%s: what is done with one is done with its copy:\n%s\nit was\n%s", what, state(e), was)
		}
		goOn(t, what, e, m.copy())
	}
	for n := range 20 { // whatever room there is behind the list
		l := grown()
		slices.Reverse(l)
		g, _ := filled(t, l[:min(n, len(l))]...)
		g.Put(root(num(40, 0, 5), "last"))
		d, was := g.Copy(), state(g)
		d.Put(root(num(0, 0, 1), "first"))
		if state(g) != was || !d.Has(num(0, 0, 1)) {
			t.Errorf("P16.1: what is put into the copy of %d is put into the other one", n)
		}
		was = state(d)
		g.Put(root(num(0, 0, 2), "other"))
		g.Trim(id(8))
		if state(d) != was {
			t.Errorf("P16.1: what is put into one of %d is put into its copy", n)
		}
	}
	full, m := filled(t, many()...)
	check(t, "P16.1: a full one, copied", full.Copy(), m)
	refuse(t, "a full one, copied", full.Copy(), root(num(100, 0, 1), "r"), api.ErrFull)
}

// P16.3
func TestLoad(t *testing.T) {
	load := func(g *base.Log) *base.Log { return base.Load(g.Floor(), g.Base(), g.List()) }
	for _, floor := range []api.CSN{{}, num(0, 0, 1), id(1), id(4), num(4, 0, 1), id(9), num(9, 7, 3), id(17), id(18), id(99), num(maxTime, maxSeq, maxReps-1)} {
		what := fmt.Sprint("P16.3: floor ", floor)
		g, m := filled(t, grown()...)
		trim(t, what, g, m, floor)
		was := state(g)
		h := load(g)
		if state(h) != was {
			t.Fatalf("%s:\n%s\nwant\n%s", what, state(h), was)
		}
		check(t, what, h, m)
		check(t, what+", twice", load(load(h)), m)
		if floor.Time < 1000 {
			goOn(t, what, h, m.copy())
			h = load(h)
			goOn(t, what+", on", h, modelOf(h))
		}
		if state(g) != was {
			t.Fatalf("%s: what is done with the one loaded is done with the other one", what)
		}
	}
	for i := range 5 { // full ones
		g, m := filled(t, many()...)
		trim(t, "full", g, m, id(int64(i*40)))
		for n := range i * 40 {
			put(t, "full", g, m, root(num(170, n, 3), "more"))
		}
		h := load(g)
		check(t, "P16.3: a full one", h, m)
		refuse(t, "a full one, loaded", h, root(num(171, 0, 1), "r"), api.ErrFull)
		if n := trim(t, "P16.3: a full one", h, m, id(190)); n == 0 {
			t.Error("P16.3: nothing is trimmed")
		}
		check(t, "P16.3: a full one, trimmed", h, m)
	}
	none := base.New()
	none.Trim(num(7, 7, 2))
	if h := load(none); h.Floor() != num(7, 7, 2) || h.Put(root(num(7, 7, 2), "r")) != api.ErrPhase || h.Put(root(num(7, 7, 3), "r")) != api.OK {
		t.Error("P16.3: of no changes")
	}
}

// entry makes an entry without attributes.
func entry(n, parent int64, state int, name string) api.Entry {
	return api.Entry{ID: id(n), Parent: id(parent), State: state, RDN: rdn(name)}
}

// noBases are lists of entries that no Base told.
func noBases() [][]api.Entry {
	root := api.Entry{State: api.Live}
	a, b, c := entry(1, 0, api.Live, "cn=a"), entry(2, 1, api.Live, "cn=b"), entry(3, 2, api.Dead, "cn=c")
	with := func(e api.Entry, do func(e *api.Entry)) api.Entry {
		do(&e)
		return e
	}
	rows := [][]api.Entry{
		nil, {}, {root, root}, {a}, {a, b}, {b, a, root}, {b}, {c, b, a}, {root, a, a}, {root, entry(1, 1, api.Live, "cn=a")}, {root, entry(1, 1, api.Dead, "cn=a")}, {root, c},
		{root, entry(1, 2, api.Live, "cn=a"), entry(2, 1, api.Live, "cn=b")}, {root, entry(1, 2, api.Dead, "cn=a"), entry(2, 1, api.Dead, "cn=b")}, {root, entry(1, 3, api.Dead, "cn=a"), entry(2, 1, api.Dead, "cn=b"), entry(3, 2, api.Dead, "cn=b")},
		{root, a, entry(1, 1, api.Dead, "cn=a")}, {root, a, b, entry(1, 2, api.Dead, "cn=a")}, {root, entry(1, 9, api.Dead, "cn=a")}, {root, a, entry(2, 0, api.Live, "cn=A")}, {root, a, entry(2, 0, api.Dead, "cn=A"), entry(3, 0, api.Dead, "cn=a")},
		{root, entry(1, 0, api.Dead, "cn=a"), b}, {root, entry(1, 0, api.Dead, "cn=a"), entry(2, 1, api.Glue, "cn=a")}, {root, entry(1, 0, api.Glue, "cn=a")}, {root, entry(1, 0, api.Glue, "cn=a"), entry(2, 1, api.Dead, "cn=a")},
		{root, entry(1, 0, 0, "cn=a")}, {root, entry(1, 0, 4, "cn=a"), b}, {root, entry(1, 0, -1, "cn=a")}, {root, entry(1, 0, math.MaxInt, "cn=a")}, {root, entry(1, 0, api.Dead, "entryid=1.0.0")},
		{root, with(a, func(e *api.Entry) { e.RDN = nil })}, {root, with(a, func(e *api.Entry) { e.Renamed = true })}, {root, entry(1, 0, api.Dead, "cn=a+entryid=1.0.0")}, {root, entry(1, 0, api.Dead, "cn=a+sn=b+ou=c+o=d")},
		{root, with(a, func(e *api.Entry) { e.RDN = api.RDN{{Attr: "CN", Value: "a"}} })}, {root, with(a, func(e *api.Entry) { e.RDN = slices.Repeat(rdn("cn=a"), 1000) })}, {root, entry(1, 0, api.Dead, "nosuch=x")},
		{root, with(c, func(e *api.Entry) { e.ID, e.Parent = api.CSN{Rep: maxReps}, id(0) })}, {root, with(c, func(e *api.Entry) { e.ID, e.Parent = id(-1), id(0) })}, {root, with(c, func(e *api.Entry) { e.Parent = id(-1) })},
		{with(root, func(e *api.Entry) { e.State = api.Dead }), a}, {with(root, func(e *api.Entry) { e.State = api.Dead })}, {with(root, func(e *api.Entry) { e.State = api.Glue }), a}, {with(root, func(e *api.Entry) { e.Parent = id(1) }), a},
		{with(root, func(e *api.Entry) { e.State, e.Parent, e.RDN = api.Dead, id(1), rdn("cn=a") }), entry(1, 0, api.Dead, "cn=a")},
		{root, entry(99, 0, api.Live, "cn=a"), entry(98, 99, api.Dead, "cn=b"), entry(97, 98, api.Dead, "cn=b")}, {root, entry(20, 0, api.Dead, "cn=a"), entry(maxTime, 20, api.Dead, "cn=b")}, // above all floors
		{root, entry(1, 0, api.Dead, "cn=a"), entry(2, 1, api.Dead, "cn=b"), entry(3, 2, api.Dead, "cn=c")}, // dead ones that nobody names
	}
	for _, l := range [][]api.Attr{
		{{}}, {{Name: "cn"}}, {{Name: "sn", Values: []string{"b"}}, {Name: "cn", Values: []string{"a"}}}, {{Name: "cn", Values: []string{"a", "A"}}}, {{Name: "nosuch", Values: []string{"a"}}},
		{{Name: "uidnumber", Values: []string{"x", ""}}}, {{Name: "title", Values: []string{"a", "b"}}}, {{Name: "cn", Values: slices.Repeat([]string{"a"}, 100)}},
	} {
		for _, state := range []int{api.Live, api.Glue, api.Dead} {
			rows = append(rows, []api.Entry{with(root, func(e *api.Entry) { e.Attrs = l }), with(a, func(e *api.Entry) { e.Attrs, e.State = l, state }), b})
		}
	}
	return rows
}

// P16.3: of others whatever, but each call comes back, and it is a log that goes on as one.
func TestLoadOthers(t *testing.T) {
	falling, twice, more := grown(), append(grown(), grown()...), many()
	slices.Reverse(falling)
	for i := range 50 {
		more = append(more, root(num(300, i, 1), "more"))
	}
	lists := [][]api.Change{nil, {}, {{}}, falling, twice, noChanges(7), append(noChanges(7), grown()...), {root(id(5), "a"), root(id(5), "b"), del(4, 3), del(4, 2)}, {add(1, 0, "cn=x"), add(2, 1, "cn=y"), add(20, 1, "cn=z")}}
	floors := []api.CSN{
		{}, id(1), num(4, 3, 2), id(99), num(-1, 0, 0), num(0, -1, 0), num(0, 0, -1), num(maxTime+1, 0, 0), num(5, maxSeq+1, 0), num(5, 0, maxReps),
		num(math.MinInt64, math.MinInt, math.MinInt), num(math.MaxInt64, math.MaxInt, math.MaxInt), num(maxTime, maxSeq, maxReps-1),
	}
	others := func(what string, floor api.CSN, l []api.Entry, c []api.Change, on bool) {
		t.Helper()
		g := base.Load(floor, l, c)
		m := modelOf(g)
		check(t, what, g, m)
		if !inBounds(m.floor) {
			t.Fatalf("P16.3: %s: Floor: %v", what, m.floor)
		}
		for i, c := range m.changes {
			if !change.Is(c) || !less(m.floor, c.CSN) || i > 0 && !less(m.changes[i-1].CSN, c.CSN) || i >= maxChanges {
				t.Fatalf("P16.3: %s: floor %v, List:\n%s", what, m.floor, lines(m.changes))
			}
		}
		if h := base.Load(g.Floor(), g.Base(), g.List()); state(h) != state(g) || state(g.Copy()) != state(g) {
			t.Fatalf("P16.3: %s: what was loaded is loaded otherwise", what)
		}
		if on && m.floor.Time < maxTime-1000 {
			goOn(t, what, g, m)
		}
		trim(t, what, g, m, num(maxTime, maxSeq, maxReps-1))
		check(t, what, g, m)
	}
	for i, l := range noBases() {
		for j, c := range lists {
			others(fmt.Sprintf("P16.3: entries %d, changes %d", i, j), id(int64(j%3*4)), l, c, j == i%len(lists))
		}
	}
	for i, floor := range floors {
		for j, c := range lists {
			others(fmt.Sprintf("P16.3: floor %d, changes %d", i, j), floor, tree.New().All(), c, true)
			others(fmt.Sprintf("P16.3: floor %d, changes %d, upon some", i, j), floor, fold.Of(grown()).All(), c, i == j)
		}
	}
	g := base.Load(api.CSN{}, nil, more)
	if got := g.List(); len(got) != maxChanges || g.Put(more[240]) != api.ErrFull {
		t.Errorf("P16.3: Load of too many: %d", len(got))
	}
	others("P16.3: too many", api.CSN{}, nil, more, false)
}

// drawn makes n changes of all Kinds, rising, each of its own number, and what they name mostly there, or dead.
func drawn(r *rand.Rand, n int) []api.Change {
	parts := []string{"cn=a", "cn=A", "cn=b", "sn=a+cn=b", "title=a"}
	mods := []api.Mod{plus("cn", "a", "c"), plus("sn", "x"), mod(api.MDelete, "cn"), set("title", "t"), set("sn", "b", "y")}
	var l []api.Change
	var entries []api.CSN
	at := api.CSN{}
	for len(l) < n {
		switch r.Intn(3) {
		case 0:
			at = num(at.Time+1+int64(r.Intn(3)), 0, r.Intn(maxReps))
		case 1:
			at = num(at.Time, at.Seq+1+r.Intn(3), r.Intn(maxReps))
		case 2:
			at.Rep++
		}
		if at.Rep == maxReps {
			at = num(at.Time+1, 0, 0)
		}
		some := func() api.CSN { // mostly one of those that came last, or the root, or one that isn't
			switch i := r.Intn(12); {
			case i < 8 && len(entries) > 0:
				return entries[max(0, len(entries)-1-r.Intn(8))]
			case i < 10 && len(entries) > 0:
				return entries[r.Intn(len(entries))]
			case i == 10 && at.Seq > 0:
				return num(at.Time, at.Seq-1, r.Intn(maxReps))
			}
			return api.CSN{}
		}
		c := api.Change{CSN: at, Kind: []int{api.KAdd, api.KAdd, api.KDelete, api.KDelete, api.KModify, api.KMove}[r.Intn(6)]}
		switch c.Kind {
		case api.KAdd:
			c.ID, c.Parent, c.RDN, c.Mods = at, some(), rdn(parts[r.Intn(len(parts))]), []api.Mod{plus("sn", "v")}[:r.Intn(2)]
		case api.KDelete:
			c.ID = some()
		case api.KModify:
			c.ID, c.Mods = some(), []api.Mod{mods[r.Intn(len(mods))], mods[r.Intn(len(mods))]}
		case api.KMove:
			c.ID, c.Parent, c.RDN, c.DelOld = some(), some(), rdn(parts[r.Intn(len(parts))]), r.Intn(2) == 0
		}
		if !change.Is(c) { // of the root, or of what is above it
			continue
		}
		if c.Kind == api.KAdd {
			entries = append(entries, at)
		}
		l = append(l, c)
	}
	return l
}

// stays counts, by what keeps them known, the dead ones of the model's base.
func (m *model) stays(seen map[string]int) {
	for _, e := range m.base {
		if e.State != api.Dead {
			continue
		}
		for _, c := range m.changes {
			if c.ID == e.ID {
				seen[fmt.Sprint("dead, ID of kind ", c.Kind)]++
			}
			if c.Parent == e.ID {
				seen[fmt.Sprint("dead, Parent of kind ", c.Kind)]++
			}
		}
		if slices.ContainsFunc(m.base, func(x api.Entry) bool { return x.Parent == e.ID }) {
			seen["dead, Parent of an entry"]++
		}
	}
}

// P16.1, P16.2, P16.3, P16.4: rows of puts and trims.
func TestDrawn(t *testing.T) {
	r := rand.New(rand.NewSource(164))
	seen := map[string]int{}
	for i := range 150 {
		what := fmt.Sprint("drawn ", i)
		l := drawn(r, 20+r.Intn(100))
		for at := range l { // not far from where it was
			to := min(len(l)-1, at+r.Intn(12))
			l[at], l[to] = l[to], l[at]
		}
		g, m := base.New(), newModel()
		for at, c := range l {
			switch err := put(t, what, g, m, c); err {
			case api.OK, api.ErrPhase:
				seen[err.Error()]++
			default:
				t.Fatalf("%s: Put %s: %v", what, line(c), err)
			}
			if r.Intn(8) > 0 {
				continue
			}
			floor := l[max(0, at-r.Intn(30))].CSN
			floor = append(beside(floor), floor, floor, floor)[r.Intn(10)]
			known := len(g.Tree().All())
			if n := trim(t, what, g, m, floor); n > 0 {
				seen["trimmed"]++
			}
			seen["forgotten"] += known - len(g.Tree().All())
			check(t, what, g, m)
			m.stays(seen)
			switch r.Intn(4) {
			case 0:
				g = base.Load(g.Floor(), g.Base(), g.List())
			case 1:
				g = g.Copy()
			}
		}
		check(t, what, g, m)
		trim(t, what, g, m, num(maxTime, 0, 0))
		check(t, what, g, m)
		if told(g.Base()) != told(visible(g.Base())) {
			t.Fatalf("P16.2: %s: behind a Trim of all there are dead ones:\n%s", what, told(g.Base()))
		}
	}
	for _, s := range []string{
		"error 0", "error 26", "trimmed", "forgotten", "dead, ID of kind 2", "dead, ID of kind 3", "dead, ID of kind 4", "dead, Parent of kind 1", "dead, Parent of kind 4", "dead, Parent of an entry",
	} {
		if seen[s] < 60 {
			t.Errorf("%s: but %d", s, seen[s])
		}
	}
}

// P16.4: in whatever order changes come, and wherever they are trimmed, what is visible is what fold's Of makes of all.
func TestVisible(t *testing.T) {
	r := rand.New(rand.NewSource(165))
	for i := range 100 {
		l := drawn(r, 60)
		want := told(visible(fold.Of(l).All()))
		g := base.New()
		for from := 0; from < len(l); {
			to := min(len(l), from+1+r.Intn(20))
			some := slices.Clone(l[from:])
			r.Shuffle(len(some), func(i, j int) { some[i], some[j] = some[j], some[i] })
			for _, c := range some { // all that is to come names what must stay
				if err := g.Put(c); err != api.OK {
					t.Fatalf("P16.4: %d: Put %s: %v", i, line(c), err)
				}
			}
			if got := told(visible(g.Tree().All())); got != want {
				t.Fatalf("P16.4: %d: from %d on:\n%s\nwant\n%s", i, from, got, want)
			}
			if n := g.Trim(l[to-1].CSN); n != to-from {
				t.Fatalf("P16.4: %d: Trim: %d, want %d", i, n, to-from)
			}
			if got := told(visible(g.Tree().All())); got != want {
				t.Fatalf("P16.4: %d: trimmed up to %d:\n%s\nwant\n%s", i, to, got, want)
			}
			from = to
		}
	}
}

// grown are changes of all Kinds, by which there are entries of all States.
func grown() []api.Change {
	return []api.Change{
		add(7, 5, "cn=i", plus("cn", "j", "k")), move(12, 6, 2, "cn=g"), add(1, 0, "cn=a+sn=b", plus("mail", "m", "n"), plus("title", "t")), add(2, 0, "cn=a+sn=b", plus("title", "x")), add(3, 1, "cn=c"),
		add(4, 3, "cn=d"), add(5, 0, "ou=e"), del(13, 5), del(8, 3), modify(9, 1, plus("mail", "o"), mod(api.MDelete, "mail", "m")), add(6, 5, "cn=f"),
		moveOff(10, 4, 0, "cn=h+ou=x"), root(id(11), "r"), add(16, 0, "cn=z"), del(17, 16), add(18, 8, "cn=b"),
	}
}

// room tells c with room behind its lists, and what tells whether all of that stays as it was.
func room(c api.Change) (api.Change, func() string) {
	var values [][]string
	r := append(slices.Clone(c.RDN), rdn("cn=room+sn=room")...)
	m := append(slices.Clone(c.Mods), plus("cn", "room"), mod(api.MDelete, "sn", "room"))
	for j := range m {
		v := append(slices.Clone(m[j].Values), "room", "more")
		values = append(values, v)
		m[j].Values = v[:len(v)-2]
	}
	c.RDN, c.Mods = r[:len(c.RDN)], m[:len(c.Mods)]
	return c, func() string { return fmt.Sprint(c, r, m, values) }
}

func scribbleTexts(l []string) {
	for i := range l[:cap(l)] {
		l[:cap(l)][i] = "scribbled"
	}
}

func scribbleRDN(r api.RDN) {
	for i := range r[:cap(r)] {
		r[:cap(r)][i] = api.AVA{Attr: "o", Value: "scribbled"}
	}
}

// scribble writes to all lists of c, and behind them.
func scribble(c *api.Change) {
	scribbleRDN(c.RDN)
	mods := c.Mods[:cap(c.Mods)]
	for i, m := range mods {
		scribbleTexts(m.Values)
		mods[i] = mod(-7, "o", "scribbled")
	}
	c.CSN, c.Kind, c.ID, c.Parent, c.DelOld = id(77), -7, id(77), id(77), true
}

// scribbleAll writes to l and behind it.
func scribbleAll(l []api.Change) {
	l = l[:cap(l)]
	for i := range l {
		scribble(&l[i])
	}
}

// scribbleEntry writes to all lists of e, and behind them.
func scribbleEntry(e *api.Entry) {
	scribbleRDN(e.RDN)
	l := e.Attrs[:cap(e.Attrs)]
	for i, a := range l {
		scribbleTexts(a.Values)
		l[i] = api.Attr{Name: "o", Values: []string{"scribbled"}}
	}
	e.ID, e.Parent, e.State, e.Renamed = id(77), id(77), -7, true
}

func scribbleEntries(l []api.Entry) {
	l = l[:cap(l)]
	for i := range l {
		scribbleEntry(&l[i])
	}
}

// DOC.md, 3: what is put stays as it was, and isn't kept.
func TestHandedIn(t *testing.T) {
	g, m := base.New(), newModel()
	all := grown()
	for i, c := range append(append(slices.Clone(all), all[3], all[7], del(2, 1)), noChanges(30)...) {
		c, shows := room(c)
		was := shows()
		g.Put(c)
		if i < len(all) {
			m.put(all[i])
		}
		if shows() != was {
			t.Errorf("Put %d changes what is handed in:\n%s\nit was\n%s", i, shows(), was)
		}
		scribble(&c)
		check(t, fmt.Sprint("what is put is kept: ", i), g, m)
	}
	for _, floor := range []int64{9, 99} {
		trim(t, "put", g, m, id(floor))
		check(t, "what is put is kept, and trimmed", g, m)
	}
	v := append(vector.New(maxReps), num(7, 7, 7))
	was := fmt.Sprint(v)
	for n := range v {
		g.Since(v[:n])
	}
	if fmt.Sprint(v) != was {
		t.Errorf("Since changes its vector: %v", v)
	}
}

// DOC.md, 3: what is loaded stays as it was, the room behind it too, and isn't kept.
func TestLoadHandedIn(t *testing.T) {
	g, m := filled(t, grown()...)
	trim(t, "loaded", g, m, id(9))
	l, c := append(g.Base(), entry(70, 0, api.Dead, "cn=room"), entry(71, 70, api.Dead, "cn=room")), append(g.List(), add(70, 0, "cn=room"), del(71, 70))
	for i := range l {
		l[i].RDN = append(l[i].RDN, rdn("cn=room")...)[:len(l[i].RDN)]
		l[i].Attrs = append(l[i].Attrs, api.Attr{Name: "sn", Values: []string{"room"}})[:len(l[i].Attrs)]
		for j := range l[i].Attrs {
			l[i].Attrs[j].Values = append(l[i].Attrs[j].Values, "room")[:len(l[i].Attrs[j].Values)]
		}
	}
	var shows []func() string
	for i := range c {
		var show func() string
		c[i], show = room(c[i])
		shows = append(shows, show)
	}
	all := func() string {
		var b strings.Builder
		for _, e := range l {
			fmt.Fprint(&b, e, e.RDN[:cap(e.RDN)], e.Attrs[:cap(e.Attrs)])
			for _, a := range e.Attrs {
				fmt.Fprint(&b, a.Values[:cap(a.Values)])
			}
		}
		fmt.Fprint(&b, lines(c))
		for _, s := range shows {
			b.WriteString(s())
		}
		return b.String()
	}
	was := all()
	h := base.Load(g.Floor(), l[:len(l)-2], c[:len(c)-2])
	k := base.Load(g.Floor(), l[:len(l)-2], c[:len(c)-2])
	check(t, "loaded", h, m)
	goOn(t, "loaded", k, m.copy())
	scribbleEntries(h.Base())
	scribbleAll(h.List())
	scribbleAll(h.Since(nil))
	if all() != was {
		t.Errorf("what is loaded is changed:\n%s\nit was\n%s", all(), was)
	}
	scribbleEntries(l)
	scribbleAll(c)
	check(t, "what is loaded is kept", h, m)
	goOn(t, "what is loaded is kept", h, m)
}

// apart asks that what is written to one of l is to be seen in no other one, nor in what lies within one.
func apart(t *testing.T, what string, l []api.Change) {
	t.Helper()
	for i := range l {
		for j := range l[i].Mods {
			was := fmt.Sprint(l[i].Mods[j+1:], l[i].RDN, lines(l[i+1:]))
			scribbleTexts(l[i].Mods[j].Values)
			if fmt.Sprint(l[i].Mods[j+1:], l[i].RDN, lines(l[i+1:])) != was {
				t.Errorf("%s: at %d: the values of mod %d are in another list, too", what, i, j)
			}
		}
		rest := lines(l[i+1:])
		scribble(&l[i])
		if lines(l[i+1:]) != rest {
			t.Errorf("%s: what is at %d shares with what is behind it", what, i)
		}
	}
	scribbleAll(l)
}

// DOC.md, 3: what is answered is apart from the log, and from every other answer.
func TestApart(t *testing.T) {
	shared := []api.Mod{plus("sn", "x", "y"), plus("ou", "z")}
	name := rdn("cn=a+title=b")
	for _, floor := range []int64{0, 5, 9, 24, 99} {
		g, m := filled(t, grown()...)
		for i := int64(20); i < 30; i++ { // lists that hang on several changes
			c := with(add(i, 0, "cn=a"), func(c *api.Change) { c.RDN, c.Mods = name, shared })
			put(t, "shared", g, m, c)
		}
		trim(t, "apart", g, m, id(floor))
		lists := func() []string {
			return []string{lines(g.List()), lines(g.Since(nil)), lines(g.Since(vector.New(maxReps))), told(g.Base()), told(g.Tree().All())}
		}
		was := lists()
		one, two, three, four := g.List(), g.List(), g.Since(nil), g.Since(vector.New(maxReps))
		apart(t, "List", one)
		if lines(two) != was[0] || lines(three) != was[1] || lines(four) != was[2] {
			t.Errorf("List shares with another answer")
		}
		apart(t, "Since", three)
		if lines(two) != was[0] || lines(four) != was[2] {
			t.Errorf("Since shares with another answer")
		}
		b, other := g.Base(), g.Base()
		for i := range b {
			rest := told(b[i+1:])
			scribbleEntry(&b[i])
			if told(b[i+1:]) != rest {
				t.Errorf("Base: what is at %d shares with what is behind it", i)
			}
		}
		scribbleEntries(b)
		if told(other) != was[3] {
			t.Errorf("two Base share")
		}
		scribbleAll(two)
		scribbleAll(four)
		scribbleEntries(other)
		if now := lists(); !slices.Equal(now, was) {
			t.Errorf("an answer is the log's:\n%v\nit was\n%v", now, was)
		}
		check(t, "apart", g, m)
		goOn(t, "apart", g, m)
	}
	for _, g := range []*base.Log{base.New(), base.New().Copy()} { // of nothing
		scribbleAll(g.List())
		scribbleAll(g.Since(nil))
		scribbleEntries(g.Base())
		check(t, "of nothing", g, newModel())
	}
}

// DOC.md, 3: an answer is no part of what comes later.
func TestAnswersStay(t *testing.T) {
	g, m := filled(t, grown()...)
	l, since, b, d := g.List(), g.Since(nil), g.Base(), g.Tree()
	was := []string{lines(l), lines(since), told(b), told(d.All())}
	goOn(t, "later", g, m)
	trim(t, "later", g, m, id(maxTime))
	if now := []string{lines(l), lines(since), told(b), told(d.All())}; !slices.Equal(now, was) {
		t.Errorf("what was answered turns:\n%v\nit was\n%v", now, was)
	}
}

// inside tells whether p and s have bytes in common.
func inside(p, s string) bool {
	if p == "" || s == "" {
		return false
	}
	begin, at := uintptr(unsafe.Pointer(unsafe.StringData(s))), uintptr(unsafe.Pointer(unsafe.StringData(p)))
	return at < begin+uintptr(len(s)) && begin < at+uintptr(len(p))
}

// texts tells all texts that hang on l.
func texts(l []api.Change) []string {
	var all []string
	for _, c := range l {
		for _, a := range c.RDN {
			all = append(all, a.Attr, a.Value)
		}
		for _, m := range c.Mods {
			all = append(append(all, m.Attr), m.Values...)
		}
	}
	return all
}

// DOC.md, 3: texts aren't kept, so that nothing larger hangs on one.
func TestTexts(t *testing.T) {
	long := "cn sn abcd efgh " + strings.Repeat("x", 1<<10)
	a := api.Change{CSN: id(1), Kind: api.KAdd, ID: id(1), RDN: api.RDN{{Attr: long[:2], Value: long[6:10]}}, Mods: []api.Mod{{Kind: api.MAdd, Attr: long[3:5], Values: []string{long[11:15]}}}}
	b := a
	b.CSN, b.ID = id(2), id(2)
	e := api.Entry{ID: id(3), State: api.Live, RDN: api.RDN{{Attr: long[:2], Value: long[11:15]}}, Attrs: []api.Attr{{Name: long[:2], Values: []string{long[11:15]}}}}
	put, _ := filled(t, b, a)
	for _, g := range []*base.Log{put, put.Copy(), base.Load(api.CSN{}, []api.Entry{e}, []api.Change{a, b})} {
		one, other := texts(g.List()), append(texts(g.List()), texts(g.Since(nil))...)
		if len(one) != 8 {
			t.Fatalf("texts: %q", one)
		}
		for i, s := range one {
			if inside(s, long) {
				t.Errorf("%q is kept", s)
			}
			for _, p := range append(slices.Clone(one[i+1:]), other...) {
				if inside(p, s) {
					t.Errorf("%q is in two answers, or twice in one", s)
				}
			}
		}
		g.Trim(id(1))
		for _, e := range append(g.Base(), g.Tree().All()...) {
			for _, a := range e.RDN {
				if inside(a.Attr, long) || inside(a.Value, long) {
					t.Errorf("%v is kept", a)
				}
			}
			for _, a := range e.Attrs {
				if inside(a.Name, long) || inside(a.Values[0], long) {
					t.Errorf("%v is kept", a)
				}
			}
		}
	}
}

// DOC.md, 6: a log hangs on nothing but what it was told, and whoever only asks changes nothing, however many ask at once.
func TestAsked(t *testing.T) {
	g, m := filled(t, grown()...)
	trim(t, "asked", g, m, id(9))
	for _, g := range []*base.Log{g, base.New(), {}} {
		was := state(g)
		var all sync.WaitGroup
		for i := range 8 {
			all.Add(1)
			go func() {
				defer all.Done()
				d := g.Copy()
				if state(g) != was || state(d) != was {
					t.Error("asked by several, it is another one")
				}
				d.Put(add(int64(50+i), 0, "cn=x"))
				d.Trim(id(60))
			}()
		}
		all.Wait()
		if state(g) != was {
			t.Errorf("what is asked is changed:\n%s\nit was\n%s", state(g), was)
		}
	}
	check(t, "asked", g, m)
	one, other := base.New(), base.New()
	one.Put(add(1, 0, "cn=a"))
	one.Trim(id(1))
	check(t, "another one", other, newModel())
}

// DOC.md, 8: very many dead ones, beside and beneath one another, go in a time that their number says.
func TestLong(t *testing.T) {
	const n = 60000
	for name, parent := range map[string]func(i int64) int64{
		"beside": func(i int64) int64 { return 0 }, "down": func(i int64) int64 { return i - 1 }, "up": func(i int64) int64 { return (i + 1) % (n + 1) }, "twos": func(i int64) int64 { return i / 2 },
	} {
		l := []api.Entry{{State: api.Live}}
		for i := int64(1); i <= n; i++ {
			l = append(l, entry(i, parent(i), api.Dead, "cn=a"))
		}
		g := base.Load(id(n), l, []api.Change{del(n+5, 1), del(n+6, n)})
		if got := len(g.Base()); got != n+1 {
			t.Fatalf("%s: Load: %d", name, got)
		}
		if got, want := g.Trim(id(n+1)), map[string]int{"beside": 2, "down": n, "up": n, "twos": 16}[name]; got != 0 || len(g.Base()) != want+1 {
			t.Errorf("%s: Trim: %d, Base: %d, want %d", name, got, len(g.Base()), want+1)
		}
		if got := g.Trim(id(n + 6)); got != 2 || len(g.Base()) != 1 {
			t.Errorf("%s: Trim: %d, Base: %d", name, got, len(g.Base()))
		}
	}
}

// DOC.md, Limits
func TestLimits(t *testing.T) {
	if api.MaxTime != maxTime || api.MaxSeq != maxSeq || api.MaxReps != maxReps || api.MaxChanges != maxChanges {
		t.Error("the limits aren't the document's")
	}
}
