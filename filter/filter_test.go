package filter_test

import (
	"fmt"
	"math/rand"
	"regexp"
	"slices"
	"strings"
	"testing"
	"unsafe"

	"prefect/api"
	"prefect/dn"
	"prefect/filter"
)

// kinds are all kinds, and some that are none.
var (
	kinds   = []int{api.FAnd, api.FOr, api.FNot, api.FEqual, api.FGreater, api.FLess, api.FPresent, api.FSubs}
	noKinds = []int{0, -1, 9, 10, 255, 257, 1 << 40, -1 << 63}
)

func and(l ...api.Filter) api.Filter { return api.Filter{Kind: api.FAnd, Kids: l} }
func or(l ...api.Filter) api.Filter  { return api.Filter{Kind: api.FOr, Kids: l} }
func not(l ...api.Filter) api.Filter { return api.Filter{Kind: api.FNot, Kids: l} }

func equal(a, v string) api.Filter   { return api.Filter{Kind: api.FEqual, Attr: a, Value: v} }
func greater(a, v string) api.Filter { return api.Filter{Kind: api.FGreater, Attr: a, Value: v} }
func less(a, v string) api.Filter    { return api.Filter{Kind: api.FLess, Attr: a, Value: v} }
func present(a string) api.Filter    { return api.Filter{Kind: api.FPresent, Attr: a} }
func subs(a string, l ...string) api.Filter {
	return api.Filter{Kind: api.FSubs, Attr: a, Subs: l}
}

// shape tells all of a filter, by no function of the package.
func shape(f api.Filter) string {
	s := fmt.Sprintf("{%d %q %q %d%q", f.Kind, f.Attr, f.Value, len(f.Subs), f.Subs)
	for _, kid := range f.Kids {
		s += " " + shape(kid)
	}
	return s + "}"
}

// zero tells whether f has nothing.
func zero(f api.Filter) bool {
	return f.Kind == 0 && f.Attr == "" && f.Value == "" && len(f.Subs) == 0 && len(f.Kids) == 0
}

// times tells f n times.
func times(f api.Filter, n int) []api.Filter { return slices.Repeat([]api.Filter{f}, n) }

// within tells f within n filters of that kind, one in the other.
func within(kind, n int, f api.Filter) api.Filter {
	for range n {
		f = api.Filter{Kind: kind, Kids: []api.Filter{f}}
	}
	return f
}

// read asks for a filter and for nothing beside it, and for its text.
func read(t *testing.T, s string, want api.Filter) {
	t.Helper()
	if f, err := filter.Parse(s); shape(f) != shape(want) || err != api.OK {
		t.Errorf("P7.2, P7.3: %q: %s, %v; want %s", s, shape(f), err, shape(want))
	}
	if got := filter.Print(want); got != s {
		t.Errorf("P7.2: %s: %q; want %q", shape(want), got, s)
	}
	if !filter.Is(want) {
		t.Errorf("P7.1: %s: not Is", shape(want))
	}
}

// refuse asks for a filter where there is none.
func refuse(t *testing.T, s string) {
	t.Helper()
	if f, err := filter.Parse(s); !zero(f) || err != api.ErrFilter {
		t.Errorf("P7.2: %.100q: %s, %v", s, shape(f), err)
	}
}

// is asks whether f is a filter; what isn't, has no text.
func is(t *testing.T, f api.Filter, want bool) {
	t.Helper()
	if filter.Is(f) != want {
		t.Errorf("P7.1: Is of %.200s: not %v", shape(f), want)
	}
	if s := filter.Print(f); (s != "") != want {
		t.Errorf("P7.2: Print of %.200s: %.200q", shape(f), s)
	}
}

func TestCount(t *testing.T) { // P7.1
	const most = api.MaxNodes
	leaf := present("cn")
	large := leaf
	for range 60 { // 2^60 nodes
		large = and(large, large)
	}
	for i, c := range []struct {
		f    api.Filter
		want int
	}{
		{api.Filter{}, 1},
		{leaf, 1},
		{equal("cn", "a"), 1},
		{greater("cn", "a"), 1},
		{less("cn", "a"), 1},
		{subs("cn", slices.Repeat([]string{"a"}, 100)...), 1}, // Subs are no nodes
		{and(), 1},
		{or(), 1},
		{not(), 1},
		{and(leaf), 2},
		{or(leaf), 2},
		{not(leaf), 2},
		{not(leaf, leaf), 3}, // too many for it, but nodes
		{and(leaf, leaf, leaf), 4},
		{and(leaf, or(leaf, not(leaf), leaf), and()), 8},
		{and(and(), and(and(), and()), and(and(and()))), 8},
		{and(api.Filter{}, api.Filter{Kind: 9}), 3}, // what is of no kind is a node
		{and(times(leaf, most-2)...), most - 1},
		{and(times(leaf, most-1)...), most},
		{and(times(leaf, most)...), most + 1},
		{and(times(leaf, most+1)...), most + 1},
		{or(times(leaf, most-1)...), most},
		{or(times(leaf, most)...), most + 1},
		{not(times(leaf, most-1)...), most},
		{not(times(leaf, most+7)...), most + 1},
		{within(api.FNot, most-1, leaf), most},
		{within(api.FNot, most, leaf), most + 1},
		{within(api.FNot, most+1, leaf), most + 1},
		{within(api.FAnd, most-1, or()), most},
		{within(api.FOr, most, and()), most + 1},
		{and(or(times(leaf, 9)...), or(times(leaf, 8)...)), most},
		{and(or(times(leaf, 9)...), or(times(leaf, 9)...)), most + 1},
		{and(or(times(leaf, 9)...), or(times(leaf, 90)...)), most + 1},
		{and(or(times(leaf, 50)...), or(times(leaf, 50)...), leaf), most + 1},
		{and(or(times(leaf, most-2)...), leaf), most + 1},
		{and(leaf, or(times(leaf, most-3)...)), most},
		{and(times(leaf, 1<<20)...), most + 1},
		{or(times(and(times(leaf, 1<<10)...), 1<<10)...), most + 1},
		{within(api.FNot, 1<<16, leaf), most + 1},
		{within(api.FAnd, 1<<16, leaf), most + 1},
		{large, most + 1},
		{and(leaf, not(large), large), most + 1},
	} {
		if n := filter.Count(c.f); n != c.want {
			t.Errorf("P7.1: row %d: %d; want %d", i, n, c.want)
		}
		if c.want > most && (filter.Is(c.f) || filter.Print(c.f) != "") {
			t.Errorf("P7.1: row %d is told as a filter", i)
		}
	}
	for n := range 3 * most {
		if got := filter.Count(or(times(leaf, n)...)); got != min(n+1, most+1) {
			t.Errorf("P7.1: Count of %d Kids: %d", n, got)
		}
		if got := filter.Count(within(api.FNot, n, leaf)); got != min(n+1, most+1) {
			t.Errorf("P7.1: Count of %d within one another: %d", n, got)
		}
	}
}

// TestCountKinds: only Kids of kinds that have them are counted.
func TestCountKinds(t *testing.T) { // P7.1
	for _, kind := range append(slices.Clone(kinds), noKinds...) {
		has := kind == api.FAnd || kind == api.FOr || kind == api.FNot
		for _, n := range []int{0, 1, 2, 5, api.MaxNodes, 1000} {
			want := 1
			if has {
				want = min(1+n, api.MaxNodes+1)
			}
			f := api.Filter{Kind: kind, Attr: "cn", Kids: times(and(), n)}
			if got := filter.Count(f); got != want {
				t.Errorf("P7.1: Count of kind %d with %d Kids: %d", kind, n, got)
			}
			if got := filter.Count(and(f, f)); got != min(1+2*want, api.MaxNodes+1) {
				t.Errorf("P7.1: Count of two of kind %d with %d Kids: %d", kind, n, got)
			}
		}
	}
}

// TestCountAll: filters by chance, counted by another way than the package's.
func TestCountAll(t *testing.T) { // P7.1
	r := rand.New(rand.NewSource(71))
	var nodes func(f api.Filter) int
	nodes = func(f api.Filter) int {
		n := 1
		if f.Kind >= api.FAnd && f.Kind <= api.FNot {
			for _, kid := range f.Kids {
				n += nodes(kid)
			}
		}
		return n
	}
	var grow func(deep int) api.Filter
	grow = func(deep int) api.Filter {
		f := api.Filter{Kind: r.Intn(11) - 1}
		if r.Intn(3) > 0 {
			f.Kind = 1 + r.Intn(3)
		}
		for range r.Intn(1 + deep) {
			f.Kids = append(f.Kids, grow(deep-1))
		}
		return f
	}
	told := map[int]int{}
	for range 5000 {
		f := grow(r.Intn(7))
		n, want := filter.Count(f), min(nodes(f), api.MaxNodes+1)
		if n != want {
			t.Fatalf("P7.1: Count of %s: %d; want %d", shape(f), n, want)
		}
		told[n]++
	}
	for n := 1; n <= api.MaxNodes+1; n++ {
		if told[n] == 0 {
			t.Errorf("no filter of %d nodes", n)
		}
	}
}

func TestIs(t *testing.T) { // P7.1, and P7.2 of what isn't
	const most = api.MaxNodes
	leaf := present("cn")
	full, long := strings.Repeat("v", api.MaxValue), strings.Repeat("v", api.MaxValue+1)
	parts := func(n int) []string { return slices.Repeat([]string{"p"}, n) }
	for _, c := range []struct {
		f    api.Filter
		want bool
	}{
		{api.Filter{}, false},
		{and(), true}, // Kids may be none
		{or(), true},
		{not(), false},
		{and(leaf), true},
		{or(leaf), true},
		{not(leaf), true},
		{not(leaf, leaf), false},
		{not(leaf, api.Filter{}), false},
		{not(not()), false},
		{not(not(leaf)), true},
		{not(and()), true},
		{and(not()), false},
		{and(leaf, not(leaf, leaf), leaf), false},
		{and(leaf, leaf), true}, // one may come again
		{and(leaf, api.Filter{}), false},
		{and(api.Filter{}, leaf), false},
		{or(and(leaf, or(equal("CN", "a"))), leaf), false},
		{and(times(leaf, most-1)...), true},
		{and(times(leaf, most)...), false},
		{or(times(leaf, most-1)...), true},
		{or(times(leaf, most)...), false},
		{within(api.FNot, most-1, leaf), true},
		{within(api.FNot, most, leaf), false},
		{within(api.FAnd, most-1, leaf), true},
		{within(api.FAnd, most, leaf), false},
		{and(or(times(leaf, 9)...), or(times(leaf, 8)...)), true},
		{and(or(times(leaf, 9)...), or(times(leaf, 9)...)), false},
		{and(times(api.Filter{}, 1<<16)...), false},
		{equal("cn", ""), true}, // an empty Value is one
		{greater("cn", ""), true},
		{less("cn", ""), true},
		{equal("cn", full), true},
		{greater("cn", full), true},
		{less("cn", full), true},
		{equal("cn", long), false},
		{greater("cn", long), false},
		{less("cn", long), false},
		{equal("cn", strings.Repeat("*", api.MaxValue)), true}, // its bytes count, not those of its text
		{equal("cn", strings.Repeat("\u00e4", api.MaxValue/2)), true},
		{equal("cn", strings.Repeat("\u00e4", api.MaxValue/2+1)), false},
		{and(equal("cn", long)), false},
		{and(leaf, or(equal("cn", long))), false},
		{subs("cn"), false},
		{subs("cn", "a"), false},
		{subs("cn", ""), false},
		{subs("cn", "a", "b"), true},
		{subs("cn", "", "b"), true},
		{subs("cn", "a", ""), true},
		{subs("cn", "", ""), false},
		{subs("cn", "a", "b", "c"), true},
		{subs("cn", "", "b", "c"), true},
		{subs("cn", "a", "b", ""), true},
		{subs("cn", "", "b", ""), true},
		{subs("cn", "a", "", "c"), false},
		{subs("cn", "", "", "c"), false},
		{subs("cn", "a", "", ""), false},
		{subs("cn", "", "", ""), false},
		{subs("cn", "a", "", "c", "d"), false},
		{subs("cn", "a", "b", "", "d"), false},
		{subs("cn", "", "b", "c", ""), true},
		{subs("cn", "", "", "", ""), false},
		{subs("cn", parts(most-1)...), true},
		{subs("cn", parts(most)...), true},
		{subs("cn", parts(most+1)...), false},
		{subs("cn", parts(1<<20)...), false},
		{subs("cn", append(append([]string{""}, parts(most-2)...), "")...), true},
		{subs("cn", append(append([]string{""}, parts(most-1)...), "")...), false},
		{subs("cn", slices.Repeat([]string{""}, most)...), false},
		{subs("cn", slices.Repeat([]string{""}, most+1)...), false},
		{subs("cn", full, full), true},
		{subs("cn", slices.Repeat([]string{full}, most)...), true},
		{subs("cn", long, "b"), false},
		{subs("cn", "a", long), false},
		{subs("cn", "", long), false},
		{subs("cn", "a", long, "c"), false},
		{subs("cn", "a", "b", "c", long, "e"), false},
	} {
		is(t, c.f, c.want)
	}
	for n := range 3 * most {
		is(t, or(times(leaf, n)...), n < most)
		is(t, within(api.FNot, n, and()), n < most)
		is(t, not(times(leaf, n)...), n == 1)
		is(t, subs("cn", parts(n)...), n >= 2 && n <= most)
	}
	for n := range 3 * api.MaxValue {
		v := strings.Repeat("v", n)
		for _, f := range []api.Filter{equal("cn", v), greater("cn", v), less("cn", v), subs("cn", v, "x"), subs("cn", "x", v), not(equal("cn", v))} {
			is(t, f, n <= api.MaxValue)
		}
		is(t, subs("cn", "x", v, "x"), n >= 1 && n <= api.MaxValue)
	}
}

// TestIsParts: each kind with each part that it has, or hasn't.
func TestIsParts(t *testing.T) { // P7.1, and P7.2 of what isn't
	type have struct{ attr, value, subs, kids bool }
	must := map[int]have{ // what each kind has at least
		api.FNot:     {kids: true},
		api.FEqual:   {attr: true},
		api.FGreater: {attr: true},
		api.FLess:    {attr: true},
		api.FPresent: {attr: true},
		api.FSubs:    {attr: true, subs: true},
	}
	may := map[int]have{ // and at most
		api.FAnd:     {kids: true},
		api.FOr:      {kids: true},
		api.FNot:     {kids: true},
		api.FEqual:   {attr: true, value: true},
		api.FGreater: {attr: true, value: true},
		api.FLess:    {attr: true, value: true},
		api.FPresent: {attr: true},
		api.FSubs:    {attr: true, subs: true},
	}
	fits := func(need, has, most bool) bool { return (has || !need) && (most || !has) }
	for _, kind := range append(slices.Clone(kinds), noKinds...) {
		for bits := range 16 {
			f := api.Filter{Kind: kind}
			h := have{bits&1 != 0, bits&2 != 0, bits&4 != 0, bits&8 != 0}
			if h.attr {
				f.Attr = "cn"
			}
			if h.value {
				f.Value = "v"
			}
			if h.subs {
				f.Subs = []string{"a", "b"}
			}
			if h.kids {
				f.Kids = []api.Filter{present("sn")}
			}
			low, high := must[kind], may[kind]
			want := slices.Contains(kinds, kind) && fits(low.attr, h.attr, high.attr) && fits(low.value, h.value, high.value) && fits(low.subs, h.subs, high.subs) && fits(low.kids, h.kids, high.kids)
			is(t, f, want)
			is(t, and(present("cn"), f), want)
			is(t, not(f), want)
			if want {
				f.Subs, f.Kids = append([]string{}, f.Subs...), append([]api.Filter{}, f.Kids...) // none is as good as nil
				is(t, f, true)
			}
		}
		for _, f := range []api.Filter{ // what a kind doesn't have is none, also if it is empty
			{Kind: kind, Attr: "cn", Subs: []string{""}},
			{Kind: kind, Subs: []string{""}},
			{Kind: kind, Attr: "cn", Kids: make([]api.Filter, 1)},
			{Kind: kind, Attr: "cn", Subs: []string{"a", "b"}, Kids: make([]api.Filter, 1)},
			{Kind: kind, Kids: make([]api.Filter, 1)},
		} {
			is(t, f, false)
		}
	}
}

// TestIsAttr: the Attr of those that have one is dn's IsType.
func TestIsAttr(t *testing.T) { // P7.1
	var attrs []string
	for i := range 256 {
		c := string([]byte{byte(i)})
		attrs = append(attrs, c, c+"a", "a"+c, "a"+c+"b")
	}
	attrs = append(attrs, "", "cn", "CN", "userpassword", "nosuch", "x", "c-9", "c--", "-c", "9c", "cn ", " cn", "2.5.4.3", "cn;lang-en", "abcdefghijklmnop", "abcdefghijklmnopq", "abcdefghijklmnoP", "c\u00e4", strings.Repeat("a", 1<<16))
	for _, a := range attrs {
		for _, f := range []api.Filter{equal(a, "v"), equal(a, ""), greater(a, "v"), less(a, "v"), present(a), subs(a, "v", ""), not(present(a)), and(present("cn"), or(equal(a, "v")))} {
			is(t, f, dn.IsType(a))
		}
	}
}

// printed are filters with their texts.
var printed = []struct {
	f api.Filter
	s string
}{
	{and(subs("cn", "a", ""), not(equal("sn", "b"))), `(&(cn=a*)(!(sn=b)))`}, // the chapter's own
	{and(), `(&)`},
	{or(), `(|)`},
	{and(present("cn")), `(&(cn=*))`},
	{or(present("cn")), `(|(cn=*))`},
	{not(present("cn")), `(!(cn=*))`},
	{not(and()), `(!(&))`},
	{not(not(or())), `(!(!(|)))`},
	{and(and(), or(), and(or(), and())), `(&(&)(|)(&(|)(&)))`},
	{or(equal("cn", "a"), equal("cn", "a"), equal("cn", "b")), `(|(cn=a)(cn=a)(cn=b))`},
	{or(equal("cn", "b"), equal("cn", "a")), `(|(cn=b)(cn=a))`}, // in their order
	{equal("cn", "a"), `(cn=a)`},
	{equal("cn", ""), `(cn=)`},
	{equal("cn", "A B"), `(cn=A B)`}, // as it stands
	{equal("cn", " "), `(cn= )`},
	{equal("cn", "  a  "), `(cn=  a  )`},
	{equal("c-1", "#"), `(c-1=#)`},
	{equal("cn", "="), `(cn==)`},
	{equal("cn", "=="), `(cn===)`},
	{equal("cn", "a=b="), `(cn=a=b=)`},
	{equal("cn", ">"), `(cn=>)`},
	{equal("cn", "<"), `(cn=<)`},
	{equal("cn", ">="), `(cn=>=)`},
	{equal("cn", "<=a"), `(cn=<=a)`},
	{equal("cn", "~=!&|"), `(cn=~=!&|)`},
	{equal("cn", "&"), `(cn=&)`},
	{equal("cn", `,+"\<>;`), `(cn=,+"\5c<>;)`},
	{equal("cn", "*"), `(cn=\2a)`},
	{equal("cn", "**"), `(cn=\2a\2a)`},
	{equal("cn", "("), `(cn=\28)`},
	{equal("cn", ")"), `(cn=\29)`},
	{equal("cn", "(cn=*)"), `(cn=\28cn=\2a\29)`},
	{equal("cn", `\`), `(cn=\5c)`},
	{equal("cn", `\2a`), `(cn=\5c2a)`},
	{equal("cn", `\5c`), `(cn=\5c5c)`},
	{equal("cn", "\x00"), `(cn=\00)`},
	{equal("cn", "\x00\x1f \x7e\x7f\x80\xff"), `(cn=\00\1f ~\7f\80\ff)`},
	{equal("cn", "\n0a"), `(cn=\0a0a)`},
	{equal("cn", "\xab\xcd\xef"), `(cn=\ab\cd\ef)`},
	{equal("cn", "\u00e4"), `(cn=\c3\a4)`},
	{equal("cn", "\u2028"), `(cn=\e2\80\a8)`},
	{greater("cn", "a"), `(cn>=a)`},
	{greater("cn", ""), `(cn>=)`},
	{greater("cn", "="), `(cn>==)`},
	{greater("cn", ">="), `(cn>=>=)`},
	{greater("cn", "*"), `(cn>=\2a)`},
	{greater("uidnumber", "-7"), `(uidnumber>=-7)`},
	{less("cn", "a"), `(cn<=a)`},
	{less("cn", ""), `(cn<=)`},
	{less("cn", "="), `(cn<==)`},
	{less("cn", "<=*\x7f"), `(cn<=<=\2a\7f)`},
	{present("cn"), `(cn=*)`},
	{present("abcdefghijklmnop"), `(abcdefghijklmnop=*)`},
	{present("x"), `(x=*)`},
	{subs("cn", "a", "b"), `(cn=a*b)`},
	{subs("cn", "", "b"), `(cn=*b)`},
	{subs("cn", "a", ""), `(cn=a*)`},
	{subs("cn", "a", "b", "c"), `(cn=a*b*c)`},
	{subs("cn", "", "b", ""), `(cn=*b*)`},
	{subs("cn", "", "b", "c"), `(cn=*b*c)`},
	{subs("cn", "a", "b", ""), `(cn=a*b*)`},
	{subs("cn", "", "b", "c", "d", ""), `(cn=*b*c*d*)`},
	{subs("cn", "*", "*"), `(cn=\2a*\2a)`},
	{subs("cn", "", "*", ""), `(cn=*\2a*)`},
	{subs("cn", " ", "=", ">"), `(cn= *=*>)`},
	{subs("cn", "=", ""), `(cn==*)`},
	{subs("cn", `(\)`, "\xff\x00"), `(cn=\28\5c\29*\ff\00)`},
	{equal("cn", strings.Repeat("v", api.MaxValue)), "(cn=" + strings.Repeat("v", api.MaxValue) + ")"},
	{less("cn", strings.Repeat("\xff", api.MaxValue)), "(cn<=" + strings.Repeat(`\ff`, api.MaxValue) + ")"},
	{subs("cn", slices.Repeat([]string{strings.Repeat("*", api.MaxValue)}, api.MaxNodes)...), "(cn=" + strings.TrimSuffix(strings.Repeat(strings.Repeat(`\2a`, api.MaxValue)+"*", api.MaxNodes), "*") + ")"},
	{subs("cn", slices.Repeat([]string{"p"}, api.MaxNodes)...), "(cn=" + strings.Repeat("p*", api.MaxNodes-1) + "p)"},
	{and(times(equal("cn", "a"), api.MaxNodes-1)...), "(&" + strings.Repeat("(cn=a)", api.MaxNodes-1) + ")"},
	{within(api.FNot, api.MaxNodes-1, equal("cn", "a")), strings.Repeat("(!", api.MaxNodes-1) + "(cn=a)" + strings.Repeat(")", api.MaxNodes-1)},
	{within(api.FOr, api.MaxNodes-1, and()), strings.Repeat("(|", api.MaxNodes-1) + "(&)" + strings.Repeat(")", api.MaxNodes-1)},
	{or(and(times(less("c", "d"), 9)...), not(or(times(subs("c", "d", ""), 7)...))), "(|(&" + strings.Repeat("(c<=d)", 9) + ")(!(|" + strings.Repeat("(c=d*)", 7) + ")))"},
}

func TestPrint(t *testing.T) { // P7.2, P7.3
	for _, c := range printed {
		read(t, c.s, c.f)
		if filter.Count(c.f) <= api.MaxNodes-2 {
			read(t, "(!"+c.s+")", not(c.f))
			read(t, "(&(o=x)"+c.s+")", and(equal("o", "x"), c.f))
		}
		if filter.Count(c.f) <= api.MaxNodes/2-2 {
			read(t, "(|"+c.s+c.s+"(&))", or(c.f, c.f, and()))
		}
	}
	all := map[string]string{}
	for _, c := range printed { // no two have one text
		if have, ok := all[c.s]; ok && have != shape(c.f) {
			t.Errorf("P7.2: %q: %s and %s", c.s, have, shape(c.f))
		}
		all[c.s] = shape(c.f)
	}
}

// TestCutOff: printed texts cut off at each place, and with a byte more.
func TestCutOff(t *testing.T) { // P7.2
	for _, c := range printed {
		for i := range len(c.s) {
			refuse(t, c.s[:i])
			if i > 0 {
				refuse(t, c.s[i:])
			}
		}
		for i := range 256 {
			b := string([]byte{byte(i)})
			refuse(t, c.s+b)
			refuse(t, b+c.s)
		}
		refuse(t, c.s+c.s)
		refuse(t, "("+c.s+")")
		refuse(t, "(&"+c.s)
		refuse(t, "(&"+c.s+"))")
		refuse(t, "(!"+c.s+c.s+")")
	}
}

// telling tells how a byte of a value is printed.
func telling(c byte) string {
	if c < 32 || c > 126 || strings.IndexByte(`*()\`, c) >= 0 {
		return fmt.Sprintf(`\%02x`, c)
	}
	return string([]byte{c})
}

// TestEachByte: every byte in each place of a value, printed, and told otherwise.
func TestEachByte(t *testing.T) { // P7.2, P7.3
	for i := range 256 {
		c := string([]byte{byte(i)})
		s, little, large := telling(byte(i)), fmt.Sprintf(`\%02x`, i), fmt.Sprintf(`\%02X`, i)
		mixed := little[:2] + large[2:]
		for _, around := range [][2]string{{"", ""}, {"", "z"}, {"z", ""}, {"y", "z"}, {"yy ", " zz"}, {"1", "2"}} {
			a, z := around[0], around[1]
			v, told := a+c+z, a+s+z
			read(t, "(cn="+told+")", equal("cn", v))
			read(t, "(cn>="+told+")", greater("cn", v))
			read(t, "(cn<="+told+")", less("cn", v))
			read(t, "(cn="+told+"*)", subs("cn", v, ""))
			read(t, "(cn=*"+told+")", subs("cn", "", v))
			read(t, "(cn=*"+told+"*)", subs("cn", "", v, ""))
			read(t, "(cn=q*"+told+"*"+told+"*r)", subs("cn", "q", v, v, "r"))
			read(t, "(&(sn="+told+")(!(cn="+told+")))", and(equal("sn", v), not(equal("cn", v))))
			for _, other := range []string{little, large, mixed} {
				if other != s {
					other = a + other + z
					for _, text := range []string{"(cn=" + other + ")", "(cn>=" + other + ")", "(cn<=" + other + ")", "(cn=" + other + "*)", "(cn=*" + other + ")", "(cn=q*" + other + "*r)", "(&(cn=*)(!(cn=" + other + ")))"} {
						refuse(t, text)
					}
				}
			}
			if s == c {
				if z != "2" { // else both may be digits
					refuse(t, "(cn="+a+`\`+c+z+")")
				}
				continue
			}
			for _, text := range []string{"(cn>=" + a + c + z + ")", "(cn<=" + a + c + z + ")"} {
				refuse(t, text) // as itself
			}
			if c != "*" { // an asterisk cuts, here
				refuse(t, "(cn="+a+c+z+")")
				refuse(t, "(cn="+a+c+z+"*)")
				refuse(t, "(cn=q*"+a+c+z+")")
			}
		}
	}
}

// TestDigits: each two bytes behind a backslash.
func TestDigits(t *testing.T) { // P7.2
	bytes := map[string]byte{} // by their texts
	for i := range 256 {
		bytes[telling(byte(i))] = byte(i)
	}
	taken := 0
	for i := range 256 {
		for j := range 256 {
			s := string([]byte{'\\', byte(i), byte(j)})
			c, ok := bytes[s]
			if !ok {
				refuse(t, "(cn=a"+s+")")
				refuse(t, "(cn>="+s+"00)")
				refuse(t, "(cn=*"+s+")")
				continue
			}
			taken++
			v := string([]byte{c})
			read(t, "(cn=a"+s+")", equal("cn", "a"+v))
			read(t, "(cn="+s+"0)", equal("cn", v+"0")) // no third one
		}
	}
	if taken != 32+129+4 {
		t.Errorf("%d bytes are told by digits", taken)
	}
}

func TestParseFaults(t *testing.T) { // P7.2
	long := strings.Repeat("v", api.MaxValue+1)
	for _, s := range []string{
		"", " ", "(", ")", "()", "( )", "(())", "(()", "())", ")(", "cn=a", "(cn=a", "cn=a)", "((cn=a))", "((cn=a)", "(cn=a))", "(cn=a)(cn=a)", "\x00", "*", `\`, "(*)", `(\)`,
		"(cn)", "(=)", "(=a)", "(=*)", "(>=a)", "(<=a)", "(=a*b)", "(cn>a)", "(cn<a)", "(cn>)", "(cn<", "(cn~=a)", "(cn:=a)", "(cn:dn:=a)", "(cn>>=a)", "(cn<<=a)", "(cn<>=a)", "(cn><=a)", "(>cn=a)", "(<cn<=a)", "(!cn=a)", "(&cn=a)", "(|cn=a)", "(cn!=a)", // no Attr, no sign
		"(CN=a)", "(Cn=a)", "(cN=a)", "(CN>=a)", "(cN<=a)", "(CN=*)", "(CN=a*)", "(cn =a)", "( cn=a)", "(c n=a)", "(cn >=a)", "(cn =*)", "(0=a)", "(1cn=a)", "(-=a)", "(-cn=a)", "(c_n=a)", "(c.n=a)", "(2.5.4.3=a)", "(cn;x=a)", "(c\u00e4=a)", "(c\x00=a)", "(c*=a)", `(c\6e=a)`, `(\63n=a)`, "(abcdefghijklmnopq=a)", "(ABCDEFGHIJKLMNOP=a)", "(" + strings.Repeat("c", 1000) + "=*)", // what is no type, large letters
		"(cn=a) ", " (cn=a)", "(cn=a)\n", "( &(cn=a))", "(& (cn=a))", "(&(cn=a) )", "(&(cn=a) (sn=b))", "(& )", "( |)", "(! (cn=a))", "(!(cn=a) )", "(!)", "(! )", "(!())", "(&())", "(|())", // blanks between, no Kid
		"(!(cn=a)(sn=b))", "(!(&)(|))", "(!!(cn=a))", "(&|(cn=a))", "(&&)", "(&!)", "(&)&", "(&(cn=a)!)", "(&(cn=a)&)", "(&(cn=a)sn=b)", "(&sn=b(cn=a))", "(!sn=b)", "(&(!))", "(|(cn=a)(!))", "(&(cn=a)(!(sn=b))", "(&(cn=a)(!(sn=b))))", "&(cn=a)", "!(cn=a)", "(^(cn=a))", "(+(cn=a))", "((&)(|))", "(cn=a)(", "(&(", "(&((cn=a)))",
		"(cn=**)", "(cn=***)", "(cn=a**)", "(cn=**a)", "(cn=a**b)", "(cn=*a**)", "(cn=**a*)", "(cn=*a**b*)", "(cn=a*b**)", "(cn=*****************************)", "(cn>=*)", "(cn<=*)", "(cn>=a*)", "(cn<=*a)", "(cn>=a*b)", // empty ones between, an asterisk in a Value
		"(cn=a(b)", "(cn=a)b)", "(cn=()", "(cn=))", "(cn=(b))", "(cn=a*(*b)", "(cn=a*)*b)", "(cn>=()", "(cn<=))",
		`(cn=\)`, `(cn=a\)`, `(cn=\2)`, `(cn=\2a`, `(cn=\2)a)`, `(cn=\*)`, `(cn=\(`, `(cn=\))`, `(cn=\()`, `(cn=\\)`, `(cn=\\5c)`, `(cn=\5)`, `(cn=\5\5c)`, `(cn=\5\63)`, `(cn=\2*)`, `(cn=\*2a)`, `(cn=\2*a)`, `(cn=\2(a)`, // a backslash without its digits
		`(cn=\2A)`, `(cn=\5C)`, `(cn=\0A)`, `(cn=\0D)`, `(cn=\FF)`, `(cn=\fF)`, `(cn=\Ff)`, `(cn=\aB)`, `(cn=\7F)`, `(cn=a*\2A)`, `(cn>=\5C)`, `(cn=\c3\A4)`, // large digits
		`(cn=\61)`, `(cn=\20)`, `(cn=\7e)`, `(cn=\7a)`, `(cn=\30)`, `(cn=\3d)`, `(cn=\26)`, `(cn=\2c)`, `(cn=\2b)`, `(cn=\27)`, `(cn=\5b)`, `(cn=\5d)`, `(cn=a*\61)`, `(cn<=\61)`, // digits where there needn't be
		`(cn=\g0)`, `(cn=\0g)`, `(cn=\x1)`, `(cn=\-1)`, `(cn=\+1)`, `(cn=\ 1)`, `(cn=\1 )`, `(cn=\_1)`, `(cn=\0_)`, `(cn=\n)`, `(cn=\u0000)`, `(cn=\0x)`, "(cn=\\\u0661\u0661)", "(cn=\\\xff\xff)", "(cn=\\``)", "(cn=\\//)", `(cn=\::)`, `(cn=\f:)`, `(cn=\zz)`, `(cn=\zzz)`,
		"(cn=\x00)", "(cn=\n)", "(cn=a\x1f)", "(cn=\x7f)", "(cn=\x80)", "(cn=\xff)", "(cn=\u00e4)", "(cn=a*\t*b)", "(cn=a*\x7f)", "(cn>=\u00e4)", "(\x00cn=a)", "(cn\x00=a)", // bytes as themselves that aren't
		"(cn=" + long + ")", "(cn>=" + long + ")", "(cn<=" + long + ")", "(cn=" + long + "*)", "(cn=*" + long + ")", "(cn=*" + long + "*)", "(cn=a*" + long + "*b)", "(!(cn=" + long + "))", "(&(cn=*)(|(cn=" + long + ")))",
		"(cn=" + strings.Repeat("p*", api.MaxNodes) + "p)", "(cn=" + strings.Repeat("p*", api.MaxNodes) + ")", "(cn=" + strings.Repeat("*p", api.MaxNodes) + ")", "(cn=" + strings.Repeat("*p", api.MaxNodes) + "*)",
		"(&" + strings.Repeat("(cn=a)", api.MaxNodes) + ")", "(|" + strings.Repeat("(&)", api.MaxNodes) + ")", "(|(&)(&" + strings.Repeat("(cn=*)", api.MaxNodes-2) + "))",
		strings.Repeat("(!", api.MaxNodes) + "(cn=a)" + strings.Repeat(")", api.MaxNodes), strings.Repeat("(&", api.MaxNodes+1) + strings.Repeat(")", api.MaxNodes+1), "(&(&)" + strings.Repeat("(|", api.MaxNodes-1) + strings.Repeat(")", api.MaxNodes-1) + ")",
		"(|(&" + strings.Repeat("(c=d)", 9) + ")(!(|" + strings.Repeat("(c=d*)", 8) + ")))",
	} {
		refuse(t, s)
	}
}

// TestParseLong: as many bytes, Subs, nodes as may be, and one more, and far more.
func TestParseLong(t *testing.T) { // P7.2
	for n := range 2 * api.MaxValue {
		for c, told := range map[string]string{"v": "v", "*": `\2a`, `\`: `\5c`, "\xff": `\ff`, "=": "=", " ": " "} {
			v, s := strings.Repeat(c, n), strings.Repeat(told, n)
			for text, f := range map[string]api.Filter{"(cn=" + s + ")": equal("cn", v), "(cn>=" + s + ")": greater("cn", v), "(!(cn<=" + s + "))": not(less("cn", v)), "(cn=x*" + s + ")": subs("cn", "x", v), "(cn=" + s + "*x*y)": subs("cn", v, "x", "y")} {
				if n <= api.MaxValue {
					read(t, text, f)
				} else {
					refuse(t, text)
				}
			}
		}
	}
	for n := range 3 * api.MaxNodes {
		flat, deep := "(&"+strings.Repeat("(cn=a)", n)+")", strings.Repeat("(!", n)+"(cn=*)"+strings.Repeat(")", n)
		if n < api.MaxNodes {
			read(t, flat, and(times(equal("cn", "a"), n)...))
			read(t, deep, within(api.FNot, n, present("cn")))
		} else {
			refuse(t, flat)
			refuse(t, deep)
		}
		parts := "(cn=" + strings.Repeat("p*", n) + "q)"
		if f := subs("cn", append(slices.Repeat([]string{"p"}, n), "q")...); n >= 1 && n < api.MaxNodes {
			read(t, parts, f)
		} else if n >= api.MaxNodes {
			refuse(t, parts)
		}
	}
	for _, c := range []string{"a", "(", ")", "(&", "(!", "(|", "()", "*", "*a", "a*", `\`, `\2a`, `\5c`, "=", ">", ">=", "<=", "&", "!", " ", "\x00", "\xff", "(cn=a)", "(cn=*)", "(&)", "cn=", "(cn=", "(&(cn=a)", "(!(cn=a))"} {
		s := strings.Repeat(c, 1<<20)
		for _, text := range []string{s, "(" + s + ")", "(cn=" + s, "(cn=" + s + ")", "(cn>=" + s + ")", "(cn=*" + s + "*)", "(&" + s, "(&" + s + ")", "(!" + s + ")", "(&(cn=a)" + s + ")", "(" + s + "=a)", "(cn=a)" + s} {
			refuse(t, text)
		}
	}
}

// The texts of types and of values, as patterns.
const (
	typePattern  = `([a-z][-a-z0-9]{0,15})`
	bytePattern  = `(?:[ -'+-\[\]-~]|\\(?:[01][0-9a-f]|2[89a]|5c|7f|[89a-f][0-9a-f]))`
	valuePattern = `(` + bytePattern + `*)`
	subPattern   = `((?:` + bytePattern + `|\*)*)`
)

var (
	plain    = regexp.MustCompile(`^\(` + typePattern + `(=|>=|<=)` + valuePattern + `\)`)
	presence = regexp.MustCompile(`^\(` + typePattern + `=\*\)`)
	pieces   = regexp.MustCompile(`^\(` + typePattern + `=` + subPattern + `\)`)
	escaped  = regexp.MustCompile(`\\..`)
)

// plainly tells the bytes of a value's text.
func plainly(s string) string {
	return escaped.ReplaceAllStringFunc(s, func(e string) string {
		var c byte
		fmt.Sscanf(e[1:], "%02x", &c)
		return string([]byte{c})
	})
}

// modelItem tells the filter without Kids at the front of s, and what is behind it.
func modelItem(s string) (api.Filter, string, bool) {
	if m := presence.FindStringSubmatch(s); m != nil {
		return present(m[1]), s[len(m[0]):], true
	}
	if m := plain.FindStringSubmatch(s); m != nil {
		kind := map[string]int{"=": api.FEqual, ">=": api.FGreater, "<=": api.FLess}[m[2]]
		v := plainly(m[3])
		return api.Filter{Kind: kind, Attr: m[1], Value: v}, s[len(m[0]):], len(v) <= 60
	}
	if m := pieces.FindStringSubmatch(s); m != nil && !strings.Contains(m[2], "**") && strings.Count(m[2], "*") < 20 {
		f, ok := api.Filter{Kind: api.FSubs, Attr: m[1]}, true
		for _, p := range strings.Split(m[2], "*") {
			f.Subs = append(f.Subs, plainly(p))
			ok = ok && len(plainly(p)) <= 60
		}
		return f, s[len(m[0]):], ok
	}
	return api.Filter{}, "", false
}

// model tells the filter whose text s is, by the chapter's words and by another way than the package's: from the front on, with those that aren't closed yet on a heap.
func model(s string) (api.Filter, bool) {
	open := []api.Filter{and()} // holds what is told
	nodes := 0
	for s != "" {
		last := len(open) - 1
		switch at := strings.IndexByte("&|!", s[min(1, len(s)-1)]); {
		case s[0] == ')' && last > 0:
			f := open[last]
			if f.Kind == api.FNot && len(f.Kids) != 1 {
				return api.Filter{}, false
			}
			open, s = open[:last], s[1:]
			open[last-1].Kids = append(open[last-1].Kids, f)
		case s[0] == '(' && at >= 0:
			open, s = append(open, api.Filter{Kind: at + 1}), s[2:]
			nodes++
		default:
			f, rest, ok := modelItem(s)
			if !ok {
				return api.Filter{}, false
			}
			open[last].Kids, s = append(open[last].Kids, f), rest
			nodes++
		}
	}
	if len(open) != 1 || len(open[0].Kids) != 1 || nodes > api.MaxNodes {
		return api.Filter{}, false
	}
	return open[0].Kids[0], true
}

// asModel holds what Parse tells of a text against the model.
func asModel(t *testing.T, s string) bool {
	t.Helper()
	want, ok := model(s)
	if ok {
		read(t, s, want)
	} else {
		refuse(t, s)
	}
	return ok
}

// TestModel: the model takes what was printed.
func TestModel(t *testing.T) {
	for _, c := range printed {
		if f, ok := model(c.s); !ok || shape(f) != shape(c.f) {
			t.Errorf("%q: %s", c.s, shape(f))
		}
	}
}

// TestParseAll: all short texts of telling bytes.
func TestParseAll(t *testing.T) { // P7.2
	for _, c := range []struct {
		alphabet, begin, end string
		most, few            int
	}{
		{"(&|!)a=*", "", "", 6, 10},
		{"(&!)", "", "", 9, 8},
		{"a=*><", "(", ")", 7, 100},
		{`*\25aA)(`, "(c=", ")", 6, 100},
		{`cC5\`, "(c=", "*)", 6, 100},
		{`fF7\`, "(c>=", ")", 6, 100},
		{"()&!|", "(&", "(c=*))", 7, 10},
		{"()=a*", "(!", ")", 7, 10},
	} {
		filters := 0
		for size := range c.most + 1 {
			b := make([]byte, size)
			count := 1
			for range size {
				count *= len(c.alphabet)
			}
			for i := range count {
				for j, n := 0, i; j < size; j, n = j+1, n/len(c.alphabet) {
					b[j] = c.alphabet[n%len(c.alphabet)]
				}
				if asModel(t, c.begin+string(b)+c.end) {
					filters++
				}
			}
			if t.Failed() {
				return
			}
		}
		if filters < c.few {
			t.Errorf("only %d filters of %q", filters, c.alphabet)
		}
	}
}

// value tells a value by chance.
func value(r *rand.Rand) string {
	v := make([]byte, r.Intn(1+r.Intn(api.MaxValue+1)))
	for i := range v {
		v[i] = byte(r.Intn(256))
		if few := `*()\=<>&|! a25cFf`; r.Intn(2) == 0 {
			v[i] = few[r.Intn(len(few))]
		}
	}
	return string(v)
}

// item tells a filter without Kids by chance.
func item(r *rand.Rand) api.Filter {
	types := []string{"a", "cn", "sn", "c-1", "x-", "userpassword", "abcdefghijklmnop"}
	a := types[r.Intn(len(types))]
	switch r.Intn(5) {
	case 0:
		return equal(a, value(r))
	case 1:
		return greater(a, value(r))
	case 2:
		return less(a, value(r))
	case 3:
		return present(a)
	}
	l := []string{value(r)}
	for range r.Intn(1 + r.Intn(api.MaxNodes-1)) {
		l = append(l, "p"+value(r))
		l[len(l)-1] = l[len(l)-1][:min(len(l[len(l)-1]), api.MaxValue)]
	}
	if l = append(l, value(r)); strings.Join(l, "") == "" {
		l[r.Intn(2)] = "*"
	}
	return subs(a, l...)
}

// some tells a filter by chance, of n nodes.
func some(r *rand.Rand, n int) api.Filter {
	if n == 1 {
		return []api.Filter{and(), or(), item(r), item(r), item(r), item(r)}[r.Intn(6)]
	}
	if r.Intn(4) == 0 {
		return not(some(r, n-1))
	}
	f := api.Filter{Kind: []int{api.FAnd, api.FOr}[r.Intn(2)]}
	for n--; n > 0; {
		size := 1 + r.Intn(n)
		f.Kids = append(f.Kids, some(r, size))
		n -= size
	}
	return f
}

func TestPrintedIsRead(t *testing.T) { // P7.3
	r := rand.New(rand.NewSource(7))
	texts := map[string]string{}
	for range 6000 {
		n := 1 + r.Intn(api.MaxNodes)
		f := some(r, n)
		if got := filter.Count(f); got != n {
			t.Fatalf("P7.1: Count of %s: %d", shape(f), got)
		}
		s := filter.Print(f)
		for _, c := range []byte(s) {
			if c < 32 || c > 126 {
				t.Fatalf("P7.2: %q", s)
			}
		}
		if have, ok := texts[s]; ok && have != shape(f) {
			t.Fatalf("P7.3: %q: %s and %s", s, have, shape(f))
		}
		texts[s] = shape(f)
		read(t, s, f)
		if back, err := filter.Parse(s); err != api.OK || !filter.Same(back, f) || !filter.Same(f, back) {
			t.Errorf("P7.2, P7.3: %q isn't the same", s)
		}
		if !asModel(t, s) {
			t.Errorf("P7.2: %q", s)
		}
		if t.Failed() {
			return
		}
	}
}

// TestParseSpoilt: printed filters with a few bytes changed, set in, taken out, as the model reads them.
func TestParseSpoilt(t *testing.T) { // P7.2
	r := rand.New(rand.NewSource(72))
	const few = "()*\\=<>&|! a25cCF\x00\xff"
	taken := 0
	for range 25000 {
		b := []byte(filter.Print(some(r, 1+r.Intn(1+r.Intn(api.MaxNodes)))))
		for range 1 + r.Intn(3) {
			at := r.Intn(len(b) + 1)
			switch c := few[r.Intn(len(few))]; {
			case r.Intn(3) == 0:
				b = slices.Insert(b, at, c)
			case at < len(b) && r.Intn(2) == 0:
				b = slices.Delete(b, at, at+1)
			case at < len(b):
				b[at] = c
			}
		}
		if asModel(t, string(b)) {
			taken++
		}
		if t.Failed() {
			return
		}
	}
	if taken < 1000 || taken > 20000 {
		t.Errorf("%d of the spoilt ones are filters", taken)
	}
}

// copyOf tells f anew, its lists with spare room.
func copyOf(f api.Filter) api.Filter {
	f.Subs = append(make([]string, 0, len(f.Subs)+3), f.Subs...)
	kids := make([]api.Filter, 0, len(f.Kids)+2)
	for _, kid := range f.Kids {
		kids = append(kids, copyOf(kid))
	}
	f.Kids = kids
	return f
}

// others tells filters that differ from f in one part each.
func others(f api.Filter) []api.Filter {
	change := func(do func(g *api.Filter)) api.Filter {
		g := copyOf(f)
		do(&g)
		return g
	}
	l := []api.Filter{
		change(func(g *api.Filter) { g.Kind++ }),
		change(func(g *api.Filter) { g.Kind = -g.Kind - 1 }),
		change(func(g *api.Filter) { g.Kind += 1 << 32 }),
		change(func(g *api.Filter) { g.Attr += "x" }),
		change(func(g *api.Filter) { g.Attr = strings.ToUpper(g.Attr) + "-" }),
		change(func(g *api.Filter) { g.Value += " " }),
		change(func(g *api.Filter) { g.Value = "\x00" + g.Value }),
		change(func(g *api.Filter) { g.Attr, g.Value = g.Attr+"=", g.Value+"=" }),
		change(func(g *api.Filter) { g.Subs = append(g.Subs, "") }),
		change(func(g *api.Filter) { g.Subs = append([]string{"a"}, g.Subs...) }),
		change(func(g *api.Filter) { g.Kids = append(g.Kids, api.Filter{}) }),
		change(func(g *api.Filter) { g.Kids = append([]api.Filter{present("q")}, g.Kids...) }),
	}
	for i := range f.Subs {
		l = append(l, change(func(g *api.Filter) { g.Subs[i] += "x" }), change(func(g *api.Filter) { g.Subs = slices.Delete(g.Subs, i, i+1) }))
	}
	for i, kid := range f.Kids {
		l = append(l, change(func(g *api.Filter) { g.Kids = slices.Delete(g.Kids, i, i+1) }))
		for _, other := range others(kid) {
			l = append(l, change(func(g *api.Filter) { g.Kids[i] = other }))
		}
	}
	return l
}

func TestSame(t *testing.T) { // P7.2
	whole := api.Filter{Kind: 77, Attr: "a", Value: "b", Subs: []string{"", "c"}, Kids: []api.Filter{present("d"), {Kind: api.FEqual, Kids: []api.Filter{equal("e", "f")}}}}
	l := []api.Filter{{}, whole, and(whole, whole), equal("CN", "a"), present("cn"), and(), not(), subs("cn", "a", "b"), and(subs("cn", "", "b", ""), not(equal("sn", "b")))}
	for _, c := range printed {
		if len(c.f.Subs) < 6 && len(c.f.Kids) < 6 && filter.Count(c.f) < 6 {
			l = append(l, c.f)
		}
	}
	for _, f := range l {
		g := copyOf(f)
		if !filter.Same(f, f) || !filter.Same(f, g) || !filter.Same(g, f) { // a list without anything is as good as none
			t.Errorf("P7.2: %s isn't the same as itself", shape(f))
		}
		for _, other := range others(f) {
			if shape(other) != shape(f) && (filter.Same(f, other) || filter.Same(other, f)) {
				t.Errorf("P7.2: %s is the same as %s", shape(f), shape(other))
			}
		}
		for _, other := range l {
			if same := shape(f) == shape(other); filter.Same(f, other) != same {
				t.Errorf("P7.2: %s, %s: not %v", shape(f), shape(other), same)
			}
		}
	}
	for i, c := range [][2]api.Filter{
		{equal("cn", "a"), equal("cn", "A")}, // bytes, not what they match
		{equal("cn", "a"), equal("cn", "a ")},
		{equal("cn", "a"), equal("CN", "a")},
		{equal("cn", "a"), greater("cn", "a")},
		{and(present("a"), present("b")), and(present("b"), present("a"))},
		{and(present("a")), or(present("a"))},
		{and(present("a")), and(present("a"), present("a"))},
		{and(and(), and()), and(and(and()))},
		{and(present("a")), present("a")},
		{subs("cn", "a", "b"), subs("cn", "b", "a")},
		{subs("cn", "a", ""), subs("cn", "a")},
		{subs("cn", "ab", ""), subs("cn", "a", "b")},
		{subs("cn", "", ""), present("cn")},
		{api.Filter{Attr: "ab"}, api.Filter{Attr: "a", Value: "b"}},
		{api.Filter{Subs: []string{""}}, api.Filter{}},
		{api.Filter{Kids: make([]api.Filter, 1)}, api.Filter{}},
	} {
		if filter.Same(c[0], c[1]) || filter.Same(c[1], c[0]) {
			t.Errorf("P7.2: row %d is the same", i)
		}
	}
	if a, b := within(api.FNot, 1<<16-1, present("a")), within(api.FNot, 1<<16-1, present("b")); filter.Same(a, b) || !filter.Same(a, a) || !filter.Same(within(api.FEqual, 1<<15, and()), within(api.FEqual, 1<<15, and())) {
		t.Error("P7.2: deep ones")
	}
}

// TestOwnMemory: what Parse and Print tell is theirs to whom it is told, spare room and all.
func TestOwnMemory(t *testing.T) { // what holds everywhere
	v := strings.Repeat("v", 40)
	s := strings.Clone("(&(userpassword=" + v + ")(cn=" + v + "*" + v + "*)(|(description>=" + v + ")(!(abcdefghijklmnop=*)))(sn=a*b)(&))")
	inside := func(p, s string) bool {
		at := uintptr(unsafe.Pointer(unsafe.StringData(p)))
		begin := uintptr(unsafe.Pointer(unsafe.StringData(s)))
		return p != "" && at >= begin && at < begin+uintptr(len(s))
	}
	first, _ := filter.Parse(s)
	second, err := filter.Parse(s)
	want := shape(first)
	if err != api.OK || shape(second) != want {
		t.Fatalf("P7.2: %s, %v", shape(second), err)
	}
	var lists [][]api.Filter
	var texts [][]string
	var walk func(f api.Filter)
	walk = func(f api.Filter) {
		for _, p := range append([]string{f.Attr, f.Value}, f.Subs...) {
			if inside(p, s) {
				t.Errorf("%q keeps what was handed in", p)
			}
		}
		lists, texts = append(lists, f.Kids), append(texts, f.Subs)
		for _, kid := range f.Kids {
			walk(kid)
		}
	}
	walk(first)
	walk(second)
	for i, l := range lists { // into the spare room, too
		for j := range l[:cap(l)] {
			l[:cap(l)][j] = api.Filter{Kind: i + 1, Value: "w"}
		}
	}
	for i, l := range texts {
		for j := range l[:cap(l)] {
			l[:cap(l)][j] = fmt.Sprint(i)
		}
	}
	for i, l := range lists {
		for _, f := range l[:cap(l)] {
			if f.Kind != i+1 {
				t.Errorf("lists %d and %d share memory", i, f.Kind-1)
			}
		}
	}
	for i, l := range texts {
		for _, p := range l[:cap(l)] {
			if p != fmt.Sprint(i) {
				t.Errorf("texts %d and %s share memory", i, p)
			}
		}
	}
	if third, err := filter.Parse(s); shape(third) != want || err != api.OK {
		t.Errorf("told otherwise: %s", shape(third))
	}
	f := equal("userpassword", v)
	if got := filter.Print(f); inside(f.Value, got) || inside(f.Attr, got) {
		t.Error("Print keeps what was handed in")
	}
}

// TestNotChanged: what is handed in stays as it was, spare room and all.
func TestNotChanged(t *testing.T) { // what holds everywhere
	parts := append(make([]string, 0, 5), "", "b*", "")
	parts[:5][3], parts[:5][4] = "spare", "room"
	kids := append(make([]api.Filter, 0, 5), subs("cn", parts...), not(less("sn", "\x00")))
	kids[0].Subs = parts
	kids[:5][2] = present("spare")
	f := or(kids...)
	f.Kids = kids
	wrong := and(append(slices.Clone(kids), api.Filter{Subs: parts})...)
	before := fmt.Sprintf("%q %s %s %s", parts[:5], shape(and(kids[:5]...)), shape(f), shape(wrong))
	const text = `(|(cn=*b\2a*)(!(sn<=\00)))`
	for range 2 {
		if !filter.Is(f) || filter.Count(f) != 4 || filter.Print(f) != text || !filter.Same(f, f) || filter.Same(f, wrong) || filter.Is(wrong) || filter.Print(wrong) != "" || filter.Count(wrong) != 5 {
			t.Error("another answer")
		}
		read(t, text, f)
	}
	if now := fmt.Sprintf("%q %s %s %s", parts[:5], shape(and(kids[:5]...)), shape(f), shape(wrong)); now != before {
		t.Errorf("was %s, is %s", before, now)
	}
}
