package sift_test

import (
	"cmp"
	"fmt"
	"math/rand"
	"regexp"
	"slices"
	"strconv"
	"strings"
	"testing"

	"prefect/api"
	"prefect/dn"
	"prefect/filter"
	"prefect/match"
	"prefect/schema"
	"prefect/sift"
)

// What a filter comes to.
const (
	no        = 0
	yes       = 1
	undefined = 2
)

// The types of each syntax.
var (
	texts  = []string{"c", "cn", "dc", "description", "o", "ou", "sn", "title", "uid"}
	exacts = []string{"aci", "entryid", "mail"}
	all    = slices.Concat(texts, exacts, []string{"member", "uidnumber", "userpassword"})
)

// noTypes are types' texts that schema doesn't have.
var noTypes = []string{"x", "l", "cnn", "c-n", "cn-", "cn1", "s", "objectclass", "members", "number", "abcdefghijklmnop"}

func and(l ...api.Filter) api.Filter { return api.Filter{Kind: api.FAnd, Kids: l} }
func or(l ...api.Filter) api.Filter  { return api.Filter{Kind: api.FOr, Kids: l} }
func not(l ...api.Filter) api.Filter { return api.Filter{Kind: api.FNot, Kids: l} }

func equal(a, v string) api.Filter   { return api.Filter{Kind: api.FEqual, Attr: a, Value: v} }
func greater(a, v string) api.Filter { return api.Filter{Kind: api.FGreater, Attr: a, Value: v} }
func less(a, v string) api.Filter    { return api.Filter{Kind: api.FLess, Attr: a, Value: v} }
func present(a string) api.Filter    { return api.Filter{Kind: api.FPresent, Attr: a} }
func subs(a string, l ...string) api.Filter {
	return api.Filter{Kind: api.FSubs, Attr: a, Subs: l}
}

// attr makes an attribute.
func attr(name string, values ...string) api.Attr { return api.Attr{Name: name, Values: values} }

// with makes a list of one attribute.
func with(name string, values ...string) []api.Attr { return []api.Attr{attr(name, values...)} }

// parse tells the filter whose text s is.
func parse(t *testing.T, s string) api.Filter {
	t.Helper()
	f, err := filter.Parse(s)
	if err != api.OK {
		t.Fatalf("%q is no filter", s)
	}
	return f
}

// value asks what f comes to, and whether it passes.
func value(t *testing.T, f api.Filter, l []api.Attr, want int) {
	t.Helper()
	if got := sift.Value(f, l); got != want {
		t.Errorf("P8.1: %.200q %.200q of %.200q: %d; want %d", filter.Print(f), fmt.Sprint(f), l, got, want)
	}
	if got := sift.Pass(f, l); got != (want == yes) {
		t.Errorf("P8.1, P8.3: Pass of %.200q %.200q of %.200q: %v", filter.Print(f), fmt.Sprint(f), l, got)
	}
}

// made asks whether v is made of parts.
func made(t *testing.T, name string, parts []string, v string, want bool) {
	t.Helper()
	if got := sift.Subs(name, parts, v); got != want {
		t.Errorf("P8.2: Subs of %s, %.200q, %.200q: not %v", name, parts, v, want)
	}
}

// entry has attributes of each syntax.
func entry() []api.Attr {
	return []api.Attr{
		attr("aci", "Grant r"),
		attr("cn", "Abc", " D  e "),
		attr("mail", "a@B", "c  d"),
		attr("member", "CN=A  b,o=C", "sn=b+cn=a"),
		attr("sn", "m"),
		attr("uidnumber", "9"),
		attr("userpassword", "\x00\xff", "Ab"),
	}
}

func TestKinds(t *testing.T) { // P8.1
	for s, want := range map[string]int{
		"(cn=*)": yes, "(aci=*)": yes, "(member=*)": yes, "(uidnumber=*)": yes, "(userpassword=*)": yes, "(mail=*)": yes,
		"(ou=*)": no, "(title=*)": no, "(entryid=*)": no, "(x=*)": undefined, "(objectclass=*)": undefined,

		"(cn=Abc)": yes, "(cn=aBC)": yes, "(cn= abc  )": yes, "(cn=d e)": yes, "(cn=D   E)": yes, "(cn=de)": no, "(cn=ab)": no, "(cn=m)": no, "(sn=M)": yes, "(sn=abc)": no,
		"(mail=a@B)": yes, "(mail=a@b)": no, "(mail=c  d)": yes, "(mail=c d)": no, "(mail= a@B)": no,
		"(aci=Grant r)": yes, "(aci=grant r)": no,
		"(uidnumber=9)": yes, "(uidnumber=8)": no, "(uidnumber=-9)": no, "(uidnumber=90)": no,
		`(userpassword=\00\ff)`: yes, "(userpassword=Ab)": yes, "(userpassword=ab)": no, `(userpassword=\00)`: no,
		"(member=cn=a b,o=c)": yes, "(member=CN=a B,O=C)": yes, "(member=cn=A+sn=B)": yes, "(member=o=c,cn=a b)": no, "(member=cn=a)": no,
		"(ou=a)": no, "(x=a)": undefined, "(cn=)": undefined, "(ou=)": undefined, "(cn= )": undefined, `(cn=\09)`: undefined, `(cn=\ff)`: undefined, `(mail=\7f)`: undefined, "(mail= )": no,
		"(uidnumber=09)": undefined, "(uidnumber=a)": undefined, "(member=a)": undefined, "(member=)": undefined, "(userpassword=)": undefined, "(title=)": undefined,

		"(cn>=abc)": yes, "(cn>=ABD)": yes, "(cn>=D  E)": yes, "(cn>=d f)": no, "(cn>=z)": no, "(sn>=L)": yes, "(sn>=m)": yes, "(sn>=N)": no,
		"(mail>=c)": yes, "(mail>=c  e)": no, "(aci>=G)": yes, "(aci>=a)": no, "(aci>=Grant r)": yes,
		"(uidnumber>=9)": yes, "(uidnumber>=8)": yes, "(uidnumber>=10)": no, "(uidnumber>=-10)": yes, "(uidnumber>=100)": no,
		"(ou>=a)": no, "(x>=a)": undefined, "(cn>=)": undefined, "(cn>= )": undefined, "(uidnumber>=09)": undefined, "(uidnumber>=1a)": undefined,
		"(member>=cn=a b,o=c)": undefined, "(member>=cn=a)": undefined, "(userpassword>=Ab)": undefined, `(userpassword>=\00)`: undefined, `(mail>=\ff)`: undefined,

		"(cn<=abc)": yes, "(cn<=ABB)": no, "(cn<=a)": no, "(cn<=z)": yes, "(sn<=L)": no, "(sn<=m)": yes, "(sn<=N)": yes,
		"(mail<=a@B)": yes, "(mail<=a@A)": no, "(aci<=Z)": yes, "(aci<=Grant q)": no,
		"(uidnumber<=9)": yes, "(uidnumber<=8)": no, "(uidnumber<=10)": yes, "(uidnumber<=100)": yes, "(uidnumber<=-10)": no,
		"(ou<=z)": no, "(x<=a)": undefined, "(cn<=)": undefined, "(cn<= )": undefined, "(uidnumber<=09)": undefined,
		"(member<=cn=z)": undefined, "(userpassword<=z)": undefined, `(cn<=\00)`: undefined,

		"(cn=A*)": yes, "(cn=a*C)": yes, "(cn=*B*)": yes, "(cn=*c)": yes, "(cn=d   E*)": yes, "(cn=*b)": no, "(cn=b*)": no, "(cn=c*a)": no, "(cn=*c*a*)": no,
		"(mail=a*B)": yes, "(mail=A*)": no, "(mail=*  *)": yes, "(mail=*   *)": no, "(aci=Grant*)": yes, "(aci=grant*)": no,
		"(ou=a*)": no, "(x=a*)": undefined, "(member=cn*)": undefined, "(userpassword=A*)": undefined, "(uidnumber=9*)": undefined, "(uidnumber=*9)": undefined,
		`(cn=\ff*)`: no, `(cn=a*\00*)`: no, // parts aren't values

		"(&)": yes, "(|)": no, "(!(cn=abc))": no, "(!(cn=x))": yes, "(!(x=a))": undefined,
		"(&(cn=a*)(!(sn=b)))": yes, "(&(cn=a*)(!(sn=m)))": no, "(|(cn=x)(uidnumber>=9))": yes, "(|(cn=x)(uidnumber>=10))": no,
	} {
		value(t, parse(t, s), entry(), want)
	}
}

// leaves are filters that come to 0, 1, 2, of an entry with cn a.
var leaves = []api.Filter{equal("cn", "b"), equal("cn", "a"), equal("x", "a")}

// order is where 0, 1, 2 stand among what is less and more true.
var order = []int{0, 2, 1}

// kids tells all lists of n numbers from 0 to 2.
func kids(n int) [][]int {
	l := [][]int{nil}
	for range n {
		var more [][]int
		for _, k := range l {
			for v := range 3 {
				more = append(more, append(slices.Clone(k), v))
			}
		}
		l = more
	}
	return l
}

// TestTogether: each kind with Kids, of all Kids of up to five.
func TestTogether(t *testing.T) { // P8.1, P8.3
	l := with("cn", "a")
	for v, f := range leaves {
		value(t, f, l, v)
		value(t, not(f), l, []int{yes, no, undefined}[v])
		value(t, not(not(f)), l, v)
	}
	value(t, and(), l, yes)
	value(t, or(), l, no)
	value(t, and(), nil, yes)
	value(t, or(), nil, no)
	value(t, not(and()), nil, no)
	value(t, not(or()), nil, yes)
	for n := range 6 {
		for _, k := range kids(n) {
			least, most := order[yes], order[no]
			var fs, nots []api.Filter
			for _, v := range k {
				least, most = min(least, order[v]), max(most, order[v])
				fs, nots = append(fs, leaves[v]), append(nots, not(leaves[v]))
			}
			value(t, and(fs...), l, order[least])
			value(t, or(fs...), l, order[most])
			value(t, not(or(nots...)), l, order[least])
			value(t, not(and(nots...)), l, order[most])
			value(t, and(and(fs...), and()), l, order[least])
			value(t, or(or(), or(fs...)), l, order[most])
		}
	}
}

// TestBeside: a Kid that is undefined beside others, in either order.
func TestBeside(t *testing.T) { // P8.1, P8.3
	l := with("cn", "a")
	for _, c := range []struct {
		s    string
		want int
	}{
		{"(&(x=*)(cn=a))", undefined},
		{"(&(cn=a)(x=*))", undefined},
		{"(&(x=*)(cn=b))", no},
		{"(&(cn=b)(x=*))", no},
		{"(&(x=*))", undefined},
		{"(&(x=*)(x=*))", undefined},
		{"(&(cn=a)(x=*)(cn=a)(cn=b))", no},
		{"(|(x=*)(cn=a))", yes},
		{"(|(cn=a)(x=*))", yes},
		{"(|(x=*)(cn=b))", undefined},
		{"(|(cn=b)(x=*))", undefined},
		{"(|(x=*))", undefined},
		{"(|(x=*)(x=*))", undefined},
		{"(|(cn=b)(x=*)(cn=b)(cn=a))", yes},
		{"(!(&(x=*)(cn=b)))", yes},
		{"(!(|(x=*)(cn=a)))", no},
		{"(!(|(x=*)(cn=b)))", undefined},
		{"(!(!(!(x=*))))", undefined},
		{"(|(&(x=*)(cn=a))(!(&(x=*)(cn=a))))", undefined}, // one of both would be true
		{"(|(x=*)(!(x=*)))", undefined},
		{"(&(|(x=*)(cn=a))(!(cn=b)))", yes},
	} {
		value(t, parse(t, c.s), l, c.want)
	}
}

// TestUndefined: whatever is undefined doesn't pass, nor does its FNot, whether or not l has the attribute.
func TestUndefined(t *testing.T) { // P8.1, P8.3
	var l []api.Filter
	for _, name := range noTypes {
		l = append(l, present(name), equal(name, "a"), greater(name, "a"), less(name, "a"), subs(name, "a", ""), subs(name, "", "a", ""))
	}
	for _, name := range []string{"member", "userpassword"} {
		l = append(l, greater(name, "cn=a"), less(name, "cn=a"), subs(name, "cn=a", ""), subs(name, "", "c", ""))
	}
	l = append(l, subs("uidnumber", "7", ""), subs("uidnumber", "", "7"), subs("uidnumber", "", "7", ""), subs("uidnumber", "a", ""))
	for _, name := range all {
		for _, v := range []string{"", " ", "\x00", "\x1f", "\x7f", "a\xff", "\u00e4", "07", "-0", "+7", "7 ", "a", "cn=a", "cn", "cn=a,", strings.Repeat("7", 16)} {
			if schema.Check(name, v) != api.OK {
				l = append(l, equal(name, v), greater(name, v), less(name, v))
			}
		}
	}
	for _, f := range l {
		for _, values := range [][]string{nil, {"a"}, {"cn=a"}, {"7"}, {f.Value}, {"cn=a", f.Value, "7"}} {
			for _, list := range [][]api.Attr{nil, with(f.Attr, values...), with("sn", values...), {attr("a", "a"), attr(f.Attr, values...)}} {
				value(t, f, list, undefined)
				value(t, not(f), list, undefined)
				value(t, and(f, or()), list, no)
				value(t, or(and(), f), list, yes)
			}
		}
	}
	if len(l) < 200 {
		t.Errorf("only %d filters", len(l))
	}
}

// TestChecks: for each type, what schema's Check refuses is undefined, all else is not.
func TestChecks(t *testing.T) { // P8.1
	const most = api.MaxValue
	for _, name := range all {
		sixty := strings.Repeat("7", most)
		for _, c := range []struct {
			v    string
			good string // the letters of the syntaxes whose value it can be
		}{
			{"", ""}, {" ", "eb"}, {"   ", "eb"}, {"a", "teb"}, {" a ", "teb"}, {"~", "teb"}, {"a\x7f", "b"}, {"a\x1f", "b"}, {"\xff", "b"},
			{"7", "teib"}, {"-7", "teib"}, {"0", "teib"}, {"-0", "teb"}, {"07", "teb"}, {"999999999999999", "teib"}, {"1000000000000000", "teb"},
			{"cn=a", "tebn"}, {"x=a", "tebn"}, {"cn=\xff", "bn"}, {"cn=a,", "teb"}, {sixty, "teb"}, {sixty[:most-3] + "cn=", "teb"}, {"cn=" + sixty[:most-3], "tebn"},
		} {
			syntax := syntaxOf(name)
			comes := no
			if !strings.Contains(c.good, syntax) {
				comes = undefined
			}
			value(t, equal(name, c.v), nil, comes)
			if strings.Contains("bn", syntax) {
				comes = undefined
			}
			value(t, greater(name, c.v), nil, comes)
			value(t, less(name, c.v), nil, comes)
		}
	}
}

// syntaxOf tells a letter for the syntax of a type.
func syntaxOf(name string) string {
	switch {
	case slices.Contains(texts, name):
		return "t"
	case slices.Contains(exacts, name):
		return "e"
	}
	return map[string]string{"member": "n", "uidnumber": "i", "userpassword": "b"}[name]
}

// TestNoFilter: what isn't filter's Is.
func TestNoFilter(t *testing.T) { // P8.1, P8.3
	long := strings.Repeat("a", api.MaxValue+1)
	leaf := present("cn")
	deep := leaf
	for range 1 << 16 {
		deep = not(deep)
	}
	large := and()
	for range 60 { // 2^60 nodes
		large = or(large, large)
	}
	bad := []api.Filter{
		{},
		{Attr: "cn", Value: "a"},
		equal("CN", "a"), // filters have small letters
		equal("Cn", "a"),
		present("CN"),
		present("cN"),
		greater("CN", "a"),
		less("Cn", "a"),
		subs("CN", "a", ""),
		equal("", "a"),
		present(""),
		equal("1", "a"),
		equal("cn ", "a"),
		equal("cn", long),
		equal("userpassword", long),
		greater("cn", long),
		less("cn", long),
		{Kind: api.FPresent, Attr: "cn", Value: "a"},
		{Kind: api.FPresent, Attr: "cn", Kids: []api.Filter{leaf}},
		{Kind: api.FEqual, Attr: "cn", Value: "a", Subs: []string{"a"}},
		{Kind: api.FEqual, Attr: "cn", Value: "a", Kids: []api.Filter{leaf}},
		{Kind: api.FSubs, Attr: "cn", Value: "a", Subs: []string{"a", ""}},
		subs("cn"),
		subs("cn", "a"),
		subs("cn", ""),
		subs("cn", "", ""),
		subs("cn", "", "", ""),
		subs("cn", "a", "", "a"),
		subs("cn", "", long),
		subs("cn", long, ""),
		subs("cn", "", long, ""),
		subs("cn", slices.Repeat([]string{"a"}, api.MaxNodes+1)...),
		not(),
		not(leaf, leaf),
		not(not()),
		{Kind: api.FAnd, Attr: "cn"},
		{Kind: api.FOr, Value: "a"},
		{Kind: api.FNot, Subs: []string{"a"}, Kids: []api.Filter{leaf}},
		and(slices.Repeat([]api.Filter{leaf}, api.MaxNodes)...),
		or(slices.Repeat([]api.Filter{leaf}, api.MaxNodes)...),
		and(slices.Repeat([]api.Filter{leaf}, 1<<20)...),
		deep,
		large,
	}
	for _, kind := range []int{0, -1, 9, 10, 255, 256 + api.FEqual, 1 << 40, -1 << 63} {
		bad = append(bad, api.Filter{Kind: kind}, api.Filter{Kind: kind, Attr: "cn"}, api.Filter{Kind: kind, Attr: "cn", Value: "a"}, api.Filter{Kind: kind, Kids: []api.Filter{leaf}})
	}
	l := []api.Attr{attr("CN", "a"), attr("cn", "a", long), attr("", "a"), attr("userpassword", long), attr("1", "a")}
	for _, f := range bad {
		if filter.Is(f) {
			t.Errorf("%s is a filter", filter.Print(f))
		}
		for _, g := range []api.Filter{f, not(f), and(f), or(f), or(leaf, f), or(f, leaf), and(or(), f), and(f, or()), not(and(f, leaf))} { // the whole is none, whatever the others are
			if got := sift.Value(g, l); got != undefined {
				t.Errorf("P8.1: %.200q in kind %d: %d", fmt.Sprint(f.Kind, f.Attr, f.Subs, len(f.Kids)), g.Kind, got)
			}
			if sift.Pass(g, l) {
				t.Errorf("P8.3: %.200q passes in kind %d", fmt.Sprint(f.Kind, f.Attr, f.Subs, len(f.Kids)), g.Kind)
			}
		}
	}
	most := and(slices.Repeat([]api.Filter{leaf}, api.MaxNodes-1)...)
	value(t, most, l, yes)
	value(t, equal("userpassword", long[1:]), with("userpassword", long[1:]), yes)
	value(t, subs("cn", slices.Repeat([]string{"a"}, api.MaxNodes)...), with("cn", strings.Repeat("a", api.MaxNodes)), yes)
	value(t, subs("cn", slices.Repeat([]string{"a"}, api.MaxNodes)...), with("cn", strings.Repeat("a", api.MaxNodes-1)), no)
}

// TestFirst: which attribute of l is asked.
func TestFirst(t *testing.T) { // P8.1
	ask := func(l []api.Attr, want int) {
		t.Helper()
		for _, f := range []api.Filter{present("cn"), equal("cn", "A"), greater("cn", "a"), less("cn", "a "), subs("cn", "A", ""), subs("cn", "", "a", "")} {
			value(t, f, l, want)
			value(t, not(f), l, yes-want)
		}
	}
	ask(nil, no)
	ask([]api.Attr{}, no)
	ask(with("sn", "a"), no)
	ask(with("cn"), no)
	ask([]api.Attr{{Name: "cn", Values: []string{}}}, no)
	ask(with("cn", "a"), yes)
	ask([]api.Attr{attr("aci", "b"), attr("cn", "a"), attr("sn", "c")}, yes)
	ask([]api.Attr{attr("sn", "c"), attr("cn", "a"), attr("aci", "b")}, yes) // in whatever order
	ask([]api.Attr{attr("cn", "a"), attr("cn")}, yes)
	ask([]api.Attr{attr("cn"), attr("cn", "a")}, no) // the first one counts, though it has no value
	ask([]api.Attr{attr("sn"), attr("cn", "a"), attr("sn", "a"), attr("cn", "b")}, yes)
	ask([]api.Attr{attr("CN", "a")}, no) // another Name
	ask([]api.Attr{attr("Cn", "b"), attr("cn", "a")}, yes)
	ask([]api.Attr{attr("CN"), attr("cn", "a")}, yes)
	ask([]api.Attr{attr("c", "a"), attr("cnn", "a"), attr("", "a"), attr("cn ", "a")}, no)
	twice := []api.Attr{attr("cn", "b", "c"), attr("sn", "a"), attr("cn", "a")}
	for s, want := range map[string]int{"(cn=*)": yes, "(cn=a)": no, "(cn=b)": yes, "(cn=c)": yes, "(cn<=a)": no, "(cn<=b)": yes, "(cn>=c)": yes, "(cn=a*)": no, "(cn=*c)": yes, "(sn=a)": yes} {
		value(t, parse(t, s), twice, want)
	}
	many := with("cn", append(slices.Repeat([]string{"b"}, 1<<12), "a")...) // whichever value it is
	ask(many, yes)
	for i := range 1 << 12 {
		many = append(many, attr("x"+strconv.Itoa(i), "v"))
	}
	ask(many, yes)
	value(t, present("cn"), with("cn", ""), yes) // an empty value is one
	value(t, present("uidnumber"), with("uidnumber", "a"), yes)
}

// TestValues: one value that holds is enough; what is in l is taken as it is, also what can't be there.
func TestValues(t *testing.T) { // P8.1
	for _, c := range []struct {
		f      api.Filter
		values []string
		want   int
	}{
		{equal("cn", "a"), []string{"b", "c", " A "}, yes},
		{equal("cn", "a"), []string{"b", "c", "aa", ""}, no},
		{equal("cn", "a b"), []string{"A     B"}, yes},
		{equal("cn", "a b"), []string{"ab", "a\tb", "b a"}, no},
		{equal("cn", "a"), []string{"a\x00", "\xff"}, no},
		{equal("mail", " "), []string{"  ", ""}, no},
		{equal("mail", " "), []string{" "}, yes},
		{equal("member", "cn=a,o=b"), []string{"cn", "", `CN=\41,O= b`}, no}, // the last one is no name
		{equal("member", "cn=a,o=b"), []string{"cn", "", `CN=\41,O=\ b`}, yes},
		{equal("member", "sn=b+cn=a"), []string{"cn=a,sn=b", "CN=A+SN=B"}, yes},
		{equal("member", "sn=b+cn=a"), []string{"cn=a,sn=b", "CN=B+SN=A"}, no},
		{equal("uidnumber", "7"), []string{"07", "7 ", "-7"}, no},
		{equal("uidnumber", "7"), []string{"07", "7"}, yes},
		{equal("userpassword", "a"), []string{"A", "a "}, no},
		{equal("userpassword", " a"), []string{"a", " a"}, yes},
		{greater("cn", "b"), []string{"a", "aa"}, no},
		{greater("cn", "b"), []string{"a", "B"}, yes},
		{greater("cn", "b"), []string{"a", "ba"}, yes},
		{greater("cn", "b"), []string{""}, no},
		{less("cn", "b"), []string{"ba", "c"}, no},
		{less("cn", "b"), []string{"c", " B"}, yes},
		{less("cn", "b"), []string{""}, yes},
		{greater("mail", "a"), []string{"Z", " b"}, no},
		{greater("mail", "a"), []string{"a "}, yes},
		{less("mail", "a"), []string{"a ", "b"}, no},
		{less("mail", "a"), []string{"b", "Z"}, yes},
		{greater("uidnumber", "10"), []string{"9"}, no},
		{greater("uidnumber", "10"), []string{"9x"}, yes}, // no number: as texts
		{less("uidnumber", "10"), []string{"9"}, yes},
		{less("uidnumber", "10"), []string{"9x"}, no},
		{less("uidnumber", "-10"), []string{"-9", "0", "10"}, no},
		{less("uidnumber", "-10"), []string{"-9", "-11"}, yes},
		{greater("uidnumber", "-10"), []string{"-11", "-9"}, yes},
		{greater("uidnumber", "-10"), []string{"-11", "-100"}, no},
		{subs("cn", "a", "b"), []string{"a", "b", "ba"}, no},
		{subs("cn", "a", "b"), []string{"a", "b", "A x B "}, yes},
		{subs("mail", "a", "b"), []string{"A-b", "a-B"}, no},
		{subs("mail", "a", "b"), []string{"A-b", "a-b"}, yes},
		{subs("mail", "", " ", ""), []string{"ab"}, no},
		{subs("mail", "", " ", ""), []string{"ab "}, yes},
		{subs("cn", "", " ", ""), []string{"ab ", " ab"}, no}, // no blank is left
		{subs("cn", "", " ", ""), []string{"ab ", "a   b"}, yes},
		{subs("cn", "a", "\xff"), []string{"a\xff"}, yes},
	} {
		value(t, c.f, with(c.f.Attr, c.values...), c.want)
		value(t, c.f, nil, no)
		slices.Reverse(c.values)
		value(t, c.f, with(c.f.Attr, c.values...), c.want)
	}
}

// TestNumbers: each number beside each other one.
func TestNumbers(t *testing.T) { // P8.1
	numbers := []int64{-999999999999999, -100000000000000, -1 << 32, -100, -99, -10, -9, -1, 0, 1, 2, 9, 10, 11, 99, 100, 101, 1 << 31, 1 << 32, 99999999999999, 999999999999999}
	yesno := func(b bool) int {
		if b {
			return yes
		}
		return no
	}
	for _, a := range numbers {
		for _, b := range numbers {
			v, w := strconv.FormatInt(a, 10), strconv.FormatInt(b, 10)
			l := with("uidnumber", v)
			value(t, greater("uidnumber", w), l, yesno(a >= b))
			value(t, less("uidnumber", w), l, yesno(a <= b))
			value(t, equal("uidnumber", w), l, yesno(a == b))
			value(t, and(greater("uidnumber", w), less("uidnumber", w)), l, yesno(a == b))
			for _, name := range slices.Concat(texts, exacts) { // of no other syntax
				l := with(name, v)
				value(t, greater(name, w), l, yesno(v >= w))
				value(t, less(name, w), l, yesno(v <= w))
			}
			for _, name := range []string{"member", "userpassword"} {
				value(t, greater(name, w), with(name, v), undefined)
				value(t, less(name, w), with(name, v), undefined)
			}
		}
	}
}

// TestSubsKinds: FSubs of each type.
func TestSubsKinds(t *testing.T) { // P8.1
	for _, name := range all {
		comes := yes
		if strings.Contains("nbi", syntaxOf(name)) {
			comes = undefined
		}
		for _, f := range []api.Filter{subs(name, "7", ""), subs(name, "", "7"), subs(name, "", "7", ""), subs(name, "7", "7"), subs(name, "7", "7", "")} {
			value(t, f, with(name, "77"), comes)
			value(t, f, with(name, "8"), comes&undefined) // no, or undefined
			value(t, f, with(name), comes&undefined)
			value(t, f, nil, comes&undefined)
		}
	}
}

// row is what Subs is asked, its parts written with | between, and what it answers.
type row struct {
	name, parts, v string
	want           bool
}

// ask asks for each row.
func ask(t *testing.T, rows []row) {
	t.Helper()
	for _, c := range rows {
		made(t, c.name, strings.Split(c.parts, "|"), c.v, c.want)
	}
}

func TestSubsFew(t *testing.T) { // P8.2
	for _, name := range append(slices.Concat(all, noTypes), "", " ", "CN", "Cn", "\xff", "cn;x") {
		lower := dn.Lower(name)
		text := slices.Contains(texts, lower)
		made(t, name, nil, "", true) // no part
		made(t, name, []string{}, "", true)
		made(t, name, nil, "a", false)
		made(t, name, nil, "\x00", false)
		made(t, name, nil, " ", text)
		made(t, name, nil, "    ", text)
		made(t, name, nil, " \t ", false)
		made(t, name, nil, "cn=a", false)
		for _, v := range []string{"", " ", "a", "ab", "cn=a"} { // one
			for _, s := range []string{"", " ", "a", "ab", "cn=a", v} {
				made(t, name, []string{s}, v, false)
			}
		}
		for _, v := range []string{"", " ", "  ", "a", "A b ", "\xff", "cn=a", strings.Repeat("a ", 99)} { // empty ones
			for n := 2; n < 5; n++ {
				made(t, name, make([]string, n), v, true)
			}
		}
	}
}

func TestSubsTwo(t *testing.T) { // P8.2
	for _, name := range []string{"cn", "mail", "userpassword", "uidnumber", "member", "x", "", "CN"} {
		ask(t, []row{
			{name, "abc|", "abc", true},
			{name, "abc|", "abcd", true},
			{name, "abc|", "ab", false},
			{name, "abc|", "", false},
			{name, "abc|", "zabc", false},
			{name, "|abc", "abc", true},
			{name, "|abc", "zabc", true},
			{name, "|abc", "bc", false},
			{name, "|abc", "abcd", false},
			{name, "ab|cd", "abcd", true}, // just as long as its parts
			{name, "ab|cd", "ab-cd", true},
			{name, "ab|cd", "acd", false},
			{name, "ab|cd", "abd", false},
			{name, "ab|cd", "cdab", false},
			{name, "ab|bc", "abc", false}, // a byte shorter: they would lie over one another
			{name, "ab|bc", "abbc", true},
			{name, "aa|aa", "aaa", false},
			{name, "aa|aa", "aa", false},
			{name, "aa|aa", "aaaa", true},
			{name, "a|a", "a", false},
			{name, "a|a", "aa", true},
			{name, "aba|ba", "aba", false},
			{name, "aba|ba", "ababa", true},
			{name, "aba|ba", "abaa", false},
			{name, "a|", "ba", false},
			{name, "|a", "ab", false},
			{name, "*|", "abc", false}, // no mark here
			{name, "*|", "*bc", true},
			{name, "\xff|\x00", "\xff\x00", true},
			{name, "\xff|\x00", "\x00\xff", false},
			{name, "\xc3|\xa4", "\u00e4", true}, // bytes, no runes
		})
	}
}

func TestSubsMore(t *testing.T) { // P8.2
	for _, name := range []string{"cn", "mail", "userpassword", "uidnumber", "member", "x", "", "CN"} {
		ask(t, []row{
			{name, "|b|", "abc", true},
			{name, "|b|", "b", true},
			{name, "|b|", "ac", false},
			{name, "|b|", "", false},
			{name, "a|b|c", "abc", true}, // just as long
			{name, "a|b|c", "ab-c", true},
			{name, "a|b|c", "a-bc", true},
			{name, "a|b|c", "ac", false}, // a byte shorter
			{name, "a|b|c", "ab", false},
			{name, "a|b|c", "bc", false},
			{name, "a|b|c", "bac", false}, // ahead of the first one's end
			{name, "a|b|c", "acb", false}, // behind the last one's beginning
			{name, "a|b|c", "acbc", true},
			{name, "a|bc|c", "abc", false}, // over the last one
			{name, "a|bc|c", "abcc", true},
			{name, "ab|b|c", "abc", false}, // over the first one
			{name, "ab|b|c", "abbc", true},
			{name, "|aa|aa|", "aaa", false}, // over one another
			{name, "|aa|aa|", "aaaa", true},
			{name, "|ab|ba|", "aba", false},
			{name, "|ab|ba|", "abba", true},
			{name, "|a|a|", "a", false},
			{name, "|a|a|", "ba-ab", true},
			{name, "|a|b|", "ba", false}, // one behind the other
			{name, "|a|b|", "bab", true},
			{name, "|ab|b|", "abab", true}, // at the earliest place, though it stands twice
			{name, "|ab|c|ab|", "abcab", true},
			{name, "|ab|c|ab|", "ababc", false},
			{name, "|a|ba|", "aba", true},
			{name, "|aab|ab|", "aaabab", true},
			{name, "|abab|ab|", "abababab", true},
			{name, "|abab|abab|", "ababab", false},
			{name, "x|ab|b|ab", "xabab", false}, // the only other b is the last one's
			{name, "x|ab|b|ab", "xababab", true},
			{name, "x|ab|b|ab", "xabbab", true},
			{name, "x|ab|b|b", "xababb", true},
			{name, "|a||b|", "ab", true}, // an empty one is everywhere
			{name, "|||", "", true},
			{name, "a||", "a", true},
			{name, "||a", "a", true},
			{name, "a||b", "ab", true},
			{name, "a||b", "a", false},
			{name, "a|b|c|d|e|f|g", "a-b-c-d-e-f-g", true},
			{name, "a|b|c|d|e|f|g", "abcdefg", true},
			{name, "a|b|c|e|d|f|g", "abcdefg", false},
			{name, "a|b|c|d|e|f|g", "abcdeg", false},
		})
	}
}

// TestSubsBlanks: case and blanks, in SText and in others.
func TestSubsBlanks(t *testing.T) { // P8.2
	for _, c := range []struct {
		parts, v    string
		text, other bool // of SText, of others
	}{
		{"A|", "abc", true, false}, // the chapter's, as a part and a value
		{"A|", "Abc", true, true},
		{"a|", "ABC", true, false},
		{"|C", "abC", true, true},
		{"|bC|", "aBcd", true, false},
		{"a|B|c", "AbC", true, false},
		{"|@[`{|", "@[`{", true, true},
		{"|\u00c4|", "\u00e4", false, false}, // no letters A to Z
		{"a b|", "A   B", true, false},
		{"a   b|", "a b", true, false},
		{"a   b|", "a   bc", true, true},
		{"a  b|", "a   b", true, false},
		{"a b|", "ab", false, false},
		{"ab|", "a b", false, false},
		{"|a  b|", " a b ", true, false},
		{"a|", " a", true, false}, // what is at the value's ends, is gone
		{"|a", "a ", true, false},
		{" |", " a", false, true},
		{" a|", "a", false, false},
		{" a|", " a", false, true},
		{"| ", "a ", false, true},
		{"|a ", "a ", false, true},
		{"|a  |", "a ", false, false},
		{"a | b", "a b", false, false}, // one blank can't be at both ends
		{"a | b", "a  b", false, true},
		{"a | b", "a c b", true, true},
		{"a   |   b", "a c b", true, false},
		{"a |b", "a b", true, true},
		{"a| b", "a b", true, true},
		{"a  |b", "a b", true, false},
		{"a| | b", "a  b", false, true},
		{"a| |b", "a b", true, true},
		{"a|   |b", "a b", true, false},
		{"a| |b", "a    b", true, true},
		{"a| |b", "ab", false, false},
		{"a| | |b", "a    b", false, true}, // one blank for two parts
		{"a| | |b", "a c b", true, true},
		{"a| | | |b", "a c b", false, false},
		{"| |", "   ", false, true}, // nothing is left
		{" | ", "   ", false, true},
		{"|  a  |", "b A c", true, false},
		{"|  a  |", "b  a  c", true, true},
		{"| a |", "a", false, false},
		{"| a |", " a ", false, true},
		{"|\ta|", "\tA", true, false}, // a tabulator is no blank
		{"|a\t\tb|", "a\tb", false, false},
		{"| \t |", "a \t b", true, true},
		{"|\xff A\x00  \x80|", "\xff a\x00 \x80", true, false},
		{"a|", "  ", false, false},
		{"|x|", "X", true, false},
		{"x|x", "XX", true, false},
		{"| x |", "a x b", true, true},
	} {
		parts := strings.Split(c.parts, "|")
		for _, name := range append([]string{"CN", "Cn", "TITLE"}, texts...) {
			made(t, name, parts, c.v, c.text)
		}
		for _, name := range slices.Concat(exacts, noTypes, []string{"MAIL", "member", "Member", "uidnumber", "userpassword", "", "cn ", "\xff"}) {
			made(t, name, parts, c.v, c.other)
		}
	}
}

// TestSubsNames: of names the Norm is asked, and parts stand as they are.
func TestSubsNames(t *testing.T) { // P8.2
	for _, name := range []string{"member", "MEMBER"} {
		ask(t, []row{
			{name, "cn=a|", "CN=A", true},
			{name, "CN=A|", "CN=A", false},
			{name, "CN|", "CN", true}, // no name
			{name, "cn|", "CN", false},
			{name, "cn=a+sn=b|o=c", "SN=B+CN=A,O=C", true},
			{name, "sn=b|", "SN=B+CN=A,O=C", false},
			{name, "|a b|", "cn=A   b", true},
			{name, "|a  b|", "cn=A   b", false},
			{name, "|a  b|", "mail=a  b", true},
			{name, "=A|", "cn=A", false},
			{name, "cn|=a", "CN=A", true},
			{name, "cn|=A", "CN=A", false},
			{name, `|\ff|`, "cn=\xff", true}, // as Norm prints it
			{name, "|\xff|", "cn=\xff", false},
			{name, "=|", "=A", true}, // parts that would be names beside other bytes
			{name, "|=A|", "=A", true},
			{name, "|=A|", "x=A", true},
			{name, "|=A|", "x=a", false},
		})
		made(t, name, nil, "", true)
		made(t, name, nil, "cn=a", false)
	}
}

var (
	capitals = regexp.MustCompile(`[A-Z]`)
	blanks   = regexp.MustCompile(` +`)
)

// latin tells a rune for each byte of s, so that no two bytes are taken as one letter.
func latin(s string) string {
	var r []rune
	for i := range len(s) {
		r = append(r, rune(s[i]))
	}
	return string(r)
}

// modelSubs tells what Subs tells of values of a type that isn't member's, by the chapter's words and by another way than the package's: a pattern.
func modelSubs(name string, parts []string) func(v string) bool {
	form, ends := latin, ""
	if slices.Contains(texts, dn.Lower(name)) {
		form = func(s string) string {
			return blanks.ReplaceAllString(capitals.ReplaceAllStringFunc(latin(s), strings.ToLower), " ")
		}
		ends = " "
	}
	switch len(parts) {
	case 0:
		return func(v string) bool { return strings.Trim(v, ends) == "" }
	case 1:
		return func(string) bool { return false }
	}
	var l []string
	for _, s := range parts {
		l = append(l, regexp.QuoteMeta(form(s)))
	}
	pattern := regexp.MustCompile(`(?s)\A` + strings.Join(l, `.*`) + `\z`)
	return func(v string) bool { return pattern.MatchString(form(strings.Trim(v, ends))) }
}

// words tells all texts of up to n bytes of an alphabet.
func words(alphabet string, n int) []string {
	l, last := []string{""}, []string{""}
	for range n {
		var more []string
		for _, s := range last {
			for i := range len(alphabet) {
				more = append(more, s+alphabet[i:i+1])
			}
		}
		l, last = append(l, more...), more
	}
	return l
}

// TestSubsAll: all short parts of all short values.
func TestSubsAll(t *testing.T) { // P8.2
	for _, c := range []struct {
		alphabet   string
		part, size int
		between    int // how many parts at most
	}{{"ab", 2, 6, 1}, {"ab", 1, 5, 3}, {"ab ", 1, 4, 2}, {"a ", 2, 7, 1}, {"a ", 3, 6, 0}, {"aA ", 2, 4, 0}} {
		var lists [][]string
		parts := words(c.alphabet, c.part)
		for _, first := range parts {
			lists = append(lists, []string{first})
		}
		from := 0
		for range c.between + 1 {
			end := len(lists)
			for _, l := range lists[from:end] {
				for _, s := range parts {
					lists = append(lists, append(slices.Clone(l), s))
				}
			}
			from = end
		}
		values := words(c.alphabet, c.size)
		for _, name := range []string{"cn", "mail"} {
			asked, found := 0, 0
			for _, l := range lists {
				want := modelSubs(name, l)
				for _, v := range values {
					asked++
					if want(v) {
						found++
					}
					if got := sift.Subs(name, l, v); got != want(v) {
						t.Fatalf("P8.2: Subs of %s, %q, %q: %v", name, l, v, got)
					}
				}
			}
			if found < asked/50 || found > asked*9/10 {
				t.Errorf("%s of %q: %d of %d", name, c.alphabet, found, asked)
			}
		}
	}
}

// TestSubsCut: values by chance, cut into parts with some bytes taken out between, and the same spoilt.
func TestSubsCut(t *testing.T) { // P8.2
	r := rand.New(rand.NewSource(82))
	const bytes = "aabAB  \x00\xff\xc3*"
	is, isnt := 0, 0
	for range 12000 {
		b := make([]byte, r.Intn(24))
		for i := range b {
			b[i] = bytes[r.Intn(len(bytes))]
		}
		var parts []string
		at := 0
		for at <= len(b) && len(parts) < 7 {
			end := at + r.Intn(min(5, len(b)-at+1))
			parts = append(parts, string(b[at:end]))
			at = end + r.Intn(4)
		}
		switch r.Intn(4) {
		case 0:
			i := r.Intn(len(parts))
			parts[i] += string(bytes[r.Intn(len(bytes))])
		case 1:
			i, j := r.Intn(len(parts)), r.Intn(len(parts))
			parts[i], parts[j] = parts[j], parts[i]
		case 2:
			parts = append(parts, "")
		}
		for _, name := range []string{"cn", "SN", "mail", "userpassword", "uidnumber", "x"} {
			want := modelSubs(name, parts)(string(b))
			made(t, name, parts, string(b), want)
			if want {
				is++
			} else {
				isnt++
			}
		}
	}
	if is < 8000 || isnt < 8000 {
		t.Errorf("%d are, %d are not", is, isnt)
	}
}

// TestSubsLong: parts and values longer than a filter's.
func TestSubsLong(t *testing.T) { // P8.2
	const n = 1 << 17
	long := strings.Repeat("a", n)
	for _, name := range []string{"cn", "mail", "member", "x"} {
		made(t, name, []string{long, ""}, long, true)
		made(t, name, []string{long, "a"}, long, false)
		made(t, name, []string{long[1:], "a"}, long, true)
		made(t, name, []string{"", long, ""}, long, true)
		made(t, name, []string{"", long + "b", ""}, long+"b"+long, true)
		made(t, name, []string{"", long + "b", ""}, long+long, false)
		made(t, name, slices.Repeat([]string{"a"}, n), long, true)
		made(t, name, slices.Repeat([]string{"a"}, n+1), long, false)
		made(t, name, slices.Repeat([]string{"ab"}, n), strings.Repeat("aab", n), false) // begins otherwise
		made(t, name, slices.Repeat([]string{"ab"}, n), strings.Repeat("ab", n), true)
		made(t, name, make([]string, n), long, true)
	}
	made(t, "cn", []string{strings.Repeat(" ", n), "a"}, "a", false)
	made(t, "cn", []string{"a" + strings.Repeat(" ", n), "B"}, "A b", true)
	made(t, "mail", []string{"a" + strings.Repeat(" ", n), "b"}, "a b", false)
}

// modelValue tells what f comes to, by another way than the package's: by how true it is.
func modelValue(f api.Filter, l []api.Attr) int {
	switch f.Kind {
	case api.FAnd, api.FOr:
		least, most := order[yes], order[no]
		for _, kid := range f.Kids {
			v := order[modelValue(kid, l)]
			least, most = min(least, v), max(most, v)
		}
		if f.Kind == api.FAnd {
			return order[least]
		}
		return order[most]
	case api.FNot:
		return order[2-order[modelValue(f.Kids[0], l)]]
	}
	at := slices.Index(all, f.Attr)
	if at < 0 {
		return undefined
	}
	syntax := syntaxOf(f.Attr)
	good := schema.Check(f.Attr, f.Value) == api.OK
	holds := map[int]func(v string) bool{
		api.FPresent: func(string) bool { return true },
		api.FEqual:   func(v string) bool { return modelForm(f.Attr, v) == modelForm(f.Attr, f.Value) },
		api.FGreater: func(v string) bool { return modelCmp(f.Attr, v, f.Value) >= 0 },
		api.FLess:    func(v string) bool { return modelCmp(f.Attr, v, f.Value) <= 0 },
		api.FSubs:    func(v string) bool { return modelSubs(f.Attr, f.Subs)(v) },
	}[f.Kind]
	switch {
	case f.Kind == api.FSubs && strings.Contains("nbi", syntax),
		(f.Kind == api.FGreater || f.Kind == api.FLess) && strings.Contains("nb", syntax),
		f.Kind != api.FSubs && f.Kind != api.FPresent && !good:
		return undefined
	}
	i := slices.IndexFunc(l, func(a api.Attr) bool { return a.Name == f.Attr })
	if i >= 0 && slices.ContainsFunc(l[i].Values, holds) {
		return yes
	}
	return no
}

// modelForm tells a value's form.
func modelForm(name, v string) string {
	switch syntaxOf(name) {
	case "t":
		return strings.Join(strings.FieldsFunc(capitals.ReplaceAllStringFunc(latin(v), strings.ToLower), func(r rune) bool { return r == ' ' }), " ")
	case "n":
		return match.Norm("member", v)
	}
	return v
}

// modelCmp compares two values.
func modelCmp(name, a, b string) int {
	if syntaxOf(name) == "i" && schema.IsInt(a) && schema.IsInt(b) {
		i, _ := strconv.ParseFloat(a, 64)
		j, _ := strconv.ParseFloat(b, 64)
		return cmp.Compare(i, j)
	}
	return cmp.Compare(modelForm(name, a), modelForm(name, b))
}

// Values that meet one another.
var some = []string{"a", "A", "b", " a  B ", "a b", "ab", "AB", "", " ", "7", "9", "10", "-7", "-10", "07", "cn=a", "CN=A", "cn=a,o=b", "\x00", "\xff"}

// pick tells one of l by chance.
func pick(r *rand.Rand, l ...string) string { return l[r.Intn(len(l))] }

// anyFilter tells a filter by chance, of n nodes.
func anyFilter(r *rand.Rand, n int) api.Filter {
	name := pick(r, "cn", "cn", "sn", "mail", "member", "uidnumber", "userpassword", "title", "x", "l")
	if n == 1 {
		return []api.Filter{and(), or(), present(name), equal(name, pick(r, some...)), greater(name, pick(r, some...)), less(name, pick(r, some...)), subs(name, pick(r, "", "a", "A", "7"), "b"), subs(name, "", pick(r, "a", "B", " "), pick(r, "", "b"))}[r.Intn(8)]
	}
	if r.Intn(4) == 0 {
		return not(anyFilter(r, n-1))
	}
	f := api.Filter{Kind: []int{api.FAnd, api.FOr}[r.Intn(2)]}
	for n--; n > 0; {
		size := 1 + r.Intn(n)
		f.Kids = append(f.Kids, anyFilter(r, size))
		n -= size
	}
	return f
}

// TestModel: filters by chance, of entries by chance.
func TestModel(t *testing.T) { // P8.1, P8.3
	r := rand.New(rand.NewSource(8))
	var counts [3]int
	for range 30000 {
		var l []api.Attr
		for range r.Intn(6) {
			a := attr(pick(r, "cn", "sn", "mail", "member", "uidnumber", "userpassword", "x", "CN"))
			for range r.Intn(4) {
				a.Values = append(a.Values, pick(r, some...))
			}
			l = append(l, a)
		}
		f := anyFilter(r, 1+r.Intn(1+r.Intn(api.MaxNodes)))
		if !filter.Is(f) {
			t.Fatalf("no filter: %v", f)
		}
		want := modelValue(f, l)
		counts[want]++
		value(t, f, l, want)
		value(t, f, l, want) // again
		if t.Failed() {
			return
		}
	}
	if slices.Min(counts[:]) < 2000 {
		t.Errorf("they come to %v", counts)
	}
}

// TestDepth: filters as deep as may be, and deeper.
func TestDepth(t *testing.T) { // P8.1, P8.3
	l := with("cn", "a")
	for v, f := range leaves {
		for n := 1; n < api.MaxNodes+3; n++ {
			want := v
			if n%2 == 0 {
				want = order[2-order[v]]
			}
			if n > api.MaxNodes {
				want = undefined
			}
			value(t, f, l, want)
			f = not(f)
		}
	}
}

// TestNotChanged: what is handed in stays as it was, spare room and all.
func TestNotChanged(t *testing.T) { // what holds everywhere
	parts := append(make([]string, 0, 6), "A", " B  c ", "")
	parts[:6][3], parts[:6][5] = "spare", "room"
	fs := append(make([]api.Filter, 0, 6), subs("cn", parts...), not(less("sn", "M")), equal("member", "O=B"))
	fs[0].Subs = parts
	fs[:6][3] = present("spare")
	f := or(and(fs...), and(fs...))
	f.Kids[0].Kids = fs
	values := append(make([]string, 0, 4), "a  B C", " A B C d", "x")
	values[:4][3] = "a b c d"
	l := append(make([]api.Attr, 0, 6), attr("cn"), attr("sn", " N"), attr("member", "cn=a", "o=b"))
	l[0].Values = values
	l[:6][3] = attr("cn", "spare")
	show := func() string { return fmt.Sprintf("%q %q %v %q", parts[:6], values[:4], fs[:6], l[:6]) }
	before := show()
	for range 2 {
		value(t, f, l, yes)
		value(t, not(f), l, no)
		value(t, f, l[:2], no)
		made(t, "cn", parts, values[1], true)
		made(t, "mail", parts, values[1], false)
	}
	if now := show(); now != before {
		t.Errorf("was %s, is %s", before, now)
	}
}
