package attrs_test

import (
	"fmt"
	"math"
	"math/rand"
	"slices"
	"strconv"
	"strings"
	"testing"
	"unsafe"

	"prefect/api"
	"prefect/attrs"
	"prefect/dn"
	"prefect/match"
	"prefect/schema"
)

// The limits that the document names, by their numbers.
const (
	maxValue  = 60
	maxValues = 12
	maxAttrs  = 12
)

// names are all types, rising.
var names = []string{"aci", "c", "cn", "dc", "description", "entryid", "mail", "member", "o", "ou", "sn", "title", "uid", "uidnumber", "userpassword"}

// single are those of one value.
var single = []string{"c", "entryid", "title", "uidnumber"}

// noTypes are no types of schema's.
var noTypes = []string{"", " ", "x", "cnn", "cn ", " cn", "c-n", "objectclass", "members", "cn;lang-en", "\xff", "cn\x00", "ſn", strings.Repeat("cn", 1<<12)}

// noKinds are no kinds of a Mod.
var noKinds = []int{math.MinInt, -1, 0, 4, 5, 256 + api.MAdd, 1<<32 + api.MDelete, math.MaxInt}

// list makes attributes of texts: a name, and behind a colon the values, between them bars. Without a colon there are no values.
func list(texts ...string) []api.Attr {
	var l []api.Attr
	for _, s := range texts {
		name, values, some := strings.Cut(s, ":")
		a := api.Attr{Name: name}
		if some {
			a.Values = strings.Split(values, "|")
		}
		l = append(l, a)
	}
	return l
}

// mod makes a Mod of a text as list has them, behind a sign: + adds, - deletes, = replaces.
func mod(s string) api.Mod {
	kind := map[byte]int{'+': api.MAdd, '-': api.MDelete, '=': api.MReplace}[s[0]]
	a := list(s[1:])[0]
	return api.Mod{Kind: kind, Attr: a.Name, Values: a.Values}
}

func mods(texts ...string) []api.Mod {
	var l []api.Mod
	for _, s := range texts {
		l = append(l, mod(s))
	}
	return l
}

// rdn makes a part of a name of types and values by turns.
func rdn(l ...string) api.RDN {
	var r api.RDN
	for i := 0; i < len(l); i += 2 {
		r = append(r, api.AVA{Attr: l[i], Value: l[i+1]})
	}
	return r
}

// numbered makes n values: v01, v02 ..
func numbered(n int) []string {
	var l []string
	for i := range n {
		l = append(l, fmt.Sprintf("v%02d", i+1))
	}
	return l
}

// valueFor tells a value that can be one of that type.
func valueFor(name string) string {
	switch name {
	case "member":
		return "cn=a"
	case "uidnumber":
		return "7"
	}
	return "a"
}

// each makes an attribute of each of those names.
func each(names ...string) []api.Attr {
	var l []api.Attr
	for _, name := range names {
		l = append(l, api.Attr{Name: name, Values: []string{valueFor(name)}})
	}
	return l
}

// text tells l so that two that differ differ.
func text(l []api.Attr) string {
	var b strings.Builder
	for _, a := range l {
		fmt.Fprintf(&b, "%q: %q; ", a.Name, a.Values)
	}
	return b.String()
}

// short is text of what may be long.
func short(l []api.Attr) string { return fmt.Sprintf("%.300s", text(l)) }

// told tells a mod, or several, for a message.
func told(m any) string { return fmt.Sprintf("%.300s", fmt.Sprintf("%#v", m)) }

// alike asks that both are the same word by word; no list and an empty one are.
func alike(t *testing.T, what string, got, want []api.Attr) {
	t.Helper()
	if text(got) != text(want) {
		t.Errorf("%.300s: %s want %s", what, short(got), short(want))
	}
}

// apply asks what Apply tells.
func apply(t *testing.T, l []api.Attr, m api.Mod, want []api.Attr) {
	t.Helper()
	alike(t, fmt.Sprintf("P12.2: Apply of %s to %s", told(m), short(l)), attrs.Apply(l, m), want)
}

// with asks what With tells.
func with(t *testing.T, l []api.Attr, r api.RDN, want []api.Attr) {
	t.Helper()
	alike(t, fmt.Sprintf("P12.2: With of %.200q, %s", r, short(l)), attrs.With(l, r), want)
}

// check asks what Check tells.
func check(t *testing.T, l []api.Attr, r api.RDN, m []api.Mod, want int) {
	t.Helper()
	if got := attrs.Check(l, r, m); got != want {
		t.Errorf("P12.3: Check of %s %.200q, %s: %d; want %d", short(l), r, told(m), got, want)
	}
}

// right tells lists that are Is.
func right() [][]api.Attr {
	return [][]api.Attr{
		nil,
		{},
		make([]api.Attr, 0, 9),
		list("cn:a"),
		list("cn:a|b"),
		list("cn:b|a"), // values have the order in which they came
		list("cn:a|ab", "sn:a"),
		list("mail:a|A"), // not Equal
		list("mail:a| a|a "),
		list("uidnumber:7|07"),
		list("userpassword:a|A|\x00|\xff"),
		list("member:cn=a|cn=b|cn=a,o=b|CN"),
		list("a:1", "b:1", "c:1", "d:1"),
		list("c:1", "c-:1", "c-a:1", "c0:1", "ca:1", "cn:1", "d:1"), // byte by byte
		list("a:1", "aa:1", "ab:1", "b:1"),
		list("x:a|A"), // of no type
		list("nosuch:a", "objectclass:b"),
		list("cn:"), // a value without bytes is one
		list("cn:\xff", "sn:\x00"),
		list("uidnumber:a", "userpassword:x"), // values that can't be
		list("title:a|b"),                     // more than a single type has
		{{Name: "cn", Values: numbered(maxValues)}},
		{{Name: "cn", Values: numbered(maxValues + 1)}},
		each(names...), // more than MaxAttrs
		{{Name: "cn", Values: []string{strings.Repeat("a", maxValue+1)}}},
		{{Name: "cn", Values: []string{strings.Repeat("a", 1<<16), strings.Repeat("a", 1<<16+1)}}},
		{{Name: "a123456789-bcdef", Values: []string{"1"}}},
	}
}

// wrong tells lists that aren't Is, and what comes of all, one behind the other.
func wrong() []struct{ l, want []api.Attr } {
	return []struct{ l, want []api.Attr }{
		{list("sn:a", "cn:b"), list("cn:b", "sn:a")}, // they don't rise
		{list("a:1", "sn:a", "cn:b"), list("cn:b", "sn:a")},
		{list("uid:a", "sn:b", "o:c", "cn:d"), list("cn:d", "o:c", "sn:b", "uid:a")},
		{list("cn:a", "cn:b"), list("cn:a|b")}, // twice the same
		{list("cn:a", "cn:A"), list("cn:a")},
		{list("cn:b", "cn:A", "cn:a|c|B"), list("cn:b|A|c")},
		{list("title:a", "title:b"), list("title:b")},
		{list("title:a", "title:b", "title:a"), list("title:a")}, // one behind the other
		{list("title:a|b|A"), list("title:b")},                   // at once
		{list("title:a|b|a", "title:B"), list("title:b")},
		{list("CN:a"), list("cn:a")}, // large letters
		{list("cn:a", "Sn:b"), list("cn:a", "sn:b")},
		{list("SN:a", "cn:b", "sn:A|c"), list("cn:b", "sn:a|c")},
		{list("cn"), nil}, // no values
		{[]api.Attr{{Name: "cn", Values: []string{}}}, nil},
		{list("cn:a", "sn"), list("cn:a")},
		{list("cn", "sn:a"), list("sn:a")},
		{list("cn:a|a"), list("cn:a")}, // Equal ones
		{list("cn:a|b|A"), list("cn:a|b")},
		{list("cn: A  b|a B"), list("cn: A  b")},
		{list("member:CN=a|cn=b|cn=A"), list("member:CN=a|cn=b")},
		{list("cn:a", "mail:a|A|a"), list("cn:a", "mail:a|A")},
		{list("x:a|a"), nil}, // of no type
		{list("cn:a", "x:a|b|a"), list("cn:a")},
		{list(":a"), nil},
		{list("cn:a", ":a"), list("cn:a")},
		{list("cn :a"), nil},
		{list("1:a", "cn:a"), list("cn:a")},
		{list("-:a", "cn:a"), list("cn:a")},
		{list("abcdefghijklmnopq:a", "cn:a"), list("cn:a")}, // 17 letters
		{list("cn:a", "\xff:a"), list("cn:a")},
		{list("sn:a", "cn:|b| |\xff|B|c\x00|c"), list("cn:b|c", "sn:a")}, // values that can't be
		{list("sn:a", "cn:|\x7f"), list("sn:a")},
		{list("uidnumber:07|7|x", "cn:a"), list("cn:a", "uidnumber:7")},
		{list("uidnumber:7|07", "cn:a"), list("cn:a", "uidnumber:7")},
		{list("member:cn=a|cn", "cn:a"), list("cn:a", "member:cn=a")},
		{list("entryid:1", "cn:a"), list("cn:a", "entryid:1")},
		{list("cn:a|a", "nosuch:b"), list("cn:a")},
		{[]api.Attr{{}}, nil},
		{make([]api.Attr, 20), nil},
		{[]api.Attr{{Name: "sn", Values: append(numbered(maxValues+3), "v01")}}, []api.Attr{{Name: "sn", Values: numbered(maxValues)}}},
		{append(each(names...), each("cn")...), each(names[:maxAttrs]...)},
		{reversed(each(names...)), each(names[:maxAttrs]...)},
		{append(list("x:a"), each(names...)...), each(names[:maxAttrs]...)},
	}
}

func reversed(l []api.Attr) []api.Attr {
	slices.Reverse(l)
	return l
}

func TestLimits(t *testing.T) { // P12.2
	if api.MaxValue != maxValue || api.MaxValues != maxValues || api.MaxAttrs != maxAttrs {
		t.Fatal("the document's limits are others")
	}
	for _, a := range schema.All() {
		if !slices.Contains(names, a.Name) || a.Single != slices.Contains(single, a.Name) {
			t.Fatalf("schema has another %s", a.Name)
		}
	}
}

func TestIs(t *testing.T) { // P12.1
	for _, l := range right() {
		if !attrs.Is(l) {
			t.Errorf("P12.1: isn't Is: %s", short(l))
		}
	}
	for _, c := range wrong() {
		if attrs.Is(c.l) {
			t.Errorf("P12.1: is Is: %s", short(c.l))
		}
		if !attrs.Is(c.want) {
			t.Errorf("P12.1: isn't Is: %s", short(c.want))
		}
	}
}

// TestIsEach: one attribute of a right list is made wrong.
func TestIsEach(t *testing.T) { // P12.1
	for i := range names {
		for _, spoilt := range []api.Attr{
			{Name: names[i]},
			{Name: strings.ToUpper(names[i]), Values: []string{"a"}},
			{Name: names[(i+1)%len(names)], Values: []string{"a"}},
			{Name: names[i], Values: []string{"a", "b", "a"}},
			{Name: names[i], Values: []string{"a", "b", "b"}},
			{Name: names[i] + "_", Values: []string{"a"}},
			{Values: []string{"a"}},
		} {
			l := each(names...)
			l[i] = spoilt
			if attrs.Is(l) {
				t.Errorf("P12.1: is Is: %s", short(l))
			}
		}
		l := slices.Delete(each(names...), i, i+1)
		if !attrs.Is(l) || !attrs.Is(l[:i]) || !attrs.Is(l[i:]) {
			t.Errorf("P12.1: isn't Is: %s", short(l))
		}
	}
}

func TestGet(t *testing.T) { // P12.1
	l := list("cn:a|B| c ", "CN:d", "cn:e", "sn", "sn:f", "Uid:g", "x:h|h", "uidnumber:07", "mail:")
	for name, want := range map[string]string{
		"cn": "a|B| c ", "CN": "a|B| c ", "cN": "a|B| c ", // the first one's, as they stand; CN in l is no Lower
		"x": "h|h", "X": "h|h", "uidNumber": "07",
		"sn": "", "SN": "", // the first one has none
		"uid": "", "Uid": "", "UID": "", // as it stands in l it is nobody's
		"o": "", "": "", "cn ": "", "c": "", "cnn": "", "\xff": "",
	} {
		got := attrs.Get(l, name)
		if strings.Join(got, "|") != want || (len(got) == 0) != (want == "") {
			t.Errorf("P12.1: Get of %q: %q; want %q", name, got, want)
		}
	}
	if got := attrs.Get(l, "Mail"); len(got) != 1 || got[0] != "" { // a value without bytes
		t.Errorf("P12.1: Get of mail: %q", got)
	}
	for _, none := range [][]api.Attr{nil, {}, {{}}, {{Name: "cn"}}} {
		if got := attrs.Get(none, "cn"); len(got) != 0 {
			t.Errorf("P12.1: Get of none: %q", got)
		}
	}
	if got := attrs.Get(list(":a|b"), ""); strings.Join(got, "|") != "a|b" {
		t.Errorf("P12.1: Get of no name: %q", got)
	}
}

func TestHas(t *testing.T) { // P12.1
	l := list("cn:Ab  C|d", "cn:e", "mail:a@B", "member:cn=A+sn=b,o=C|no name", "sn", "sn:f", "title:x|y", "uidnumber:7|09", "userpassword:Pw|\x00", "x:Y", "Uid:g", "o:")
	for _, c := range []struct {
		name, v string
		want    bool
	}{
		{"cn", "Ab  C", true}, {"cn", "ab c", true}, {"CN", " AB   c ", true}, {"Cn", "D", true}, // another case, other blanks
		{"cn", "abc", false}, {"cn", "ab", false}, {"cn", "", false}, {"cn", "Ab\tC", false},
		{"cn", "e", false}, // the first attribute counts
		{"mail", "a@B", true}, {"Mail", "a@B", true}, {"mail", "a@b", false}, {"mail", "a@B ", false},
		{"member", "CN=a+SN=B,O=c", true}, {"MEMBER", "sn=B+cn=a,o=c", true}, {"member", "o=C,cn=A+sn=b", false}, {"member", "no name", true}, {"member", "No name", false},
		{"sn", "f", false}, {"sn", "", false}, // the first one has none
		{"title", "x", true}, {"title", "Y", true},
		{"uidnumber", "7", true}, {"uidNumber", "07", false}, {"uidnumber", "9", false}, {"uidnumber", "09", true},
		{"userpassword", "Pw", true}, {"userpassword", "pw", false}, {"userpassword", "\x00", true},
		{"x", "Y", true}, {"X", "Y", true}, {"x", "y", false},
		{"uid", "g", false}, {"Uid", "g", false},
		{"o", "", true}, {"o", "  ", true}, {"o", "a", false},
		{"ou", "", false}, {"", "", false}, {"", "Y", false}, {"nosuch", "a", false},
	} {
		if got := attrs.Has(l, c.name, c.v); got != c.want {
			t.Errorf("P12.1: Has of %q, %q: %v", c.name, c.v, got)
		}
	}
	if attrs.Has(nil, "cn", "a") || attrs.Has([]api.Attr{}, "", "") {
		t.Error("P12.1: Has of none")
	}
}

func TestSame(t *testing.T) { // P12.1
	lists := append(right(),
		list("cn:a", "sn:b"), list("sn:b", "cn:a"), // in order
		list("cn:a", "sn:a"), list("cn:a", "cn:a"), list("cn:a", "cn"), list("cn", "cn:a"),
		list("cn:A"), list("CN:a"), list("cn: a"), list("cn"), list(""), list(":"), list("", ""),
		list("cn:a|"), list("cn:|a"), list("cn:|"), list("cn:a|b|c"), list("cn:a|c|b"), list("cn:b"), list("sn:b|a"),
	)
	for i, a := range lists {
		for j, b := range lists {
			if want := text(a) == text(b); attrs.Same(a, b) != want {
				t.Errorf("P12.1: Same of %d, %d: not %v: %s and %s", i, j, want, short(a), short(b))
			}
		}
	}
	if !attrs.Same(nil, []api.Attr{}) || !attrs.Same([]api.Attr{{Name: "cn", Values: []string{}}}, []api.Attr{{Name: "cn"}}) {
		t.Error("P12.1: no list and an empty one aren't the Same")
	}
}

func TestAdd(t *testing.T) { // P12.2
	l := list("cn:a|B", "mail:a", "title:x")
	for m, want := range map[string][]api.Attr{
		"+cn:c":        list("cn:a|B|c", "mail:a", "title:x"), // behind the others
		"+cn:0":        list("cn:a|B|0", "mail:a", "title:x"),
		"+CN:c|D":      list("cn:a|B|c|D", "mail:a", "title:x"),
		"+cn:D|c":      list("cn:a|B|D|c", "mail:a", "title:x"), // in order
		"+cn:A":        l,                                       // those that are there, in another form
		"+cn: a  ":     l,
		"+cn:a|b":      l,
		"+cn:b|c|A|d":  list("cn:a|B|c|d", "mail:a", "title:x"),
		"+cn:c|C|d| c": list("cn:a|B|c|d", "mail:a", "title:x"), // the same twice
		"+cn":          l,
		"+sn":          l,
		"+mail:A|a":    list("cn:a|B", "mail:a|A", "title:x"),
		"+sn:y|z":      list("cn:a|B", "mail:a", "sn:y|z", "title:x"), // where it belongs
		"+Aci:y":       list("aci:y", "cn:a|B", "mail:a", "title:x"),
		"+uid:y":       list("cn:a|B", "mail:a", "title:x", "uid:y"),
		"+title:y":     list("cn:a|B", "mail:a", "title:y"), // a single type: the last value
		"+title:y|z":   list("cn:a|B", "mail:a", "title:z"),
		"+title:X":     l,
		"+title:y|X":   list("cn:a|B", "mail:a", "title:y"), // that one is there: it doesn't come
		"+title:y|z|Y": list("cn:a|B", "mail:a", "title:z"),
		"+entryid:1.0": list("cn:a|B", "entryid:1.0", "mail:a", "title:x"),
		"+c:1|2":       list("c:2", "cn:a|B", "mail:a", "title:x"),
		"+uidnumber:1": list("cn:a|B", "mail:a", "title:x", "uidnumber:1"),
	} {
		apply(t, l, mod(m), want)
	}
	apply(t, nil, mod("+cn:a|A|b"), list("cn:a|b"))
	apply(t, nil, mod("+cn"), nil)
	apply(t, list("cn:a", "x:a", "y:a|A"), mod("+uid:a"), list("cn:a", "uid:a", "x:a", "y:a|A")) // others stay, also of no type
	apply(t, list("member:cn=A"), mod("+member:CN=a|cn=B+sn=c|SN=C+CN=b"), list("member:cn=A|cn=B+sn=c"))
}

func TestDelete(t *testing.T) { // P12.2
	l := list("cn:a|B|c", "mail:a|A", "sn:x")
	for m, want := range map[string][]api.Attr{
		"-cn:b":         list("cn:a|c", "mail:a|A", "sn:x"),
		"-CN: B ":       list("cn:a|c", "mail:a|A", "sn:x"),
		"-cn:A":         list("cn:B|c", "mail:a|A", "sn:x"),
		"-cn:C|A":       list("cn:B", "mail:a|A", "sn:x"),
		"-cn:c|c|c":     list("cn:a|B", "mail:a|A", "sn:x"), // the same more than once
		"-cn:d":         l,                                  // that isn't there
		"-cn:d|b|e":     list("cn:a|c", "mail:a|A", "sn:x"),
		"-cn:a|b|c":     list("mail:a|A", "sn:x"), // without values it isn't there
		"-cn":           list("mail:a|A", "sn:x"), // all
		"-cn:":          l,                        // a value without bytes is one
		"-cn:\xff":      l,
		"-cn:\xff|a":    list("cn:B|c", "mail:a|A", "sn:x"), // those that can't be play no part, and make no other go
		"-mail:A":       list("cn:a|B|c", "mail:a", "sn:x"),
		"-mail:b":       l,
		"-Mail":         list("cn:a|B|c", "sn:x"),
		"-sn:X":         list("cn:a|B|c", "mail:a|A"),
		"-sn":           list("cn:a|B|c", "mail:a|A"),
		"-title":        l,
		"-title:x":      l,
		"-entryid":      l,
		"-uidnumber:07": l,
	} {
		apply(t, l, mod(m), want)
	}
	apply(t, list("sn:x"), mod("-sn:x"), nil)
	apply(t, list("sn:x"), mod("-sn"), nil)
	apply(t, nil, mod("-sn"), nil)
	apply(t, list("entryid:1", "uidnumber:7"), mod("-entryid:1"), list("uidnumber:7"))
	apply(t, list("uidnumber:07|7|x"), mod("-uidnumber:07|x"), list("uidnumber:7")) // values that can't be go, too
	apply(t, list("cn:|a"), mod("-cn:  "), list("cn:a"))
	apply(t, list("title:a|b|c"), mod("-title:b"), list("title:c")) // then only the last value stays
	apply(t, list("title:a|b"), mod("-title:B"), list("title:a"))
}

func TestReplace(t *testing.T) { // P12.2
	l := list("cn:a|B", "mail:a", "title:x")
	for m, want := range map[string][]api.Attr{
		"=cn:c":        list("cn:c", "mail:a", "title:x"),
		"=CN:c|d":      list("cn:c|d", "mail:a", "title:x"),
		"=cn:b":        list("cn:b", "mail:a", "title:x"), // in its new form
		"=cn:b|A":      list("cn:b|A", "mail:a", "title:x"),
		"=cn:c|b|C":    list("cn:c|b", "mail:a", "title:x"), // as MAdd: but those that are there
		"=cn":          list("mail:a", "title:x"),
		"=mail":        list("cn:a|B", "title:x"),
		"=title":       list("cn:a|B", "mail:a"),
		"=title:y":     list("cn:a|B", "mail:a", "title:y"),
		"=title:y|z":   list("cn:a|B", "mail:a", "title:z"), // the chapter's
		"=title:X":     list("cn:a|B", "mail:a", "title:X"),
		"=title:x|y|X": list("cn:a|B", "mail:a", "title:y"),
		"=sn":          l,
		"=sn:y":        list("cn:a|B", "mail:a", "sn:y", "title:x"),
		"=aci:y|Y":     list("aci:y|Y", "cn:a|B", "mail:a", "title:x"),
		"=entryid:1":   list("cn:a|B", "entryid:1", "mail:a", "title:x"),
		"=cn:\xff|":    list("mail:a", "title:x"), // of those that can't be none comes
		"=cn:|c":       list("cn:c", "mail:a", "title:x"),
		"=sn:|\x00":    l,
	} {
		apply(t, l, mod(m), want)
	}
	apply(t, nil, mod("=cn:b|a"), list("cn:b|a"))
	apply(t, nil, mod("=cn"), nil)
	apply(t, list("cn:a"), mod("=cn"), nil)
}

// TestNothing: of no type, of no kind.
func TestNothing(t *testing.T) { // P12.2
	var lists, want [][]api.Attr
	for _, l := range right() {
		lists, want = append(lists, l), append(want, l)
	}
	for _, c := range wrong() {
		lists, want = append(lists, c.l), append(want, c.want)
	}
	for i, l := range lists {
		for _, kind := range []int{api.MAdd, api.MDelete, api.MReplace} {
			for _, name := range noTypes {
				apply(t, l, api.Mod{Kind: kind, Attr: name, Values: []string{"a"}}, want[i])
				apply(t, l, api.Mod{Kind: kind, Attr: name}, want[i])
			}
		}
		for _, kind := range noKinds {
			for _, name := range []string{"cn", "title", "x", "SN"} {
				apply(t, l, api.Mod{Kind: kind, Attr: name, Values: []string{"a", "b"}}, want[i])
				apply(t, l, api.Mod{Kind: kind, Attr: name}, want[i])
			}
		}
		apply(t, l, api.Mod{}, want[i])
	}
}

// TestPassedOver: values that schema's Check errs at, alone and among others.
func TestPassedOver(t *testing.T) { // P12.2
	long, longer := strings.Repeat("a", maxValue), strings.Repeat("a", maxValue+1)
	for name, bad := range map[string][]string{
		"cn":           {"", " ", "    ", "\x1f", "\x7f", "b\xff", "\u00e4", longer, strings.Repeat("b", 1<<16)},
		"title":        {"", " ", "b\n", longer},
		"mail":         {"", "\x1f", "\x7f", "b\x80", longer},
		"entryid":      {"", "\x00", longer},
		"uidnumber":    {"", " ", "07", "-0", "+1", "1 ", "a", "1234567890123456", "-", longer},
		"member":       {"", "a", "cn", "cn=", "cn=a,", "cn=a+cn=b", "1=a", "cn= a", longer},
		"userpassword": {"", longer, strings.Repeat("\xff", maxValue+1)},
	} {
		good := valueFor(name)
		for _, kind := range []int{api.MAdd, api.MReplace} {
			apply(t, nil, api.Mod{Kind: kind, Attr: name, Values: bad}, nil)
			apply(t, nil, api.Mod{Kind: kind, Attr: name, Values: append(slices.Clone(bad), good)}, each(name))
			for _, v := range bad {
				apply(t, nil, api.Mod{Kind: kind, Attr: name, Values: []string{v}}, nil)
				apply(t, nil, api.Mod{Kind: kind, Attr: name, Values: []string{v, good, v}}, each(name))
				apply(t, nil, api.Mod{Kind: kind, Attr: name, Values: []string{good, v}}, each(name)) // also of a single type, behind it
			}
		}
		for _, v := range bad {
			apply(t, each(name), api.Mod{Kind: api.MAdd, Attr: name, Values: []string{v}}, each(name))
			apply(t, each(name), api.Mod{Kind: api.MReplace, Attr: name, Values: []string{v}}, nil)
			apply(t, each(name), api.Mod{Kind: api.MDelete, Attr: name, Values: []string{v}}, each(name))
			with(t, each(name), rdn(name, v), each(name))
			if name == "entryid" {
				continue
			}
			check(t, each(name), nil, []api.Mod{{Kind: api.MAdd, Attr: name, Values: []string{v}}}, api.Syntax)
			check(t, each(name), nil, []api.Mod{{Kind: api.MReplace, Attr: name, Values: []string{good, v}}}, api.Syntax)
			check(t, each(name), nil, []api.Mod{{Kind: api.MDelete, Attr: name, Values: []string{v, good}}}, api.Syntax)
		}
	}
	for _, name := range []string{"cn", "title", "mail", "userpassword"} { // as long as a value may be
		want := []api.Attr{{Name: name, Values: []string{long}}}
		apply(t, nil, api.Mod{Kind: api.MAdd, Attr: name, Values: []string{longer, long, longer}}, want)
		apply(t, nil, api.Mod{Kind: api.MReplace, Attr: name, Values: []string{long}}, want)
		with(t, nil, rdn(name, long), want)
		with(t, nil, rdn(name, longer), nil)
		check(t, nil, nil, []api.Mod{{Kind: api.MAdd, Attr: name, Values: []string{long}}}, api.Success)
		check(t, nil, nil, []api.Mod{{Kind: api.MAdd, Attr: name, Values: []string{longer}}}, api.Syntax)
	}
}

// TestManyValues: MaxValues, and one more.
func TestManyValues(t *testing.T) { // P12.2, P12.3
	of := func(values []string) []api.Attr { return []api.Attr{{Name: "cn", Values: values}} }
	v := numbered(20)
	for n := range 16 {
		for more := range 5 {
			all := v[:n+more]
			kept := all[:min(len(all), maxValues)]
			code := api.Success
			if len(all) > maxValues {
				code = api.Constraint
			}
			added := api.Mod{Kind: api.MAdd, Attr: "cn", Values: v[n:][:more]}
			if n > 0 {
				apply(t, of(v[:n]), added, of(kept))
			}
			if n > 0 && more > 0 {
				check(t, of(v[:n]), nil, []api.Mod{added}, code)
			}
			if len(all) == 0 {
				continue
			}
			for _, kind := range []int{api.MAdd, api.MReplace} {
				apply(t, nil, api.Mod{Kind: kind, Attr: "cn", Values: all}, of(kept))
				check(t, nil, nil, []api.Mod{{Kind: kind, Attr: "cn", Values: all}}, code)
				twice := slices.Concat(all[:len(all)-1], all) // those that are there take no room
				apply(t, nil, api.Mod{Kind: kind, Attr: "cn", Values: twice}, of(kept))
			}
			if n > 0 {
				apply(t, of(all), api.Mod{Kind: api.MReplace, Attr: "cn", Values: v[:n]}, of(v[:min(n, maxValues)]))
			}
		}
	}
	apply(t, of(v[:15]), api.Mod{Kind: api.MDelete, Attr: "cn", Values: v[:2]}, of(v[2:14])) // then the first MaxValues
	apply(t, of(v[:15]), api.Mod{Kind: api.MDelete, Attr: "cn", Values: v[19:]}, of(v[:12]))
	check(t, of(v[:15]), nil, []api.Mod{{Kind: api.MDelete, Attr: "cn", Values: v[:2]}}, api.Constraint)
	check(t, of(v[:15]), nil, []api.Mod{{Kind: api.MDelete, Attr: "cn", Values: v[:3]}}, api.Success)
	check(t, of(v[:15]), nil, []api.Mod{{Kind: api.MDelete, Attr: "cn"}}, api.Success)
	apply(t, of(v[:15]), mod("+sn:a"), append(of(v[:15]), list("sn:a")...)) // another attribute's stay
	with(t, of(v[:12]), rdn("cn", "a"), of(v[:12]))
	with(t, of(v[:11]), rdn("cn", "a", "cn", "b"), of(append(slices.Clone(v[:11]), "a")))
}

// TestSingle: of a single type the last value.
func TestSingle(t *testing.T) { // P12.2, P12.3
	for _, name := range single {
		of := func(v ...string) []api.Attr { return []api.Attr{{Name: name, Values: v}} }
		for _, c := range []struct{ old, values, added, replaced []string }{
			{nil, []string{"1"}, []string{"1"}, []string{"1"}},
			{nil, []string{"1", "2"}, []string{"2"}, []string{"2"}},
			{nil, []string{"1", "2", "3"}, []string{"3"}, []string{"3"}},
			{nil, []string{"1", "2", "1"}, []string{"2"}, []string{"2"}},
			{[]string{"1"}, []string{"2"}, []string{"2"}, []string{"2"}},
			{[]string{"1"}, []string{"1"}, []string{"1"}, []string{"1"}},
			{[]string{"1"}, []string{"2", "1"}, []string{"2"}, []string{"1"}},
			{[]string{"1", "2"}, []string{"1"}, []string{"2"}, []string{"1"}}, // two, as Is takes them
			{[]string{"1", "2"}, []string{"3", "2"}, []string{"3"}, []string{"2"}},
			{[]string{"1", "2"}, nil, []string{"2"}, nil},
		} {
			var l, replaced []api.Attr
			if c.old != nil {
				l = of(c.old...)
			}
			if c.replaced != nil {
				replaced = of(c.replaced...)
			}
			apply(t, l, api.Mod{Kind: api.MAdd, Attr: name, Values: c.values}, of(c.added...))
			apply(t, l, api.Mod{Kind: api.MReplace, Attr: name, Values: c.values}, replaced)
			with(t, nil, rdn(name, "1", name, "2"), of("2"))
			with(t, of("1", "2"), rdn(name, "1"), of("2"))
		}
		if name == "entryid" {
			continue
		}
		for m, want := range map[string]int{"+1": api.Success, "+1|2": api.Constraint, "=1": api.Success, "=1|2": api.Constraint} {
			check(t, nil, nil, mods(m[:1]+name+":"+m[1:]), want)
		}
		for m, want := range map[string]int{"+2": api.Constraint, "=2": api.Success, "=1": api.Success, "=2|1": api.Constraint, "-1": api.Success} {
			check(t, of("1"), nil, mods(m[:1]+name+":"+m[1:]), want)
		}
		check(t, of("1"), nil, mods("-"+name+":1", "+"+name+":2"), api.Success)
		check(t, of("1"), nil, mods("-"+name, "+"+name+":1"), api.Success)
		check(t, of("1"), nil, mods("="+name, "+"+name+":1"), api.Success)
		check(t, of("1", "2", "3"), nil, mods("-"+name+":2"), api.Constraint)
		check(t, of("1", "2"), nil, mods("-"+name+":2"), api.Success)
	}
	check(t, nil, nil, mods("=title:a|b"), api.Constraint)               // the chapter's, asked
	apply(t, list("title:a|b"), mod("+cn:c"), list("cn:c", "title:a|b")) // another attribute's stay
}

// TestManyAttrs: MaxAttrs, and one more at each place.
func TestManyAttrs(t *testing.T) { // P12.2, P12.3
	for i, name := range names {
		others := slices.Delete(slices.Clone(names), i, i+1)
		for cut := range maxAttrs + 1 {
			twelve := slices.Concat(others[:cut], others[len(others)-(maxAttrs-cut):])
			sum := append(slices.Clone(twelve), name)
			slices.Sort(sum)
			l, want := each(twelve...), each(sum[:maxAttrs]...)
			add := api.Mod{Kind: api.MAdd, Attr: name, Values: []string{valueFor(name)}}
			apply(t, l, add, want)
			apply(t, l, api.Mod{Kind: api.MReplace, Attr: name, Values: add.Values}, want)
			with(t, l, rdn(name, valueFor(name)), want)
			if name == "entryid" {
				continue
			}
			check(t, l, nil, []api.Mod{add}, api.Constraint)
			check(t, l, nil, []api.Mod{{Kind: api.MReplace, Attr: name, Values: add.Values}}, api.Constraint)
			check(t, l[1:], nil, []api.Mod{add}, api.Success)
			check(t, l[:11], nil, []api.Mod{add}, api.Success)
			apply(t, l[:11], add, sorted(append(each(twelve[:11]...), each(name)...)))
			gone := twelve[(cut+5)%maxAttrs]
			if gone != "entryid" {
				check(t, l, nil, []api.Mod{{Kind: api.MDelete, Attr: gone}, add}, api.Success)
				check(t, l, nil, []api.Mod{{Kind: api.MReplace, Attr: gone}, add}, api.Success)
				check(t, l, nil, []api.Mod{{Kind: api.MReplace, Attr: gone, Values: []string{valueFor(gone)}}, add}, api.Constraint)
			}
		}
	}
	twelve := list("a1:1", "a2:1", "a3:1", "a4:1", "a5:1", "a6:1", "a7:1", "a8:1", "cn:a|b", "sn:a", "x1:1", "x2:1") // also of no type
	apply(t, twelve, mod("+uid:a"), slices.Concat(twelve[:10], list("uid:a", "x1:1")))
	apply(t, twelve, mod("+cn:c"), slices.Concat(twelve[:8], list("cn:a|b|c"), twelve[9:]))
	thirteen := slices.Concat(list("a0:1"), twelve)
	apply(t, thirteen, mod("-cn:a"), slices.Concat(thirteen[:9], list("cn:b"), thirteen[10:12])) // whatever the mod is
	apply(t, thirteen, mod("-cn"), slices.Concat(thirteen[:9], thirteen[10:]))
	apply(t, thirteen, mod("+nosuch:a"), thirteen) // nothing
	with(t, thirteen, nil, thirteen)
	with(t, thirteen, rdn("nosuch", "a"), thirteen)
	check(t, thirteen, nil, mods("-cn:a"), api.Constraint)
	check(t, thirteen, nil, mods("-cn"), api.Success)
	check(t, thirteen, nil, mods("=cn"), api.Success)
	check(t, thirteen, nil, mods("=cn:a"), api.Constraint)
	check(t, thirteen, nil, nil, api.Success)
}

// sorted lays l by names.
func sorted(l []api.Attr) []api.Attr {
	slices.SortFunc(l, func(a, b api.Attr) int { return strings.Compare(a.Name, b.Name) })
	return l
}

func TestWith(t *testing.T) { // P12.2
	l := list("cn:a|B", "title:x")
	for i, c := range []struct {
		r    api.RDN
		want []api.Attr
	}{
		{nil, l},
		{api.RDN{}, l},
		{rdn("cn", "c"), list("cn:a|B|c", "title:x")},
		{rdn("cn", "b"), l},
		{rdn("cn", "  A "), l},
		{rdn("cn", " C  d "), list("cn:a|B| C  d ", "title:x")}, // as it stands
		{rdn("CN", "c"), list("cn:a|B|c", "title:x")},
		{rdn("sn", "c", "cn", "d"), list("cn:a|B|d", "sn:c", "title:x")},
		{rdn("uid", "1", "sn", "2", "cn", "3", "aci", "4"), list("aci:4", "cn:a|B|3", "sn:2", "title:x", "uid:1")},
		{rdn("title", "y"), list("cn:a|B", "title:y")},
		{rdn("title", "X"), l},
		{rdn("title", "y", "cn", "a"), list("cn:a|B", "title:y")},
		{rdn("title", "y", "Title", "x"), list("cn:a|B", "title:x")}, // one behind the other
		{rdn("entryid", "1.0.0"), list("cn:a|B", "entryid:1.0.0", "title:x")},
		{rdn("nosuch", "c"), l}, // of no type
		{rdn("nosuch", "c", "cn", "d"), list("cn:a|B|d", "title:x")},
		{rdn("cn", ""), l}, // values that can't be
		{rdn("cn", " ", "sn", "c"), list("cn:a|B", "sn:c", "title:x")},
		{rdn("uidnumber", "07"), l},
		{rdn("", ""), l},
		{rdn("cn", "c", "cn", "C", "cn", "d", "cn", "e", "cn", "f"), list("cn:a|B|c|d|e|f", "title:x")}, // what is no part of a name
	} {
		alike(t, fmt.Sprintf("P12.2: With, row %d", i), attrs.With(l, c.r), c.want)
		var one []api.Attr = l
		for _, a := range c.r {
			one = attrs.Apply(one, api.Mod{Kind: api.MAdd, Attr: a.Attr, Values: []string{a.Value}})
		}
		alike(t, fmt.Sprintf("P12.2: Apply of each AVA, row %d", i), one, c.want)
	}
	with(t, nil, nil, nil)
	with(t, nil, rdn("sn", "a", "cn", "b"), list("cn:b", "sn:a"))
}

// TestWrong: of what isn't Is, what comes of all is asked.
func TestWrong(t *testing.T) { // P12.1
	r := rand.New(rand.NewSource(12))
	for _, c := range wrong() {
		with(t, c.l, nil, c.want)
		check(t, c.l, nil, nil, api.Success)
		for _, s := range []string{"+cn:a", "+cn:b|q", "-cn:a", "-cn", "=cn:z", "+title:b", "-title:b", "+aci:q", "-sn", "+sn:v01", "+uidnumber:3", "=entryid:2", "+x:a", "-userpassword"} {
			m := mod(s)
			alike(t, "P12.1: Apply of "+s+" to "+short(c.l), attrs.Apply(c.l, m), attrs.Apply(c.want, m))
			parts := rdn("cn", "a", "sn", "a", "title", "b", "uid", "q")
			alike(t, "P12.1: With of "+short(c.l), attrs.With(c.l, parts), attrs.With(c.want, parts))
			for _, part := range []api.RDN{nil, rdn("cn", "a"), rdn("title", "B"), rdn("sn", "v02")} {
				both := []api.Mod{m, someMod(r)}
				if got, want := attrs.Check(c.l, part, both), attrs.Check(c.want, part, both); got != want {
					t.Errorf("P12.1: Check of %s %q, %s: %d; of what comes of it: %d", short(c.l), part, told(both), got, want)
				}
			}
		}
	}
	check(t, list("sn:a", "cn:b"), nil, mods("+cn:B"), api.ValueExists)
	check(t, list("CN:b"), nil, mods("+cn:B"), api.ValueExists)
	check(t, list("CN:b"), nil, mods("-cn:B"), api.Success)
	check(t, list("cn:b", "cn:c"), nil, mods("-cn:c"), api.Success)
	check(t, list("title:b", "title:c"), nil, mods("-title:b"), api.NoAttribute) // it went when the other one came
	check(t, list("cn:a|A", "x:b"), nil, mods("-cn:a", "-cn"), api.NoAttribute)
	check(t, list("cn:a|\xff|A"), nil, mods("-cn:a", "-cn"), api.NoAttribute)
	check(t, list("cn:a", "sn"), nil, mods("-sn"), api.NoAttribute)
}

// TestUndefined: the first code.
func TestUndefined(t *testing.T) { // P12.3
	l := list("cn:a", "entryid:1.0.0", "x:a")
	for _, name := range append([]string{"entryid", "EntryID", "ENTRYID"}, noTypes...) {
		for _, kind := range append([]int{api.MAdd, api.MDelete, api.MReplace}, noKinds...) {
			for _, values := range [][]string{nil, {}, {"1.0.0"}, {"a"}, {""}, {"a", "a"}, {"a", "b", "\xff"}} {
				check(t, l, rdn("entryid", "1.0.0"), []api.Mod{{Kind: kind, Attr: name, Values: values}}, api.Undefined)
				check(t, nil, nil, []api.Mod{{Kind: kind, Attr: name, Values: values}}, api.Undefined)
			}
		}
	}
	check(t, l, nil, []api.Mod{{}}, api.Undefined)
}

func TestProtocol(t *testing.T) { // P12.3
	l := list("cn:a", "title:x")
	for _, name := range []string{"cn", "CN", "title", "sn", "uidnumber", "member"} {
		for _, kind := range noKinds {
			for _, values := range [][]string{nil, {}, {"a"}, {""}, {"a", "A"}, {"q"}} {
				check(t, l, rdn("cn", "a"), []api.Mod{{Kind: kind, Attr: name, Values: values}}, api.Protocol)
			}
		}
		check(t, l, rdn("cn", "a"), []api.Mod{{Kind: api.MAdd, Attr: name}}, api.Protocol)
		check(t, l, rdn("cn", "a"), []api.Mod{{Kind: api.MAdd, Attr: name, Values: []string{}}}, api.Protocol)
	}
}

func TestCheck(t *testing.T) { // P12.3
	l := list("cn:a|B", "mail:m", "sn:a", "title:x")
	r := rdn("cn", "A", "title", "X")
	for m, want := range map[string]int{
		"+cn:c": api.Success, "+CN:c|d": api.Success, "+mail:M": api.Success, "+ou:a|b": api.Success, "+uidnumber:7": api.Success,
		"-cn:b": api.Success, "-mail": api.Success, "-mail:m": api.Success, "-SN:A": api.Success, "-sn": api.Success,
		"=cn:a": api.Success, "=cn: A |c": api.Success, "=title:X": api.Success, "=mail": api.Success, "=ou": api.Success, "=ou:a": api.Success, "=sn:b|c": api.Success,

		"+cn:": api.Syntax, "+cn:c| ": api.Syntax, "-cn:\x00": api.Syntax, "=cn:a|\xff": api.Syntax, "=sn:": api.Syntax, "-ou:": api.Syntax, "+uidnumber:07": api.Syntax, "+member:a": api.Syntax, "-uidnumber:x": api.Syntax,
		"+cn:a|\xff": api.Syntax, "+cn:c|c|": api.Syntax, "=title:|": api.Syntax, "-cn:a|": api.Syntax, // ahead of those behind it

		"+cn:A": api.ValueExists, "+cn:c|b": api.ValueExists, "+cn: a ": api.ValueExists, "+cn:c|d|C": api.ValueExists, "+ou:a|A": api.ValueExists, "+title:x": api.ValueExists, "+title:y|Y": api.ValueExists, "+title:y|x": api.ValueExists,
		"-cn:b|B": api.ValueExists, "-ou:a|a": api.ValueExists, "-cn:d|e|D": api.ValueExists, "=sn:c|d|C": api.ValueExists, "=cn:c|c": api.ValueExists, "=title:z|Z": api.ValueExists,

		"-cn:c": api.NoAttribute, "-cn:b|c": api.NoAttribute, "-cn:c|b": api.NoAttribute, "-cn:a|b|c": api.NoAttribute, "-mail:M": api.NoAttribute, "-ou": api.NoAttribute, "-ou:a": api.NoAttribute, "-uidnumber": api.NoAttribute, "-title:y": api.NoAttribute, "-title:x|y": api.NoAttribute,

		"-cn:a": api.NotOnRDN, "-cn:A|b": api.NotOnRDN, "-cn": api.NotOnRDN, "-title": api.NotOnRDN, "-title:X": api.NotOnRDN, "=cn": api.NotOnRDN, "=cn:b": api.NotOnRDN, "=cn:c|d": api.NotOnRDN, "=title": api.NotOnRDN, "=title:y": api.NotOnRDN, "=title:y|z": api.NotOnRDN,

		"+title:y": api.Constraint, "+title:y|z": api.Constraint, "+uidnumber:1|2": api.Constraint, "=title:x|y": api.Constraint, "=title:y|X": api.Constraint, "=c:1|2": api.Constraint,
		"=cn:" + strings.Join(append(numbered(12), "a"), "|"): api.Constraint, "=cn:" + strings.Join(append(numbered(11), "a"), "|"): api.Success, "=cn:" + strings.Join(numbered(13), "|"): api.NotOnRDN,
		"+cn:" + strings.Join(numbered(10), "|"): api.Success, "+cn:" + strings.Join(numbered(11), "|"): api.Constraint,
	} {
		check(t, l, r, mods(m), want)
		if want != api.NotOnRDN {
			check(t, l, nil, mods(m), want)
		}
	}
	check(t, l, nil, nil, api.Success)
	check(t, nil, r, nil, api.Success) // without a mod nothing is asked
	check(t, nil, nil, []api.Mod{}, api.Success)
}

// TestOnRDN: what of a part of a name plays a part.
func TestOnRDN(t *testing.T) { // P12.3
	for i, c := range []struct {
		l    []api.Attr
		r    api.RDN
		m    string
		want int
	}{
		{list("cn:a", "sn:a"), rdn("sn", "a"), "-cn", api.Success}, // another attribute's
		{list("cn:a", "sn:a"), rdn("cn", "a", "sn", "a"), "-cn", api.NotOnRDN},
		{list("cn:a", "sn:a"), rdn("sn", "a", "cn", "a"), "-cn", api.NotOnRDN},
		{list("cn:a", "sn:a"), rdn("sn", "a", "cn", "a"), "=sn:A", api.Success}, // in another form
		{list("cn:a b"), rdn("cn", " A  b "), "=cn:A  B", api.Success},
		{list("cn:a b"), rdn("cn", "a b"), "=cn:ab", api.NotOnRDN},
		{list("mail:a"), rdn("mail", "a"), "=mail:A", api.NotOnRDN},
		{list("member:cn=a"), rdn("member", "cn=a"), "=member:CN=A", api.Success},
		{list("member:cn=a"), rdn("member", "cn=a"), "=member:cn=b", api.NotOnRDN},
		{list("cn:b"), rdn("cn", "a"), "-cn:b", api.NotOnRDN}, // also where it wasn't there before
		{list("cn:b"), rdn("cn", "a"), "=cn:c", api.NotOnRDN},
		{list("cn:b"), rdn("cn", "a"), "=cn:c|a", api.Success},
		{list("cn:b"), rdn("cn", "a"), "+cn:c", api.Success}, // an MAdd is asked nothing
		{nil, rdn("cn", "a"), "=cn", api.NotOnRDN},
		{nil, rdn("cn", "a"), "=cn:b", api.NotOnRDN},
		{nil, rdn("cn", "a"), "-cn", api.NoAttribute},
		{nil, rdn("cn", "a"), "=sn:b", api.Success},
		{list("cn:a|b"), rdn("cn", "a", "cn", "b"), "-cn:a", api.NotOnRDN}, // what is no part of a name
		{list("cn:a|b"), rdn("cn", "b", "cn", "a"), "=cn:a|B", api.Success},
		{list("cn:a|b"), rdn("CN", "A"), "-cn:a", api.NotOnRDN},
		{list("cn:a|b"), rdn("nosuch", "A", "", ""), "-cn:a", api.Success},
		{list("cn:a|b"), rdn("cn", ""), "=cn:b", api.NotOnRDN},
		{list("title:a"), rdn("title", "a"), "=title:b|a", api.Constraint}, // all Values taken
		{list("title:a"), rdn("title", "a"), "=title:a|b", api.Constraint},
		{list("title:a|b"), rdn("title", "a"), "-title:b", api.Success},
		{list("title:a|b"), rdn("title", "a"), "-title:a", api.NotOnRDN},
		{list("title:a|b|c"), rdn("title", "a"), "-title:b", api.Constraint},
		{[]api.Attr{{Name: "cn", Values: numbered(14)}}, rdn("cn", "v14"), "-cn:v01", api.Constraint},
		{[]api.Attr{{Name: "cn", Values: numbered(14)}}, rdn("cn", "v14"), "-cn:v14", api.NotOnRDN},
	} {
		if got := attrs.Check(c.l, c.r, mods(c.m)); got != c.want {
			t.Errorf("P12.3: row %d: %d; want %d", i, got, c.want)
		}
	}
}

// TestOrder: each mod is asked on what those ahead of it made, and the first code is told.
func TestOrder(t *testing.T) { // P12.3
	l := list("cn:a", "title:x")
	r := rdn("cn", "a")
	for i, c := range []struct {
		m    []api.Mod
		want int
	}{
		{mods("+sn:b", "+sn:c", "-sn:B", "-sn:C", "=ou:d"), api.Success},
		{mods("+sn:b", "+sn:B"), api.ValueExists},
		{mods("+sn:b", "-sn:b", "+sn:b"), api.Success},
		{mods("-sn:b", "+sn:b"), api.NoAttribute},
		{mods("+sn:b", "-sn", "-sn"), api.NoAttribute},
		{mods("=sn:b", "=sn:b|c", "-sn:c", "-sn:c"), api.NoAttribute},
		{mods("-title", "+title:y"), api.Success},
		{mods("+title:y", "-title:x"), api.Constraint}, // not both at once
		{mods("+title:y", "+nosuch:a"), api.Constraint},
		{mods("+nosuch:a", "+title:y"), api.Undefined},
		{mods("+sn:", "+nosuch:a"), api.Syntax},
		{mods("+sn:b", "+nosuch:a", "+sn:"), api.Undefined},
		{mods("+sn:b", "+sn:b", "+nosuch:a"), api.ValueExists},
		{mods("-cn", "+cn:a"), api.NotOnRDN}, // though it would be there behind all
		{mods("+cn:b", "-cn:a"), api.NotOnRDN},
		{mods("+cn:b", "-cn:b"), api.Success},
		{mods("=cn:b|a", "-cn:b", "-cn:b"), api.NoAttribute},
		{mods("+sn", "-sn"), api.Protocol},
		{mods("-sn", "+sn"), api.NoAttribute},
		{[]api.Mod{mod("+sn:b"), {Kind: 4, Attr: "sn"}}, api.Protocol},
		{[]api.Mod{mod("+sn:b"), {Kind: 4, Attr: "x"}}, api.Undefined},
		{[]api.Mod{{Kind: 4, Attr: "sn"}, mod("+x:b")}, api.Protocol},
		{mods("+SN:b", "+sN:c", "-Sn:B", "=sn:c|C"), api.ValueExists},
		{mods("+ou:" + strings.Join(numbered(12), "|")), api.Success},
		{mods("+ou:"+strings.Join(numbered(12), "|"), "+ou:a"), api.Constraint},
		{mods("+ou:"+strings.Join(numbered(12), "|"), "-ou:v03", "+ou:a", "-ou:a|v12", "+ou:b|c"), api.Success},
	} {
		if got := attrs.Check(l, r, c.m); got != c.want {
			t.Errorf("P12.3: row %d: %d; want %d", i, got, c.want)
		}
	}
	var many []api.Mod
	for range 200 { // more than a change may have
		many = append(many, mods("+sn:b", "-sn:b")...)
	}
	check(t, l, r, many, api.Success)
	check(t, l, r, append(many, mod("-sn:b")), api.NoAttribute)
}

// TestFirstCode: of one mod that gives several codes the first one is told.
func TestFirstCode(t *testing.T) { // P12.3
	l := append(each("aci", "c", "dc", "description", "mail", "member", "o", "ou", "sn", "title", "uid"), list("userpassword:a")...)
	r := rdn("title", "a", "cn", "z")
	for i, c := range []struct {
		m    api.Mod
		want int
	}{
		{api.Mod{Kind: 9, Attr: "entryid", Values: []string{"", ""}}, api.Undefined},
		{api.Mod{Kind: 9, Attr: "title", Values: []string{"", ""}}, api.Protocol},
		{mod("=title:|b|b"), api.Syntax},       // and ValueExists, NotOnRDN, Constraint
		{mod("-title:|b|b"), api.Syntax},       // and NoAttribute
		{mod("=title:b|c|B"), api.ValueExists}, // and NotOnRDN, Constraint
		{mod("-title:b|b"), api.ValueExists},   // and NoAttribute, NotOnRDN
		{mod("+title:b|a"), api.ValueExists},   // and Constraint
		{mod("-title:a|b"), api.NoAttribute},   // and NotOnRDN
		{mod("-cn"), api.NoAttribute},          // and NotOnRDN
		{mod("-cn:z"), api.NoAttribute},
		{mod("=title:b|c"), api.NotOnRDN}, // and Constraint
		{mod("=cn:a"), api.NotOnRDN},      // and Constraint: one attribute more
		{mod("=cn:a|Z"), api.Constraint},
		{mod("+cn:a"), api.Constraint},
		{mod("=title:A|c"), api.Constraint},
	} {
		if got := attrs.Check(l, r, []api.Mod{c.m}); got != c.want {
			t.Errorf("P12.3: row %d: %d; want %d", i, got, c.want)
		}
	}
}

// TestEntryID: Apply takes it, Check doesn't.
func TestEntryID(t *testing.T) { // P12.2, P12.3
	l := list("cn:a", "entryid:1.0.0")
	for m, want := range map[string][]api.Attr{
		"+EntryID:2.0.0": list("cn:a", "entryid:2.0.0"),
		"+entryid:1.0.0": l,
		"-entryid":       list("cn:a"),
		"-entryid:1.0.0": list("cn:a"),
		"=entryid:3|4":   list("cn:a", "entryid:4"),
		"=entryid":       list("cn:a"),
	} {
		apply(t, l, mod(m), want)
		check(t, l, nil, mods(m), api.Undefined)
	}
}

// model is what the chapter's words say, by another way than the package's: values are asked one by one, and the attributes lie in a map.
type model map[string][]string

// equalAt tells where of values one is Equal to v: less than 0, if none is.
func equalAt(name string, values []string, v string) int {
	return slices.IndexFunc(values, func(w string) bool { return match.Equal(name, v, w) })
}

// load tells the model of l.
func load(l []api.Attr) model {
	m := model{}
	if !modelIs(l) {
		for _, a := range l {
			m.apply(api.Mod{Kind: api.MAdd, Attr: a.Name, Values: a.Values})
		}
		return m
	}
	for _, a := range l {
		m[a.Name] = slices.Clone(a.Values)
	}
	return m
}

func modelIs(l []api.Attr) bool {
	seen := ""
	for _, a := range l {
		if !dn.IsType(a.Name) || a.Name <= seen || len(a.Values) == 0 {
			return false
		}
		seen = a.Name
		for i, v := range a.Values {
			if equalAt(a.Name, a.Values[:i], v) >= 0 {
				return false
			}
		}
	}
	return true
}

// list tells what the model holds.
func (m model) list() []api.Attr {
	var l []api.Attr
	for name, values := range m {
		l = append(l, api.Attr{Name: name, Values: values})
	}
	return sorted(l)
}

// after tells the values behind a mod, all of them taken but those that bad takes; false of another kind.
func (m model) after(mod api.Mod, bad func(v string) bool) ([]string, bool) {
	name := dn.Lower(mod.Attr)
	values := slices.Clone(m[name])
	if mod.Kind < 1 || mod.Kind > 3 {
		return nil, false
	}
	if mod.Kind == api.MReplace || mod.Kind == api.MDelete && len(mod.Values) == 0 {
		values = nil
	}
	for _, v := range mod.Values {
		at := equalAt(name, values, v)
		switch {
		case mod.Kind == api.MDelete && at >= 0:
			values = slices.Delete(values, at, at+1)
		case mod.Kind != api.MDelete && at < 0 && !bad(v):
			values = append(values, v)
		}
	}
	return values, true
}

func (m model) apply(mod api.Mod) {
	name := dn.Lower(mod.Attr)
	if !slices.Contains(names, name) {
		return
	}
	values, ok := m.after(mod, func(v string) bool { return schema.Check(name, v) != api.OK })
	if !ok {
		return
	}
	for slices.Contains(single, name) && len(values) > 1 {
		values = values[1:]
	}
	for len(values) > maxValues {
		values = values[:len(values)-1]
	}
	m[name] = values
	if len(values) == 0 {
		delete(m, name)
	}
	for len(m) > maxAttrs {
		greatest := ""
		for name := range m {
			greatest = max(greatest, name)
		}
		delete(m, greatest)
	}
}

// code tells the code of one mod.
func (m model) code(r api.RDN, mod api.Mod) int {
	name := dn.Lower(mod.Attr)
	old := m[name]
	if !slices.Contains(names, name) || name == "entryid" {
		return api.Undefined
	}
	if mod.Kind != api.MAdd && mod.Kind != api.MDelete && mod.Kind != api.MReplace || mod.Kind == api.MAdd && len(mod.Values) == 0 {
		return api.Protocol
	}
	for _, v := range mod.Values {
		if schema.Check(name, v) != api.OK {
			return api.Syntax
		}
	}
	for i, v := range mod.Values {
		if equalAt(name, mod.Values[:i], v) >= 0 || mod.Kind == api.MAdd && equalAt(name, old, v) >= 0 {
			return api.ValueExists
		}
	}
	for _, v := range mod.Values {
		if mod.Kind == api.MDelete && equalAt(name, old, v) < 0 {
			return api.NoAttribute
		}
	}
	if mod.Kind == api.MDelete && old == nil {
		return api.NoAttribute
	}
	values, _ := m.after(mod, func(string) bool { return false })
	for _, a := range r {
		if mod.Kind != api.MAdd && a.Attr == name && equalAt(name, values, a.Value) < 0 {
			return api.NotOnRDN
		}
	}
	count := len(m)
	if old != nil {
		count--
	}
	if len(values) > 0 {
		count++
	}
	if count > maxAttrs || len(values) > maxValues || slices.Contains(single, name) && len(values) > 1 {
		return api.Constraint
	}
	return api.Success
}

func modelCheck(l []api.Attr, r api.RDN, mods []api.Mod) int {
	m := load(l)
	for _, mod := range mods {
		if code := m.code(r, mod); code != api.Success {
			return code
		}
		m.apply(mod)
	}
	return api.Success
}

func pick[T any](r *rand.Rand, l ...T) T { return l[r.Intn(len(l))] }

// someValue tells a value, of few, so that many are Equal; now and then one that can't be.
func someValue(r *rand.Rand, name string) string {
	switch {
	case r.Intn(20) == 0:
		return pick(r, "", " ", "\xff", "a\x00", strings.Repeat("a", maxValue+1), "07", "cn")
	case name == "member":
		return pick(r, "cn=a", "CN=A", `cn=\61`, "cn=b,o=c", "O=C", "o=c,cn=b", "cn=a+sn=b", "SN=B+CN=A")
	case name == "uidnumber":
		return strconv.Itoa(r.Intn(5) - 2)
	}
	return pick(r, "a", "A", " a ", "b", "B", "a b", "A  B", "c", "d", "v"+strconv.Itoa(r.Intn(15)))
}

func someValues(r *rand.Rand, name string, n int) []string {
	var l []string
	for range n {
		l = append(l, someValue(r, dn.Lower(name)))
	}
	return l
}

// someName tells a type's name, now and then in large letters, or of no type.
func someName(r *rand.Rand) string {
	switch r.Intn(12) {
	case 0:
		return strings.ToUpper(pick(r, names...))
	case 1:
		return pick(r, "x", "a1", "objectclass", "zz", "")
	}
	return pick(r, pick(r, names...), "cn", "sn", "title")
}

func someMod(r *rand.Rand) api.Mod {
	name := someName(r)
	kind := pick(r, api.MAdd, api.MAdd, api.MDelete, api.MReplace)
	if r.Intn(30) == 0 {
		kind = pick(r, noKinds...)
	}
	return api.Mod{Kind: kind, Attr: name, Values: someValues(r, name, pick(r, 0, 1, 1, 1, 2, 2, 3, 5, r.Intn(16)))}
}

// someAttrs tells attributes: such as mods make, or such as come by chance.
func someAttrs(r *rand.Rand) []api.Attr {
	var l []api.Attr
	if r.Intn(2) == 0 {
		for range r.Intn(25) {
			l = attrs.Apply(l, someMod(r))
		}
		return l
	}
	for range r.Intn(16) {
		name := someName(r)
		l = append(l, api.Attr{Name: name, Values: someValues(r, name, pick(r, 0, 1, 1, 1, 2, 2, 3, 5, r.Intn(16)))})
	}
	if r.Intn(2) == 0 {
		return l
	}
	l = slices.CompactFunc(sorted(l), func(a, b api.Attr) bool { return a.Name == b.Name })
	for i, a := range l {
		l[i].Values = slices.CompactFunc(a.Values, func(v, w string) bool { return match.Equal(a.Name, v, w) })
	}
	return slices.DeleteFunc(l, func(a api.Attr) bool { return !dn.IsType(a.Name) || len(a.Values) == 0 })
}

// someRDN tells a part of a name, often of what l has.
func someRDN(r *rand.Rand, l []api.Attr) api.RDN {
	var parts api.RDN
	for range r.Intn(4) {
		name := pick(r, names...)
		v := someValue(r, name)
		if len(l) > 0 && r.Intn(3) > 0 {
			a := pick(r, l...)
			name = dn.Lower(a.Name)
			if len(a.Values) > 0 {
				v = pick(r, a.Values...)
			}
		}
		parts = append(parts, api.AVA{Attr: name, Value: v})
	}
	return parts
}

func TestModel(t *testing.T) { // P12.1, P12.2, P12.3
	r := rand.New(rand.NewSource(120))
	codes := map[int]int{}
	isIs := 0
	for range 20000 {
		l, m := someAttrs(r), someMod(r)
		if got, want := attrs.Is(l), modelIs(l); got != want {
			t.Fatalf("P12.1: Is of %s: %v", text(l), got)
		} else if got {
			isIs++
		}
		want := load(l)
		want.apply(m)
		apply(t, l, m, want.list())
		parts := someRDN(r, l)
		want = load(l)
		for _, a := range parts {
			want.apply(api.Mod{Kind: api.MAdd, Attr: a.Attr, Values: []string{a.Value}})
		}
		with(t, l, parts, want.list())
		var l2 []api.Mod
		for range r.Intn(5) {
			l2 = append(l2, someMod(r))
		}
		for _, c := range [][]api.Mod{{m}, l2} {
			code := modelCheck(l, parts, c)
			codes[code]++
			check(t, l, parts, c, code)
		}
		if t.Failed() {
			return
		}
	}
	for _, code := range []int{api.Success, api.Undefined, api.Protocol, api.Syntax, api.ValueExists, api.NoAttribute, api.NotOnRDN, api.Constraint} {
		if codes[code] < 100 {
			t.Errorf("code %d was asked for %d times only", code, codes[code])
		}
	}
	if isIs < 4000 || isIs > 16000 {
		t.Errorf("%d are Is", isIs)
	}
}

// fits asks that l is as entries that were merged have their attributes.
func fits(t *testing.T, what string, l []api.Attr) {
	t.Helper()
	if !attrs.Is(l) || len(l) > maxAttrs {
		t.Fatalf("P12.4: %s: %s", what, text(l))
	}
	for _, a := range l {
		if len(a.Values) > maxValues || slices.Contains(single, a.Name) && len(a.Values) > 1 {
			t.Fatalf("P12.4: %s: too many values: %s", what, text(l))
		}
		for _, v := range a.Values {
			if schema.Check(a.Name, v) != api.OK {
				t.Fatalf("P12.4: %s: a value that can't be: %s", what, text(l))
			}
		}
	}
}

// did asks that m did all that it says.
func did(t *testing.T, l []api.Attr, m api.Mod, after []api.Attr) {
	t.Helper()
	name := dn.Lower(m.Attr)
	for _, v := range m.Values {
		if attrs.Has(after, name, v) != (m.Kind != api.MDelete) {
			t.Fatalf("P12.4: %s of %s wasn't done: %s", told(m), text(l), text(after))
		}
	}
	before, now := len(attrs.Get(l, name)), len(attrs.Get(after, name))
	want := map[int]int{api.MAdd: before + len(m.Values), api.MDelete: before - len(m.Values), api.MReplace: len(m.Values)}[m.Kind]
	if m.Kind == api.MDelete && len(m.Values) == 0 {
		want = 0
	}
	if now != want {
		t.Fatalf("P12.4: %s of %s: %d values; want %d", told(m), text(l), now, want)
	}
	others := func(l []api.Attr) []api.Attr {
		return slices.DeleteFunc(slices.Clone(l), func(a api.Attr) bool { return a.Name == name })
	}
	if text(others(l)) != text(others(after)) {
		t.Fatalf("P12.4: %s of %s: others are changed: %s", told(m), text(l), text(after))
	}
}

// TestAskedAndMerged: what Check takes is done word by word, and the name stays true; what it doesn't take, Apply takes as it comes.
func TestAskedAndMerged(t *testing.T) { // P12.4
	r := rand.New(rand.NewSource(124))
	done := 0
	for range 800 {
		part := rdn("cn", someValue(r, "cn"), pick(r, "title", "uid", "member"), "cn=b")
		if schema.Check("cn", part[0].Value) != api.OK {
			continue
		}
		l := attrs.With(nil, part)
		for range 40 {
			m := someMod(r)
			code := attrs.Check(l, part, []api.Mod{m})
			after := attrs.Apply(l, m)
			fits(t, "Apply", after)
			if code != api.Success {
				continue
			}
			did(t, l, m, after)
			for _, a := range part {
				if !attrs.Has(after, a.Attr, a.Value) {
					t.Fatalf("P12.4: %s of %s: the name isn't true any more", told(m), text(l))
				}
			}
			l = after
			done++
		}
		alike(t, "P12.4: With of what is there", attrs.With(l, part), l)
		var merged []api.Attr
		for range 40 {
			merged = attrs.Apply(merged, someMod(r))
			fits(t, "Apply", merged)
		}
		fits(t, "With", attrs.With(merged, someRDN(r, l)))
		fits(t, "With", attrs.With(nil, someRDN(r, l)))
	}
	if done < 5000 {
		t.Errorf("only %d mods were done", done)
	}
}

// TestAgain: what was done, done again, changes nothing; but of a single type, whose last value comes of several.
func TestAgain(t *testing.T) { // P12.2
	r := rand.New(rand.NewSource(125))
	for range 5000 {
		l, m := someAttrs(r), someMod(r)
		once := attrs.Apply(l, m)
		if slices.Contains(single, dn.Lower(m.Attr)) && m.Kind == api.MAdd {
			continue
		}
		alike(t, "P12.2: Apply twice of "+told(m), attrs.Apply(once, m), once)
		alike(t, "P12.2: Apply, as before, of "+told(m), attrs.Apply(l, m), once)
	}
	once := attrs.Apply(nil, mod("+title:a|b"))
	alike(t, "P12.2: Apply of two to a single type", once, list("title:b"))
	alike(t, "P12.2: Apply of both again", attrs.Apply(once, mod("+title:a|b")), list("title:a"))
}

// TestLong: what is long ends soon.
func TestLong(t *testing.T) { // P12.1, P12.2, P12.3
	const n = 1 << 16
	var v []string
	for i := range n {
		v = append(v, strconv.Itoa(i))
	}
	of := func(name string, values []string) []api.Attr { return []api.Attr{{Name: name, Values: values}} }
	if !attrs.Is(of("cn", v)) || attrs.Is(of("cn", append(v[:n:n], "7"))) || !attrs.Has(of("cn", v), "CN", strconv.Itoa(n-1)) || attrs.Has(of("cn", v), "cn", "x") {
		t.Error("P12.1: of many values")
	}
	if got := attrs.Get(of("cn", v), "cn"); !slices.Equal(got, v) {
		t.Error("P12.1: Get of many values")
	}
	apply(t, nil, api.Mod{Kind: api.MAdd, Attr: "cn", Values: v}, of("cn", v[:maxValues]))
	apply(t, of("cn", v), api.Mod{Kind: api.MAdd, Attr: "cn", Values: v}, of("cn", v[:maxValues]))
	apply(t, nil, api.Mod{Kind: api.MReplace, Attr: "uidnumber", Values: v}, of("uidnumber", v[n-1:]))
	apply(t, of("cn", v), api.Mod{Kind: api.MDelete, Attr: "cn", Values: v[:n-3]}, of("cn", v[n-3:]))
	apply(t, of("cn", v), api.Mod{Kind: api.MDelete, Attr: "cn", Values: v}, nil)
	check(t, nil, nil, []api.Mod{{Kind: api.MAdd, Attr: "cn", Values: v}}, api.Constraint)
	check(t, nil, nil, []api.Mod{{Kind: api.MAdd, Attr: "cn", Values: append(v[:n:n], "7")}}, api.ValueExists)
	check(t, of("cn", v), nil, []api.Mod{{Kind: api.MDelete, Attr: "cn", Values: v[:n-3]}}, api.Success)
	check(t, of("cn", v), nil, []api.Mod{{Kind: api.MAdd, Attr: "cn", Values: v[n-1:]}}, api.ValueExists)
	var l, want []api.Attr
	var m []api.Mod
	var r api.RDN
	for i := range n {
		name := "a" + fmt.Sprintf("%06d", i)
		l = append(l, api.Attr{Name: name, Values: v[:2]})
		m = append(m, api.Mod{Kind: api.MReplace, Attr: "cn", Values: v[i : i+1]})
		r = append(r, api.AVA{Attr: "nosuch", Value: v[i]})
		want = append(want, api.Attr{Name: name, Values: v[:2]})
	}
	if !attrs.Is(l) || attrs.Is(append(l[:n:n], l[n-1])) {
		t.Error("P12.1: of many attributes")
	}
	with(t, l, r, want)
	apply(t, l, mod("+cn:a"), want[:maxAttrs])
	apply(t, append(l[:n:n], list("cn:a", "b:c")...), mod("+sn:a"), list("cn:a", "sn:a"))
	check(t, l, r, m, api.Constraint)
	check(t, nil, rdn("cn", v[n-1]), m[n-1:], api.Success)
	check(t, nil, r, m[:9], api.Success)
	check(t, nil, append(r, rdn("cn", "x")...), m[:9], api.NotOnRDN)
	check(t, nil, nil, append(m, mod("+cn:"+v[n-1])), api.ValueExists)
	long := strings.Repeat("a", 1<<20)
	apply(t, of("cn", []string{long, long + "b"}), api.Mod{Kind: api.MDelete, Attr: "cn", Values: []string{strings.ToUpper(long)}}, of("cn", []string{long + "b"}))
}

// room tells l with spare room behind each of its lists, and what must stay of it all.
func room(l []api.Attr) ([]api.Attr, func() string) {
	wide := append(make([]api.Attr, 0, len(l)+3), l...)
	for i, a := range l {
		wide[i].Values = append(make([]string, 0, len(a.Values)+3), a.Values...)
		behind := wide[i].Values[len(a.Values):cap(wide[i].Values)]
		for j := range behind {
			behind[j] = "behind"
		}
	}
	behind := wide[len(l):cap(wide)]
	for j := range behind {
		behind[j] = api.Attr{Name: "behind", Values: []string{"behind"}}
	}
	return wide, func() string {
		s := text(wide[:cap(wide)])
		for _, a := range wide {
			s += fmt.Sprintf("%q", a.Values[:cap(a.Values)])
		}
		return s
	}
}

// spoil overwrites l, all that hangs on it, and the room behind.
func spoil(l []api.Attr) {
	for _, a := range l {
		values := a.Values[:cap(a.Values)]
		for i := range values {
			values[i] = "spoilt"
		}
	}
	for i := range l[:cap(l)] {
		l[:cap(l)][i] = api.Attr{Name: "spoilt", Values: []string{"spoilt"}}
	}
}

// calls are the calls that answer attributes or values.
func calls() map[string]func(l []api.Attr) []api.Attr {
	m := map[string]func(l []api.Attr) []api.Attr{
		"With none": func(l []api.Attr) []api.Attr { return attrs.With(l, nil) },
		"With one":  func(l []api.Attr) []api.Attr { return attrs.With(l, rdn("cn", "q")) },
		"With two":  func(l []api.Attr) []api.Attr { return attrs.With(l, rdn("sn", "q", "title", "q")) },
		"no kind":   func(l []api.Attr) []api.Attr { return attrs.Apply(l, api.Mod{Attr: "cn"}) },
		"Get cn":    func(l []api.Attr) []api.Attr { return []api.Attr{{Name: "cn", Values: attrs.Get(l, "CN")}} },
		"Get x":     func(l []api.Attr) []api.Attr { return []api.Attr{{Name: "x", Values: attrs.Get(l, "x")}} },
		"Check": func(l []api.Attr) []api.Attr {
			attrs.Check(l, rdn("cn", "a"), mods("+ou:q", "-ou:q", "=cn:a", "+cn:q"))
			return nil
		},
		"Is, Has ..":  func(l []api.Attr) []api.Attr { attrs.Is(l); attrs.Has(l, "cn", "a"); attrs.Same(l, l); return nil },
		"Get, no one": func(l []api.Attr) []api.Attr { return []api.Attr{{Values: attrs.Get(l, "nosuch")}} },
	}
	for _, s := range []string{"+cn:q|r", "+cn:a", "+cn", "+aci:q", "+userpassword:q", "-cn:a", "-cn:zz", "-cn", "-sn", "=cn:q", "=cn", "=title:q|r", "+x:a", "-x", "+entryid:q"} {
		m[s] = func(l []api.Attr) []api.Attr { return attrs.Apply(l, mod(s)) }
	}
	return m
}

// TestApart: what is handed in stays, and what is answered shares no memory with it.
func TestApart(t *testing.T) { // what holds everywhere
	lists := append(right(), list("cn:a|b|c", "sn:a", "title:x", "x:a|b"))
	for _, c := range wrong() {
		lists = append(lists, c.l)
	}
	for what, call := range calls() {
		for _, l := range lists {
			wide, all := room(l)
			before := all()
			got := call(wide)
			want := text(got)
			spoil(got)
			if all() != before {
				t.Errorf("%s of %s: what was handed in is changed", what, short(l))
			}
			again := call(wide)
			if text(again) != want {
				t.Errorf("%s of %s: %s; then %s", what, short(l), want, short(again))
			}
			spoil(wide)
			if text(again) != want {
				t.Errorf("%s of %s: the answer hangs on what was handed in", what, short(l))
			}
		}
	}
}

// TestModApart: likewise of mods and parts of names.
func TestModApart(t *testing.T) { // what holds everywhere
	for _, kind := range []int{api.MAdd, api.MDelete, api.MReplace} {
		for _, l := range [][]api.Attr{nil, list("cn:a|b"), list("cn:a", "cn:b"), list("sn:a")} {
			values := append(make([]string, 0, 5), "q", "", "B", "\xff")
			m := api.Mod{Kind: kind, Attr: "cn", Values: values}
			got := attrs.Apply(l, m)
			want := text(got)
			part := append(make(api.RDN, 0, 3), rdn("cn", "q", "cn", "")...)
			more := attrs.With(l, part)
			wantMore := text(more)
			both := append(make([]api.Mod, 0, 3), m, m)
			attrs.Check(l, part, both)
			if fmt.Sprintf("%q %q", values[:5], part[:3]) != fmt.Sprintf("%q %q", []string{"q", "", "B", "\xff", ""}, append(rdn("cn", "q", "cn", ""), api.AVA{})) {
				t.Errorf("mods of kind %d are changed: %q, %q", kind, values[:5], part[:3])
			}
			for i := range values[:5] {
				values[:5][i] = "spoilt"
			}
			part[0].Value, part[1].Attr = "spoilt", "spoilt"
			if text(got) != want || text(more) != wantMore {
				t.Errorf("the answer hangs on a mod of kind %d", kind)
			}
		}
	}
}

// TestListsApart: no two lists of one answer share any memory, nor do those of two answers.
func TestListsApart(t *testing.T) { // what holds everywhere
	l := list("cn:a|b|c", "mail:a|b", "sn:a", "title:x")
	for what, call := range calls() {
		a, b := call(l), call(l)
		want := text(b)
		for i := range a {
			for j := range a {
				if i == j {
					continue
				}
				keep := slices.Clone(a[j].Values)
				_ = append(a[i].Values, "spoilt", "spoilt", "spoilt", "spoilt", "spoilt")
				if !slices.Equal(keep, a[j].Values) {
					t.Errorf("%s: two lists share memory", what)
				}
			}
		}
		spoil(a)
		if text(b) != want {
			t.Errorf("%s: two answers share memory", what)
		}
	}
}

// TestTextsApart: no text of an answer is a piece of one that was handed in.
func TestTextsApart(t *testing.T) { // what holds everywhere
	s := strings.Clone("x1cnabc")
	within := func(v string) bool {
		at, begin := uintptr(unsafe.Pointer(unsafe.StringData(v))), uintptr(unsafe.Pointer(unsafe.StringData(s)))
		return v != "" && at >= begin && at < begin+uintptr(len(s))
	}
	none, cn, a, b, c := s[:2], s[2:4], s[4:5], s[5:6], s[6:7]
	l := []api.Attr{{Name: cn, Values: []string{a, b}}, {Name: none, Values: []string{c}}}
	wrong := []api.Attr{{Name: cn, Values: []string{a, a}}}
	for i, got := range [][]api.Attr{
		attrs.Apply(l, api.Mod{}), attrs.Apply(l, api.Mod{Kind: api.MAdd, Attr: cn, Values: []string{c}}), attrs.Apply(l, api.Mod{Kind: api.MDelete, Attr: cn, Values: []string{a}}), attrs.Apply(nil, api.Mod{Kind: api.MReplace, Attr: cn, Values: []string{c}}),
		attrs.With(l, api.RDN{{Attr: cn, Value: c}}), attrs.With(wrong, nil), {{Values: attrs.Get(l, cn)}},
	} {
		if len(got) == 0 {
			t.Errorf("row %d: nothing", i)
		}
		for _, a := range got {
			if within(a.Name) || slices.ContainsFunc(a.Values, within) {
				t.Errorf("row %d: %s keeps what was handed in", i, text(got))
			}
		}
	}
}
