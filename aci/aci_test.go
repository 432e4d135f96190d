package aci_test

import (
	"fmt"
	"math/rand"
	"regexp"
	"slices"
	"strings"
	"testing"
	"unsafe"

	"prefect/aci"
	"prefect/api"
	"prefect/dn"
	"prefect/schema"
)

// letters are the rights, in their order; types are all that schema has, rising.
const letters = "rscwad"

var types = []string{"aci", "c", "cn", "dc", "description", "entryid", "mail", "member", "o", "ou", "sn", "title", "uid", "uidnumber", "userpassword"}

// rule makes a rule of base that grants.
func rule(rights, who string, attrs ...string) api.Rule {
	return api.Rule{Rights: rights, Who: who, Attrs: attrs}
}

func deny(r api.Rule) api.Rule { r.Deny = true; return r }
func sub(r api.Rule) api.Rule  { r.Sub = true; return r }

// shape tells all of a rule, by no function of the package.
func shape(r api.Rule) string {
	return fmt.Sprintf("{%v %q %v %q %d%q}", r.Deny, r.Rights, r.Sub, r.Who, len(r.Attrs), r.Attrs)
}

// zero tells whether r has nothing.
func zero(r api.Rule) bool {
	return !r.Deny && r.Rights == "" && !r.Sub && r.Who == "" && len(r.Attrs) == 0
}

// read asks for a rule and for nothing beside it, and for its text.
func read(t *testing.T, s string, want api.Rule) {
	t.Helper()
	if r, err := aci.Parse(s); shape(r) != shape(want) || err != api.OK {
		t.Errorf("P18.1, P18.2: %q: %s, %v; want %s", s, shape(r), err, shape(want))
	}
	if got := aci.Print(want); got != s {
		t.Errorf("P18.1: %s: %q; want %q", shape(want), got, s)
	}
	if !aci.Is(want) {
		t.Errorf("P18.1: %s: not Is", shape(want))
	}
}

// refuse asks for a rule where there is none.
func refuse(t *testing.T, s string) {
	t.Helper()
	if r, err := aci.Parse(s); !zero(r) || err != api.ErrRule {
		t.Errorf("P18.1: %.200q: %.200s, %v", s, shape(r), err)
	}
}

// is asks whether r is a rule, and the same of it by another kind and scope; what isn't, has no text.
func is(t *testing.T, r api.Rule, want bool) {
	t.Helper()
	for _, r := range []api.Rule{r, deny(r), sub(r), deny(sub(r))} {
		if aci.Is(r) != want {
			t.Errorf("P18.1: Is of %.200s: not %v", shape(r), want)
		}
		if s := aci.Print(r); (s != "") != want {
			t.Errorf("P18.1: Print of %.200s: %.200q", shape(r), s)
		}
	}
}

var (
	inOrder = regexp.MustCompile(`^r?s?c?w?a?d?$`)
	formed  = regexp.MustCompile(`(?s)^(grant|deny) ([rscwad]+) (base|sub) (\*|[a-z,]+) (any|self|dn:.+)$`)
)

// model tells what Is should, by other ways than the package's.
func model(r api.Rule) bool {
	if r.Rights == "" || !inOrder.MatchString(r.Rights) {
		return false
	}
	last := -1
	for _, a := range r.Attrs {
		at := slices.Index(types, a)
		if at <= last {
			return false
		}
		last = at
	}
	if r.Who == "any" || r.Who == "self" {
		return true
	}
	if len(r.Who) < 4 || r.Who[:3] != "dn:" {
		return false
	}
	d, err := dn.Parse(r.Who[3:])
	return err == api.OK && dn.Print(d) == r.Who[3:]
}

// modelText tells what Print should of a rule.
func modelText(r api.Rule) string {
	kind, scope, attrs := "grant", "base", "*"
	if r.Deny {
		kind = "deny"
	}
	if r.Sub {
		scope = "sub"
	}
	for i, a := range r.Attrs {
		if i == 0 {
			attrs = a
		} else {
			attrs += "," + a
		}
	}
	return kind + " " + r.Rights + " " + scope + " " + attrs + " " + r.Who
}

// modelRead tells what Parse should, and whether there is a rule.
func modelRead(s string) (api.Rule, bool) {
	m := formed.FindStringSubmatch(s)
	if m == nil {
		return api.Rule{}, false
	}
	r := api.Rule{Deny: m[1] == "deny", Rights: m[2], Sub: m[3] == "sub", Who: m[5]}
	if m[4] != "*" {
		r.Attrs = strings.Split(m[4], ",")
	}
	if !model(r) {
		return api.Rule{}, false
	}
	return r, true
}

// check holds what Parse tells of s against the model, and tells whether s is a rule's text.
func check(t *testing.T, s string) bool {
	t.Helper()
	want, ok := modelRead(s)
	if ok {
		read(t, s, want)
	} else {
		refuse(t, s)
	}
	return ok
}

// some tells those of l whose bits are set.
func some(l []string, bits int) []string {
	var out []string
	for i, s := range l {
		if bits>>i&1 != 0 {
			out = append(out, s)
		}
	}
	return out
}

// rows tells each row of some of the rights, in their order.
func rows() []string {
	var l []string
	for bits := 1; bits < 1<<len(letters); bits++ {
		l = append(l, strings.Join(some(strings.Split(letters, ""), bits), ""))
	}
	return l
}

// names are texts that dn's Parse takes and Print tells just so.
var names = []string{
	"cn=a",
	"cn=manager",
	"cn=A",
	"cn=a,ou=x",
	"cn=a+sn=b,ou=x",
	"sn=b+cn=a",
	"cn=a b",
	"cn=a  b,ou=c d",
	`cn=\ `,
	`cn=\ \ `,
	`cn=\ a`,
	`cn=a\ `,
	`cn=a \ `,
	`cn=a\ ,ou=b`,
	`cn=a,ou=b c\ `,
	`cn=a\, b,ou=x`,
	`cn=\,\,`,
	`cn=\\`,
	`cn=a\\ b`,
	`cn=\\\ `,
	`cn=\+\"\<\>\;`,
	`cn=\#a#`,
	"cn==",
	"cn=a=b",
	"cn=*",
	"cn=* any",
	"cn=self dn:cn=a",
	"cn=a grant rs sub cn any",
	`cn=\00\1f\7f\ff`,
	`cn=\c3\a4`,
	"c-9=x",
	"nosuch=x", // whether schema has the type, plays no part
	"abcdefghijklmnop=x",
	"cn=" + strings.Repeat("v", api.MaxValue),
	"cn=" + strings.Repeat(`\,`, api.MaxValue),
	"a=1+b=2+c=3+d=4",
	"a=1,a=2,a=3,a=4,a=5,a=6,a=7,a=8",
	"a=1,a=1,a=1,a=1,a=1,a=1,a=1,a=1",
	strings.TrimSuffix(strings.Repeat("a=1+b=2+c=3+d=4,", api.MaxRDNs), ","),
}

// noNames are texts that dn's Parse doesn't take, or that Print tells otherwise.
var noNames = []string{
	"",                                                       // the root
	"CN=a", "Cn=a", "cN=a", "cn=a,OU=x", "cn=a+SN=b", "CN=A", // types in large letters
	`cn=\FF`, `cn=\fF`, `cn=\Ff`, `cn=a\0A`, `cn=\C3\A4`, `cn=a,ou=\7F`, // large digits
	`cn=\61`, `cn=a\62`, `cn=\20`, `cn=a\20`, `cn=\2c`, `cn=\5c`, `cn=\23a`, `cn=\7e`, `cn=a\3d`, `cn=\2b,ou=x`, // digits where there needn't be
	`cn=a\ b`, `cn=a\#`, `cn=a\#b`, `cn=a\=b`, `cn=\=`, `cn=\  a\ b`, // a backslash where there needn't be
	"cn=\x00", "cn=\x1f", "cn=\x7f", "cn=\xff", "cn=a\nb", "cn=\u00e4", // bytes as themselves that aren't told so
	"cn", "cn=", "=a", "=", "a", "any", "self", "dn:cn=a", "*", "cn:a", // no name
	",", "cn=a,", ",cn=a", "cn=a,,ou=x", "cn=a+", "+cn=a", "cn=a++sn=b", "cn=a, ou=x", "cn=a ,ou=x",
	" ", " cn=a", "cn=a ", "cn= a", "cn= ", "cn =a", "cn=#a", "c n=a", "cn=a,ou=x ", "cn=a, ",
	`cn=\`, `cn=a\`, `cn=\a`, `cn=\g0`, `\63n=a`, `cn=a\1`, `cn=a\\\`,
	`cn="a"`, "cn=<", "cn=a>", "cn=a;ou=x", "cn=a;",
	"1=a", "-c=a", "c_n=a", "2.5.4.3=a", "abcdefghijklmnopq=x", "\u00e4=a",
	"cn=a+cn=b", "cn=a+sn=b+cn=c", "a=1+b=2+c=3+d=4+e=5",
	"a=1,a=2,a=3,a=4,a=5,a=6,a=7,a=8,a=9",
	strings.TrimSuffix(strings.Repeat("a=1+b=2+c=3+d=4,", api.MaxRDNs+1), ","),
	"cn=" + strings.Repeat("v", api.MaxValue+1),
	"cn=a,ou=" + strings.Repeat(`\,`, api.MaxValue+1),
}

// noWhos are no Who, beside the noNames behind `dn:`.
var noWhos = []string{
	"", " ", "Any", "ANY", "aNy", "anY", "Self", "SELF", "selF", " any", "any ", " self", "self ", "any any", "self self", "any self", "anyself", "any,self", "an", "ny", "sel", "elf", "anyone", "all", "none", "nobody", "*", "dn", ":", "d", "a", "s",
	"DN:cn=a", "Dn:cn=a", "dN:cn=a", " dn:cn=a", "dn :cn=a", "dn: cn=a", "dn:cn=a ", "dn=cn=a", "dn;cn=a", "dncn=a", "cn=a", "n:cn=a", "ddn:cn=a", "dn::cn=a", "any:cn=a", "self:cn=a", "any:", "self:", "dn:any", "dn:self", "dn:*", "dn:dn:cn=a", "dn:dn:", "user:cn=a", "any dn:cn=a", "dn:cn=a+", "any\x00", "\x00any", "any\n", "self\n", "self\t", "\u00a0any", "any\u00a0", "\uff41ny", "\u017felf", "an\u1ef3", "any\x80", "\xffself",
}

func TestConstants(t *testing.T) { // P18.1
	if string([]rune{api.RRead, api.RSearch, api.RCompare, api.RWrite, api.RAdd, api.RDelete}) != letters || api.ErrRule != 20 {
		t.Fatal("the document's rights, or its error, are others")
	}
	var l []string
	for _, x := range schema.All() {
		l = append(l, x.Name)
	}
	if !slices.Equal(l, types) {
		t.Fatalf("the document's types are others: %q", l)
	}
}

// TestRights: each row of some of them, in their order.
func TestRights(t *testing.T) { // P18.1, P18.2
	l := rows()
	if len(l) != 63 || !slices.Contains(l, "r") || !slices.Contains(l, "d") || !slices.Contains(l, letters) {
		t.Fatalf("rows: %q", l)
	}
	for _, rights := range l {
		is(t, rule(rights, "any"), true)
		read(t, "grant "+rights+" base * any", rule(rights, "any"))
		read(t, "deny "+rights+" sub cn self", deny(sub(rule(rights, "self", "cn"))))
	}
}

// TestRightsAll: of all texts of up to seven of the letters, just those in order.
func TestRightsAll(t *testing.T) { // P18.1
	found, l := 0, []string{""}
	for range 8 {
		var more []string
		for _, s := range l {
			if aci.Is(rule(s, "any")) != (s != "" && inOrder.MatchString(s)) {
				t.Fatalf("P18.1: Is of Rights %q", s)
			}
			if aci.Is(rule(s, "any")) {
				found++
			}
			for i := range len(letters) {
				if len(s) < 7 {
					more = append(more, s+letters[i:i+1])
				}
			}
		}
		l = more
	}
	if found != 63 {
		t.Errorf("P18.1: %d rows of rights", found)
	}
}

func TestRightsFaults(t *testing.T) { // P18.1
	l := []string{
		"", " ", "r ", " r", "r s", "r,s", "*", "all", "rr", "rrs", "rss", "rsrs", "dd", "rscwadd", "rscwadr", "rrscwad", "rscwwad", // one twice
		"sr", "dr", "da", "aw", "wc", "cs", "cr", "rcs", "srcwad", "rscwda", "dawcsr", "adr", "rswc", // two in another order
		"x", "rx", "xr", "rxs", "rb", "e", "rscwadx", "rscwade", "xrscwad", "read", "write", "rw+", "-r", "rs-", "1", "7", "0", // another letter
		"R", "S", "C", "W", "A", "D", "RSCWAD", "Rs", "rS", "rsC", "rscwaD", "rR", "Rr", // a large one
		"\x00", "r\x00", "\x00r", "r\n", "\tr", "r\x1f", "r\x7f", "r\xff", "\u0280", "\uff52", "r\u00a0", "\u0441", "\u0430",
		strings.Repeat("r", 1<<20), strings.Repeat(letters, 1<<18), letters + strings.Repeat("d", 1<<20), strings.Repeat(" ", 1<<20), strings.Repeat("\x00", 1<<20),
	}
	for i := range 256 {
		c := string([]byte{byte(i)})
		for _, good := range rows() {
			for at := range len(good) + 1 {
				l = append(l, good[:at]+c+good[at:])
				if at < len(good) {
					l = append(l, good[:at]+c+good[at+1:])
				}
			}
		}
	}
	refused := 0
	for _, s := range l {
		want := s != "" && inOrder.MatchString(s)
		if aci.Is(rule(s, "any")) != want {
			t.Errorf("P18.1: Is of Rights %.100q: not %v", s, want)
		}
		if want {
			read(t, "grant "+s+" base * any", rule(s, "any"))
			continue
		}
		refused++
		is(t, rule(s, "any"), false)
		is(t, rule(s, "dn:cn=a", "cn", "sn"), false)
		refuse(t, "grant "+s+" base * any")
		refuse(t, "deny "+s+" sub cn,sn dn:cn=a")
	}
	if refused < 90000 {
		t.Errorf("only %d are refused", refused)
	}
}

func TestWho(t *testing.T) { // P18.1, P18.2
	whos := []string{"any", "self"}
	for _, s := range names {
		if d, err := dn.Parse(s); err != api.OK || dn.Print(d) != s {
			t.Fatalf("%q is told otherwise", s)
		}
		whos = append(whos, "dn:"+s)
	}
	for _, who := range whos {
		for _, rights := range []string{"r", "rs", letters} {
			is(t, rule(rights, who), true)
			read(t, "grant "+rights+" base * "+who, rule(rights, who))
			read(t, "deny "+rights+" sub cn,sn "+who, deny(sub(rule(rights, who, "cn", "sn"))))
		}
	}
}

func TestWhoFaults(t *testing.T) { // P18.1
	l := slices.Clone(noWhos)
	for _, s := range noNames {
		l = append(l, "dn:"+s)
	}
	for _, s := range names { // a name alone, and something beside it
		l = append(l, s, "dn: "+s, " dn:"+s, "dn:"+s+" ", "dn:"+s+",", "dn:,"+s, "DN:"+s, "any:"+s, "self "+s, "dn:"+s+"\x00", "dn:"+s+"\n", "dn:dn:"+s)
	}
	for _, c := range []string{"any", "self", "dn:", "dn:cn=a,", "dn:cn=", "a", " ", ",", `\`, `dn:cn=\`, "\x00", "\xff", "dn:a=1+", "dn:\xff"} {
		l = append(l, strings.Repeat(c, 1<<18), "dn:"+strings.Repeat(c, 1<<18))
	}
	for _, who := range l {
		is(t, rule("rs", who), false)
		is(t, rule(letters, who, "cn", "sn"), false)
		refuse(t, "grant rs base * "+who)
		refuse(t, "deny rscwad sub cn,sn "+who)
	}
}

// TestWhoBytes: each byte within a name, as itself, behind a backslash, and by its digits.
func TestWhoBytes(t *testing.T) { // P18.1, P18.2
	told := 0
	for i := range 256 {
		c, little := string([]byte{byte(i)}), fmt.Sprintf(`\%02x`, i)
		for _, s := range []string{c, `\` + c, little, strings.ToUpper(little)} {
			for _, name := range []string{"cn=" + s, "cn=a" + s, "cn=" + s + "a", "cn=a" + s + "b", "cn=" + s + ",ou=x", "ou=x,cn=a" + s, s + "n=a", "c" + s + "=a", "cn" + s + "a", "cn=a" + s + "ou=x"} {
				if check(t, "grant r base * dn:"+name) {
					told++
				}
			}
		}
		for _, who := range []string{c, c + "any", "any" + c, c + "self", "self" + c, c + "dn:cn=a", "d" + c + ":cn=a", "dn" + c + "cn=a", c + "n:cn=a", "an" + c, c + "elf"} {
			check(t, "grant r base * "+who)
		}
	}
	if told < 1500 {
		t.Errorf("only %d are told", told)
	}
}

// TestWhoLong: as many parts, AVAs, bytes as a name may have, and one more.
func TestWhoLong(t *testing.T) { // P18.1
	for n := range 3 * api.MaxRDNs {
		who := "dn:" + strings.TrimSuffix(strings.Repeat("cn=a,", n), ",")
		is(t, rule("r", who), n >= 1 && n <= 8)
	}
	for n := range 26 {
		var avas []string
		for i := range n {
			avas = append(avas, string([]byte{'a' + byte(i), '=', 'v'}))
		}
		is(t, rule("r", "dn:"+strings.Join(avas, "+")), n >= 1 && n <= 4)
	}
	for n := range 3 * api.MaxValue {
		is(t, rule("r", "dn:cn="+strings.Repeat("v", n)), n >= 1 && n <= 60)
		is(t, rule("r", "dn:cn=a,ou="+strings.Repeat(`\ff`, n)), n >= 1 && n <= 60)
	}
	for n := range 3 * 16 {
		is(t, rule("r", "dn:"+strings.Repeat("a", n)+"=v"), n >= 1 && n <= 16)
	}
}

// TestAttrs: each row of some of the types, rising.
func TestAttrs(t *testing.T) { // P18.1, P18.2
	for bits := range 1 << len(types) {
		r := rule("rs", "any", some(types, bits)...)
		if !aci.Is(r) {
			t.Fatalf("P18.1: not Is: %s", shape(r))
		}
		if bits%37 == 0 || bits == 1<<len(types)-1 {
			text := strings.Join(r.Attrs, ",")
			if text == "" {
				text = "*"
			}
			read(t, "grant rs base "+text+" any", r)
		}
	}
	read(t, "grant rs base aci,c,cn,dc,description,entryid,mail,member,o,ou,sn,title,uid,uidnumber,userpassword any", rule("rs", "any", types...)) // all fifteen
	for _, a := range types {
		read(t, "deny w sub "+a+" self", deny(sub(rule("w", "self", a))))
	}
	is(t, api.Rule{Rights: "r", Who: "any", Attrs: []string{}}, true)
	if s := aci.Print(api.Rule{Rights: "r", Who: "any", Attrs: []string{}}); s != "grant r base * any" {
		t.Errorf("P18.1: no Attrs: %q", s)
	}
}

// TestAttrsOrder: of all twos and threes of types, just those that rise.
func TestAttrsOrder(t *testing.T) { // P18.1
	for i, a := range types {
		for j, b := range types {
			is(t, rule("r", "any", a, b), i < j)
			if i >= j {
				refuse(t, "grant r base "+a+","+b+" any")
			}
			for k, c := range types {
				if aci.Is(rule("r", "any", a, b, c)) != (i < j && j < k) {
					t.Errorf("P18.1: Is of %s, %s, %s", a, b, c)
				}
				if i >= j || j >= k {
					refuse(t, "grant r base "+a+","+b+","+c+" any")
				}
			}
		}
	}
	for i := range types { // all but for one that is elsewhere, or there twice
		for j := range types {
			l := slices.Delete(slices.Clone(types), i, i+1)
			l = slices.Insert(l, j, types[i])
			is(t, rule("r", "any", l...), i == j)
			twice := slices.Insert(slices.Clone(types), j, types[i])
			is(t, rule("r", "any", twice...), false)
			refuse(t, "grant r base "+strings.Join(twice, ",")+" any")
		}
	}
}

func TestAttrsFaults(t *testing.T) { // P18.1
	l := []string{"", " ", "*", "**", "CN", "Cn", "cN", "USERPASSWORD", "x", "b", "zz", "nosuch", "objectclass", "givenname", "all", "any", "self", "cn ", " cn", "c n", "cn;x", "cn,sn", "cn,", ",cn", ",", "2.5.4.3", "cn*", "*cn", "cn\x00", "\x00", "cn\n", "\u0441n", "de\u017fcription", "t\u0131tle", "\xff", "cn\xff", strings.Repeat("cn", 1<<19), strings.Repeat("\x00", 1<<20)}
	for _, a := range types {
		l = append(l, strings.ToUpper(a), a+"1", a+"-", a+" ", " "+a, a+"\x00", a[:len(a)-1]+strings.ToUpper(a[len(a)-1:]), strings.ToUpper(a[:1])+a[1:])
	}
	for _, a := range l {
		for _, attrs := range [][]string{{a}, {a, "cn"}, {"aci", a}, {"cn", a}, {"aci", a, "userpassword"}, {a, a}, append([]string{a}, types...), append(slices.Clone(types), a)} {
			is(t, rule("rs", "any", attrs...), false)
			if s := "grant rs base " + strings.Join(attrs, ",") + " any"; a == "*" || a == "cn,sn" { // some of these are another rule's
				check(t, s)
			} else {
				refuse(t, s)
			}
		}
	}
	for _, attrs := range [][]string{make([]string, 1<<20), slices.Repeat([]string{"cn"}, 1<<20), slices.Repeat(types, 1<<16), slices.Repeat([]string{"*"}, 1<<16), append(slices.Clone(types), make([]string, 1<<20)...)} { // many
		is(t, rule("rs", "any", attrs...), false)
		refuse(t, "grant rs base "+strings.Join(attrs, ",")+" any")
	}
}

// TestParts: each part as it may be, or may not.
func TestParts(t *testing.T) { // P18.1
	rights := map[string]bool{"r": true, letters: true, "": false, "sr": false, "x": false}
	whos := map[string]bool{"any": true, "self": true, "dn:cn=a b": true, "": false, "dn:": false, "Any": false, "dn:CN=a": false}
	attrs := []struct {
		l    []string
		want bool
	}{{nil, true}, {[]string{"cn"}, true}, {[]string{"cn", "sn"}, true}, {[]string{"sn", "cn"}, false}, {[]string{"cn", "cn"}, false}, {[]string{"CN"}, false}, {[]string{""}, false}, {[]string{"*"}, false}}
	for s, good := range rights {
		for who, known := range whos {
			for _, a := range attrs {
				is(t, rule(s, who, a.l...), good && known && a.want)
			}
		}
	}
	is(t, api.Rule{}, false)
}

// printed are rules with their texts.
var printed = []struct {
	r api.Rule
	s string
}{
	{sub(rule("rs", "any", "cn", "sn")), "grant rs sub cn,sn any"}, // the chapter's own
	{rule("rs", "any", "cn", "sn"), "grant rs base cn,sn any"},
	{deny(sub(rule("rs", "any", "cn", "sn"))), "deny rs sub cn,sn any"},
	{deny(rule("rs", "any", "cn", "sn")), "deny rs base cn,sn any"},
	{sub(rule("rs", "any")), "grant rs sub * any"},
	{rule("r", "any"), "grant r base * any"},
	{rule("s", "any"), "grant s base * any"},
	{rule("c", "any"), "grant c base * any"},
	{rule("w", "any"), "grant w base * any"},
	{rule("a", "any"), "grant a base * any"},
	{rule("d", "any"), "grant d base * any"},
	{rule("rscwad", "self"), "grant rscwad base * self"},
	{rule("rd", "self", "cn"), "grant rd base cn self"},
	{deny(rule("w", "self", "userpassword")), "deny w base userpassword self"},
	{sub(rule("rscwad", "dn:cn=manager")), "grant rscwad sub * dn:cn=manager"},
	{rule("cw", "dn:cn=a,ou=x", "aci", "userpassword"), "grant cw base aci,userpassword dn:cn=a,ou=x"},
	{rule("r", "dn:cn=a b c", "cn"), "grant r base cn dn:cn=a b c"}, // Who may have blanks
	{rule("r", "dn:cn=a  b", "cn"), "grant r base cn dn:cn=a  b"},
	{rule("r", `dn:cn=a\, b,ou=x`), `grant r base * dn:cn=a\, b,ou=x`},
	{rule("r", `dn:cn=a\\ b`), `grant r base * dn:cn=a\\ b`},
	{rule("r", `dn:cn=a\ `), `grant r base * dn:cn=a\ `},
	{rule("r", `dn:cn=\ `), `grant r base * dn:cn=\ `},
	{rule("r", `dn:cn=\ \ `), `grant r base * dn:cn=\ \ `},
	{rule("r", `dn:cn=a+sn=b\+c,ou=\#x`), `grant r base * dn:cn=a+sn=b\+c,ou=\#x`},
	{rule("r", "dn:cn=any"), "grant r base * dn:cn=any"},
	{rule("r", "dn:cn=* any"), "grant r base * dn:cn=* any"},
	{rule("r", "dn:cn=deny w sub cn self"), "grant r base * dn:cn=deny w sub cn self"},
	{rule("r", `dn:cn=\00\ff`), `grant r base * dn:cn=\00\ff`},
	{deny(sub(rule("rscwad", "dn:"+names[len(names)-1], types...))), "deny rscwad sub aci,c,cn,dc,description,entryid,mail,member,o,ou,sn,title,uid,uidnumber,userpassword dn:" + names[len(names)-1]},
}

func TestPrint(t *testing.T) { // P18.1, P18.2
	all := map[string]string{}
	for _, c := range printed {
		read(t, c.s, c.r)
		if have, ok := all[c.s]; ok {
			t.Errorf("%q is there twice: %s", c.s, have) // no two have one text
		}
		all[c.s] = shape(c.r)
		if want, ok := modelRead(c.s); !ok || shape(want) != shape(c.r) || modelText(c.r) != c.s {
			t.Errorf("the model tells %s of %q", shape(want), c.s)
		}
	}
}

// TestPrintAll: each kind, scope, and some of each other part.
func TestPrintAll(t *testing.T) { // P18.1, P18.2
	for _, kind := range []string{"grant", "deny"} {
		for _, rights := range rows() {
			for _, scope := range []string{"base", "sub"} {
				for text, attrs := range map[string][]string{"*": nil, "c": {"c"}, "cn": {"cn"}, "aci,c,cn": {"aci", "c", "cn"}, "o,ou": {"o", "ou"}, "uid,uidnumber": {"uid", "uidnumber"}} {
					for _, who := range []string{"any", "self", "dn:cn=a", `dn:cn=a\, b+sn=c d\ ,ou=x`} {
						read(t, kind+" "+rights+" "+scope+" "+text+" "+who, api.Rule{Deny: kind == "deny", Rights: rights, Sub: scope == "sub", Attrs: attrs, Who: who})
					}
				}
			}
		}
	}
}

// TestWords: a word more, a word less, one in the place of another, a blank more.
func TestWords(t *testing.T) { // P18.1
	others := []string{"", "grant", "deny", "base", "sub", "any", "self", "*", "cn", "r", "rs", "dn:cn=a", "Grant", "Deny", "Base", "Sub", "GRANT", "DENY", "BASE", "SUB", "allow", "forbid", "one", "subtree", "none", "all", "grants", "gran", "den", "bas", "su", "subs", "deny\x00", "0", "1", "true", "false", "+", "-"}
	refused := 0
	for _, c := range printed {
		l := strings.SplitN(c.s, " ", 5)
		for i := range l {
			if i < 4 { // a Who may be cut at a blank
				refuse(t, strings.Join(slices.Delete(slices.Clone(l), i, i+1), " "))
				refuse(t, strings.Join(l[:i], " "))
				refuse(t, strings.Join(l[i+1:], " "))
				refuse(t, strings.Join(l[:i+1], " ")+" ")
				refuse(t, strings.Join(l[:i+1], " ")+"  "+strings.Join(l[i+1:], " "))
				refuse(t, strings.Join(l[:i+1], " ")+"\t"+strings.Join(l[i+1:], " "))
				refuse(t, strings.Join(l[:i+1], " ")+"\n"+strings.Join(l[i+1:], " "))
				refuse(t, strings.Join(l[:i+1], " ")+" \u00a0"+strings.Join(l[i+1:], " "))
				refuse(t, strings.Join(l[:i+1], " ")+strings.Join(l[i+1:], " "))
			}
			for j := range l {
				swapped := slices.Clone(l)
				swapped[i], swapped[j] = l[j], l[i]
				if i != j {
					refuse(t, strings.Join(swapped, " "))
				}
			}
			for _, word := range others {
				put := slices.Clone(l)
				put[i] = word
				if !check(t, strings.Join(put, " ")) {
					refused++
				}
				if !check(t, strings.Join(slices.Insert(slices.Clone(l), i, word), " ")) {
					refused++
				}
			}
			upper := slices.Clone(l)
			if upper[i] = strings.ToUpper(l[i]); upper[i] != l[i] {
				refuse(t, strings.Join(upper, " "))
			}
		}
		for _, word := range others {
			if strings.Contains(l[4], "dn:") { // a name may have another word at its end, but no blank
				check(t, c.s+" "+word)
			} else {
				refuse(t, c.s+" "+word)
			}
		}
		refuse(t, " "+c.s)
		refuse(t, c.s+" ")
		refuse(t, c.s+"\n")
		refuse(t, "\n"+c.s)
		refuse(t, c.s+"\x00")
		refuse(t, `"`+c.s+`"`)
		refuse(t, strings.ToUpper(c.s))
	}
	if refused < 5000 {
		t.Errorf("only %d are refused", refused)
	}
}

// TestEdits: each text with a byte more, less, or another one, at each place.
func TestEdits(t *testing.T) { // P18.1, P18.2
	taken := 0
	for i, c := range printed {
		if i%3 != 0 || len(c.s) > 60 {
			continue
		}
		for at := range len(c.s) + 1 {
			for b := range 256 {
				x := string([]byte{byte(b)})
				if check(t, c.s[:at]+x+c.s[at:]) {
					taken++
				}
				if at < len(c.s) && check(t, c.s[:at]+x+c.s[at+1:]) {
					taken++
				}
			}
			check(t, c.s[:at])
			check(t, c.s[at:])
			if at < len(c.s) {
				check(t, c.s[:at]+c.s[at+1:])
				check(t, c.s[:at]+c.s[at:at+1]+c.s[at:])
			}
		}
	}
	if taken < 1000 {
		t.Errorf("only %d are rules", taken)
	}
}

func TestParseFaults(t *testing.T) { // P18.1
	for _, s := range []string{
		"", " ", "  ", "    ", "     ", "      ", strings.Repeat(" ", 100), ",", "*", "\x00", "\n", "\xff", "any", "grant", "grant ", "grant rs sub cn,sn", "grant rs sub cn,sn ", "grant rs sub any", "grant rs cn,sn any", "grant sub cn,sn any", "rs sub cn,sn any", // a word less
		"grant rs sub cn,sn any any", "grant grant rs sub cn,sn any", "grant rs rs sub cn,sn any", "grant rs sub sub cn,sn any", "grant rs sub cn,sn cn,sn any", "grant rs sub cn,sn any x", "grant rs sub cn sn any", // a word more
		" grant rs sub cn,sn any", "grant  rs sub cn,sn any", "grant rs  sub cn,sn any", "grant rs sub  cn,sn any", "grant rs sub cn,sn  any", "grant rs sub cn,sn any ", "grant rs sub cn, sn any", "grant rs sub cn ,sn any", "grant rs sub * dn: cn=a", "grant rs sub * dn:cn=a ", "grant rs sub * dn:cn= a", "grant rs sub * dn :cn=a", "gr ant rs sub * any", "grant r s sub * any", // a blank more
		"grantrs sub cn,sn any", "grant rssub cn,sn any", "grant rs subcn,sn any", "grant rs sub cn,snany", // a blank less
		"rs grant sub cn,sn any", "grant sub rs cn,sn any", "grant rs cn,sn sub any", "grant rs sub any cn,sn", "any rs sub cn,sn grant", "sub rs grant cn,sn any", "grant cn,sn sub rs any", // another one's place
		"allow rs sub cn,sn any", "forbid rs sub cn,sn any", "grant rs one cn,sn any", "grant rs subtree cn,sn any", "grant rs children cn,sn any", "grant all sub cn,sn any", "grant none sub * any", "grant rs sub all any", "grant rs sub none any", "grant rs sub * anyone", "grant rs sub * all", "grant rs sub * user", "revoke r base * any", // other words
		"Grant rs sub cn,sn any", "GRANT rs sub cn,sn any", "Deny rs sub cn,sn any", "DENY rs sub cn,sn any", "grant RS sub cn,sn any", "grant Rs sub cn,sn any", "grant rs Sub cn,sn any", "grant rs SUB cn,sn any", "grant rs Base cn,sn any", "grant rs BASE cn,sn any", "grant rs sub CN,sn any", "grant rs sub cn,SN any", "grant rs sub cn,Sn any", "grant rs sub cn,sn Any", "grant rs sub cn,sn ANY", "grant rs sub cn,sn Self", "grant rs sub cn,sn SELF", "grant rs sub cn,sn DN:cn=a", "grant rs sub cn,sn dn:CN=a", // large letters
		"grant rs sub *,cn any", "grant rs sub cn,* any", "grant rs sub *cn any", "grant rs sub cn* any", "grant rs sub *,* any", "grant rs sub ** any", "grant rs sub aci,*,cn any", "grant rs sub *, any", "grant rs sub ,* any", `grant rs sub \* any`, "grant * sub * any", "grant rs * * any", "* rs sub * any", "grant rs sub * *", // an asterisk
		"grant rs sub , any", "grant rs sub ,, any", "grant rs sub ,cn,sn any", "grant rs sub cn,sn, any", "grant rs sub cn,,sn any", "grant rs sub ,cn any", "grant rs sub cn, any", "grant rs sub cn,sn,, any", "grant rs sub ,,cn any", "grant r,s sub cn any", "grant rs sub cn;sn any", "grant rs sub cn+sn any", "grant rs, sub cn any", "grant rs sub cn,sn any,", "grant rs sub cn any,self", // a comma
		"grant rs sub sn,cn any", "grant rs sub cn,cn any", "grant rs sub cn,sn,sn any", "grant rs sub cn,aci any", "grant rs sub nosuch any", "grant rs sub cn,nosuch any", "grant rs sub any any", "grant rs sub c,cn,c any", // Attrs that aren't
		"grant  sub cn,sn any", "grant sr sub cn,sn any", "grant rr sub cn,sn any", "grant x sub cn,sn any", "grant rx sub cn,sn any", "grant rscwadx sub cn,sn any", // Rights that aren't
		"grant rs sub cn,sn dn:", "grant rs sub cn,sn dn", "grant rs sub cn,sn cn=a", "grant rs sub cn,sn dn:a", "grant rs sub cn,sn dn:cn", "grant rs sub cn,sn dn:cn=", "grant rs sub cn,sn dn:cn=a,", `grant rs sub cn,sn dn:cn=\61`, `grant rs sub cn,sn dn:cn=\FF`, `grant rs sub cn,sn dn:cn=a\`, "grant rs sub cn,sn any:", "grant rs sub cn,sn self:cn=a", // Whos that aren't
		"grant\trs\tsub\tcn,sn\tany", "grant\x00rs sub cn,sn any", "grant rs sub cn,sn any\x00", "\x00grant rs sub cn,sn any", "grant rs\x1fsub cn,sn any", "grant rs sub cn,sn\nany", "grant rs sub cn\x7f any", "grant rs sub cn,sn any\x80", "\xffgrant rs sub cn,sn any", "grant rs sub cn,sn any\r\n", "grant r\u017f sub cn any", "grant\u00a0rs\u00a0sub\u00a0cn\u00a0any", "grant rs sub cn\uff0csn any", "grant rs \uff53ub cn any", // bytes below 32, above 126
		"grant rs sub cn,sn dn:cn=\x00", "grant rs sub cn,sn dn:cn=\xff", "grant rs sub cn,sn dn:cn=\u00e4",
	} {
		refuse(t, s)
	}
}

func TestParseLong(t *testing.T) { // P18.1
	for _, c := range []string{"a", " ", "grant ", "grant", "r", letters, "base ", "*", ",", "cn,", ",cn", "aci,c,cn,", "any", " any", "dn:", "cn=a,", "a=1+", `\`, `\ `, "\x00", "\x1f", "\x7f", "\xff", "\u00e4", "grant rs sub cn,sn any ", "grant rs sub cn,sn any"} {
		s := strings.Repeat(c, 1<<18)
		for _, text := range []string{s, "grant " + s, "grant " + s + " base * any", s + " r base * any", "grant r " + s + " * any", "grant r base " + s + " any", "grant r base * " + s, "grant r base * dn:" + s, "grant r base * dn:cn=" + s, "deny r sub cn," + s + " self", "deny r sub cn self" + s, s + "grant r base * any", s + " grant r base * any"} {
			refuse(t, text)
		}
	}
	for n := range 40 { // more types than there are
		s := "grant r base " + strings.Join(types, ",") + strings.Repeat(",zz", n) + " any"
		if n == 0 {
			read(t, s, rule("r", "any", types...))
		} else {
			refuse(t, s)
		}
		refuse(t, "grant r base "+strings.Join(types, ",")+strings.Repeat(",", n+1)+" any")
		refuse(t, "grant r base"+strings.Repeat(" ", n+2)+"any")
	}
}

func TestSame(t *testing.T) { // P18.1
	l := []api.Rule{
		{}, {Deny: true}, {Sub: true}, {Deny: true, Sub: true}, {Rights: "r"}, {Who: "r"}, {Attrs: []string{"r"}}, {Attrs: []string{""}}, {Attrs: []string{"", ""}}, {Rights: "", Who: "any"}, {Rights: "any"},
		rule("rs", "any"), deny(rule("rs", "any")), sub(rule("rs", "any")), deny(sub(rule("rs", "any"))),
		rule("r", "any"), rule("s", "any"), rule("sr", "any"), rule("rrs", "any"), rule("RS", "any"), rule("rs ", "any"),
		rule("rs", "self"), rule("rs", "Any"), rule("rs", " any"), rule("rs", "any "), rule("rs", "dn:"), rule("rs", "dn:cn=a"), rule("rs", "dn:cn=A"), rule("rs", "dn:CN=a"), rule("rs", "dn:cn=b"), rule("rs", "dn:cn=a,ou=x"), rule("rs", `dn:cn=\61`),
		rule("rs", "any", "cn"), rule("rs", "any", "CN"), rule("rs", "any", "sn"), rule("rs", "any", "cn", "sn"), rule("rs", "any", "sn", "cn"), rule("rs", "any", "cn", "cn"), rule("rs", "any", "cn,sn"), rule("rs", "any", "cn", "sn", "uid"), rule("rs", "any", "cn", "uid"), rule("rs", "any", "*"), rule("rs", "any", ""), rule("rs", "any", "cn", ""), rule("rs", "any", "", "cn"),
	}
	for _, c := range printed {
		l = append(l, c.r)
	}
	for i, a := range l {
		for j, b := range l {
			if want := shape(a) == shape(b); aci.Same(a, b) != want {
				t.Errorf("P18.1: rows %d, %d: %.100s, %.100s: not %v", i, j, shape(a), shape(b), want)
			}
		}
		own := a
		own.Rights, own.Who, own.Attrs = strings.Clone(a.Rights), strings.Clone(a.Who), append(make([]string, 0, 20), a.Attrs...) // alike, though elsewhere
		if !aci.Same(a, own) || !aci.Same(own, a) {
			t.Errorf("P18.1: row %d: not the same as itself", i)
		}
	}
	if a := rule("rs", "any"); !aci.Same(a, api.Rule{Rights: "rs", Who: "any", Attrs: []string{}}) || !aci.Same(api.Rule{Attrs: []string{}}, api.Rule{}) {
		t.Error("P18.1: no Attrs are an empty list")
	}
	long, other := slices.Repeat([]string{"cn"}, 1<<18), slices.Repeat([]string{"cn"}, 1<<18)
	if !aci.Same(rule("r", "any", long...), rule("r", "any", other...)) {
		t.Error("P18.1: many Attrs aren't the same")
	}
	other[1<<18-1] = "c"
	if aci.Same(rule("r", "any", long...), rule("r", "any", other...)) || aci.Same(rule("r", "any", long...), rule("r", "any", long[1:]...)) {
		t.Error("P18.1: many Attrs, of which one differs, or lacks, are the same")
	}
}

// drawName tells a name's text, as it may be told, or not quite.
func drawName(r *rand.Rand) string {
	const bytes = "aB 0,+\"\\<>;#=*\x00\x1f~\x7f\xff"
	var d api.DN
	for range 1 + r.Intn(3) {
		var part api.RDN
		for i := range 1 + r.Intn(2) {
			v := make([]byte, 1+r.Intn(5))
			for i := range v {
				v[i] = bytes[r.Intn(len(bytes))]
			}
			part = append(part, api.AVA{Attr: types[i*7+r.Intn(7)], Value: string(v)})
		}
		d = append(d, part)
	}
	s := dn.Print(d)
	if r.Intn(8) == 0 {
		at := r.Intn(len(s))
		s = s[:at] + bytes[at%len(bytes):at%len(bytes)+1] + s[at+r.Intn(2):]
	}
	return s
}

// draw tells a rule: one that is Is, or one that may be none.
func draw(r *rand.Rand) api.Rule {
	out := api.Rule{Deny: r.Intn(2) == 0, Sub: r.Intn(2) == 0}
	l := rows()
	out.Rights = l[r.Intn(len(l))]
	out.Attrs = some(types, r.Intn(1<<len(types))&r.Intn(1<<len(types)))
	switch r.Intn(4) {
	case 0:
		out.Who = "any"
	case 1:
		out.Who = "self"
	default:
		out.Who = "dn:" + drawName(r)
	}
	switch r.Intn(12) {
	case 0:
		at := r.Intn(len(out.Rights) + 1)
		out.Rights = out.Rights[:at] + "rscwadx "[r.Intn(8):][:1] + out.Rights[at:]
	case 1:
		out.Rights = out.Rights[1:]
	case 2:
		out.Attrs = slices.Insert(out.Attrs, r.Intn(len(out.Attrs)+1), append([]string{"", "*", "CN", "x"}, types...)[r.Intn(19)])
	case 3:
		r.Shuffle(len(out.Attrs), func(i, j int) { out.Attrs[i], out.Attrs[j] = out.Attrs[j], out.Attrs[i] })
	case 4:
		out.Who = noWhos[r.Intn(len(noWhos))]
	case 5:
		out.Who = "dn:" + noNames[r.Intn(len(noNames))]
	}
	return out
}

// TestDrawnRules: what is Is is printed, and what is printed is read as the same rule; what isn't Is has no text.
func TestDrawnRules(t *testing.T) { // P18.2
	r := rand.New(rand.NewSource(18))
	told := map[bool]int{}
	for range 30000 {
		a := draw(r)
		want := model(a)
		told[want]++
		if aci.Is(a) != want {
			t.Fatalf("P18.1: Is of %s: not %v", shape(a), want)
		}
		s := aci.Print(a)
		if !want {
			if s != "" {
				t.Fatalf("P18.1: Print of %s, which is none: %q", shape(a), s)
			}
			check(t, modelText(a)) // with `*` as its Attrs it tells another one
			continue
		}
		if s != modelText(a) {
			t.Fatalf("P18.1: Print of %s: %q", shape(a), s)
		}
		b, err := aci.Parse(s)
		if err != api.OK || shape(a) != shape(b) || !aci.Same(a, b) || !aci.Same(b, a) {
			t.Fatalf("P18.2: %s is read as %s, %v", shape(a), shape(b), err)
		}
	}
	if told[true] < 15000 || told[false] < 3000 {
		t.Errorf("rules and others: %v", told)
	}
}

// TestDrawnTexts: what is read is printed just so.
func TestDrawnTexts(t *testing.T) { // P18.2
	r := rand.New(rand.NewSource(182))
	const bytes = " ,*:=\\rscwadnRX\x00\x7f\xff"
	told := map[bool]int{}
	for range 30000 {
		b := []byte(modelText(draw(r)))
		for range r.Intn(3) {
			at := r.Intn(len(b) + 1)
			switch c := bytes[r.Intn(len(bytes))]; {
			case r.Intn(3) == 0 && at < len(b):
				b = slices.Delete(b, at, at+1)
			case r.Intn(2) == 0 && at < len(b):
				b[at] = c
			default:
				b = slices.Insert(b, at, c)
			}
		}
		s := string(b)
		told[check(t, s)]++
		if a, err := aci.Parse(s); err == api.OK && (aci.Print(a) != s || !aci.Is(a)) {
			t.Fatalf("P18.2: %q is printed as %q", s, aci.Print(a))
		}
		if t.Failed() {
			return
		}
	}
	if told[true] < 5000 || told[false] < 5000 {
		t.Errorf("texts of rules, and others: %v", told)
	}
}

// TestNotChanged: what is handed in stays as it was, the spare room behind it included.
func TestNotChanged(t *testing.T) { // what holds everywhere
	for _, good := range []bool{true, false} {
		room := slices.Clone(types)
		if !good {
			slices.Reverse(room)
		}
		room = append(room, "behind", "more", "")
		have := slices.Clone(room)
		for n := range len(types) + 1 {
			r := rule("rs", "dn:cn=a b,ou=x", room[:n]...)
			before := shape(r)
			for range 2 {
				if aci.Is(r) != (good || n < 2) || (aci.Print(r) != "") != (good || n < 2) || !aci.Same(r, r) {
					t.Fatalf("P18.1: %s", before)
				}
			}
			if shape(r) != before || !slices.Equal(room, have) {
				t.Fatalf("%s is changed to %s, with %q behind it", before, shape(r), room[n:])
			}
		}
	}
}

// TestNewMemory: what one answer's list is made of is no other one's.
func TestNewMemory(t *testing.T) { // what holds everywhere
	for _, c := range printed {
		first, _ := aci.Parse(c.s)
		second, _ := aci.Parse(c.s)
		spoil := second.Attrs[:cap(second.Attrs)] // the spare room, too
		for i := range spoil {
			spoil[i] = "spoilt"
		}
		_ = append(second.Attrs[:0], "spoilt", "spoilt")
		third, err := aci.Parse(c.s)
		if shape(first) != shape(c.r) || shape(third) != shape(c.r) || err != api.OK || aci.Print(c.r) != c.s {
			t.Errorf("%q: %s, then %s, %v", c.s, shape(first), shape(third), err)
		}
	}
}

// TestNotKept: a rule that was read holds no part of the text that was handed in.
func TestNotKept(t *testing.T) { // what holds everywhere
	for _, c := range printed {
		s := strings.Clone(c.s)
		from := uintptr(unsafe.Pointer(unsafe.StringData(s)))
		r, _ := aci.Parse(s)
		for _, part := range append([]string{r.Rights, r.Who}, r.Attrs...) {
			if at := uintptr(unsafe.Pointer(unsafe.StringData(part))); at >= from && at < from+uintptr(len(s)) {
				t.Errorf("%q keeps %q of what was handed in", c.s, part)
			}
		}
	}
}
