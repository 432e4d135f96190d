package match_test

import (
	"bytes"
	"fmt"
	"math/big"
	"math/rand"
	"regexp"
	"slices"
	"sort"
	"strings"
	"testing"
	"unsafe"

	"prefect/api"
	"prefect/dn"
	"prefect/match"
	"prefect/schema"
)

// The types of each syntax.
var (
	texts   = []string{"c", "cn", "dc", "description", "o", "ou", "sn", "title", "uid"}
	exacts  = []string{"aci", "entryid", "mail"}
	all     = slices.Concat(texts, exacts, []string{"member", "uidnumber", "userpassword"})
	noTypes = []string{"", " ", "x", "cn ", " cn", "cnn", "c-n", "objectclass", "members", "cn\u00a0", "\xff", "cn;lang-en", strings.Repeat("cn", 1<<16)}
)

// rdn makes a part of types and values by turns.
func rdn(l ...string) api.RDN {
	var r api.RDN
	for i := 0; i < len(l); i += 2 {
		r = append(r, api.AVA{Attr: l[i], Value: l[i+1]})
	}
	return r
}

// parse tells the name whose text s is.
func parse(t *testing.T, s string) api.DN {
	t.Helper()
	d, err := dn.Parse(s)
	if err != api.OK {
		t.Fatalf("%q is no name", s)
	}
	return d
}

// spellings tells a type's name in some choices of small and large letters.
func spellings(name string) []string {
	return []string{name, strings.ToUpper(name), strings.ToUpper(name[:1]) + name[1:], name[:len(name)-1] + strings.ToUpper(name[len(name)-1:])}
}

var (
	letters = regexp.MustCompile(`[A-Z]`)
	blanks  = regexp.MustCompile(` +`)
)

// modelNorm tells the form of v, by the chapter's words and by another way than the package's.
func modelNorm(name, v string) string {
	name = dn.Lower(name)
	switch {
	case slices.Contains(texts, name):
		v = letters.ReplaceAllStringFunc(latin(v), strings.ToLower)
		return bytesOf(strings.Trim(blanks.ReplaceAllString(v, " "), " "))
	case name == "member":
		if d, err := dn.Parse(v); err == api.OK {
			return modelDN(d)
		}
	}
	return v
}

// latin tells a rune for each byte of s, so that no two bytes are taken as one letter.
func latin(s string) string {
	var r []rune
	for i := range len(s) {
		r = append(r, rune(s[i]))
	}
	return string(r)
}

// bytesOf is the other way round.
func bytesOf(s string) string {
	var b []byte
	for _, r := range s {
		b = append(b, byte(r))
	}
	return string(b)
}

// modelByte tells the text of a byte of a value.
func modelByte(c byte, first, last bool) string {
	switch {
	case c < 32 || c > 126:
		return fmt.Sprintf(`\%02x`, c)
	case strings.Contains(`,+"\<>;`, string(c)), c == '#' && first, c == ' ' && (first || last):
		return `\` + string(c)
	}
	return string(c)
}

// modelValue tells the text of v in a part of a name.
func modelValue(v string) string {
	s := ""
	for i := range len(v) {
		s += modelByte(v[i], i == 0, i == len(v)-1)
	}
	return s
}

// modelRDN tells the form of a part.
func modelRDN(r api.RDN) string {
	var l []string
	byType := map[string]string{}
	for _, a := range r {
		v := modelNorm(a.Attr, a.Value)
		if len(v) == 0 {
			v = a.Value
		}
		l, byType[a.Attr] = append(l, a.Attr), a.Attr+"="+modelValue(v)
	}
	sort.Strings(l)
	for i, name := range l {
		l[i] = byType[name]
	}
	return strings.Join(l, "+")
}

// modelDN tells the form of a name.
func modelDN(d api.DN) string {
	s := ""
	for i, r := range d {
		if i > 0 {
			s += ","
		}
		s += modelRDN(r)
	}
	return s
}

// check asks what Norm tells of v as a value of each type, and that this is its own form.
func check(t *testing.T, v string) {
	t.Helper()
	for _, name := range all {
		want := modelNorm(name, v)
		got := match.Norm(name, v)
		if got != want {
			t.Errorf("P6.1: Norm of %s, %.200q: %.200q; want %.200q", name, v, got, want)
		}
		if again := match.Norm(name, got); again != got {
			t.Errorf("P6.3: Norm of %s, %.200q: %.200q; its own is %.200q", name, v, got, again)
		}
		if !match.Equal(name, v, v) || !match.Equal(name, v, got) || !match.Equal(name, got, v) {
			t.Errorf("P6.3: %s: %.200q isn't Equal to itself or to its Norm", name, v)
		}
	}
}

// compare asks for Equal and Cmp of two values, each way round.
func compare(t *testing.T, name, a, b string, want int) {
	t.Helper()
	if got, back := match.Cmp(name, a, b), match.Cmp(name, b, a); got != want || back != -want {
		t.Errorf("P6.1: Cmp of %s, %.100q, %.100q: %d, the other way round %d; want %d", name, a, b, got, back, want)
	}
	if got, back := match.Equal(name, a, b), match.Equal(name, b, a); got != (want == 0) || back != got {
		t.Errorf("P6.1: Equal of %s, %.100q, %.100q: %v, the other way round %v", name, a, b, got, back)
	}
}

func TestTexts(t *testing.T) { // P6.1
	for v, want := range map[string]string{
		"":                           "",
		" ":                          "",
		"    ":                       "",
		"a":                          "a",
		"A":                          "a",
		" A  b":                      "a b", // the chapter's
		" a":                         "a",
		"a ":                         "a",
		"  a":                        "a",
		"a  ":                        "a",
		"   a   ":                    "a",
		"a b":                        "a b",
		"a  b":                       "a b",
		"a   b":                      "a b",
		"  a   b  c ":                "a b c",
		"ab":                         "ab",
		"ABCDEFGHIJKLMNOPQRSTUVWXYZ": "abcdefghijklmnopqrstuvwxyz",
		"@[`{ Z":                     "@[`{ z", // beside the letters
		"0-9":                        "0-9",
		"\ta\n":                      "\ta\n", // no blanks
		"a\t\tB":                     "a\t\tb",
		" \t ":                       "\t",
		"\x00\x00":                   "\x00\x00",
		"\x1f A":                     "\x1f a",
		"\u00c4 \u0130\u212a":        "\u00c4 \u0130\u212a", // bytes that are no letters A to Z
		"\u00a0a\u00a0":              "\u00a0a\u00a0",
		"\u3000":                     "\u3000",
		"\x80\xffA\xc3  \xc3":        "\x80\xffa\xc3 \xc3", // no runes
		"\x41\xa0\x20\x20\xa0":       "a\xa0 \xa0",
		`\20A\ `:                     `\20a\`, // a backslash is a byte
		"cn=A, B":                    "cn=a, b",
		strings.Repeat("A ", 60):     strings.Repeat("a ", 59) + "a", // longer than a value may be
	} {
		for _, name := range texts {
			for _, s := range spellings(name) {
				if got := match.Norm(s, v); got != want {
					t.Errorf("P6.1: Norm of %s, %q: %q; want %q", s, v, got, want)
				}
			}
			compare(t, name, v, want, 0)
		}
		check(t, v)
	}
}

func TestTextsLong(t *testing.T) { // P6.1
	const n = 1 << 18
	for v, want := range map[string]string{
		strings.Repeat(" ", n):              "",
		strings.Repeat("A", n):              strings.Repeat("a", n),
		strings.Repeat(" ", n) + "A":        "a",
		"A" + strings.Repeat(" ", n):        "a",
		"A" + strings.Repeat(" ", n) + "b ": "a b",
		strings.Repeat("  A", n):            strings.Repeat("a ", n-1) + "a",
		strings.Repeat("\xff", n):           strings.Repeat("\xff", n),
	} {
		if got := match.Norm("cn", v); got != want {
			t.Errorf("P6.1: Norm of %.20q .., %d bytes: %.20q .., %d bytes", v, len(v), got, len(got))
		}
	}
}

// TestAsItIs: values of the other syntaxes, and of no type, stay.
func TestAsItIs(t *testing.T) { // P6.1
	for _, v := range []string{"", " ", "  ", "A", " A  b ", "a", "07", "-0", "7", "cn=A", "CN=a", `cn=\41`, "\x00", "\xff", "\u00c4", "5.0.1", strings.Repeat(" A", 60), strings.Repeat("\xff", 1<<16)} {
		for _, name := range slices.Concat(exacts, []string{"uidnumber", "userpassword"}) {
			for _, s := range spellings(name) {
				if got := match.Norm(s, v); got != v {
					t.Errorf("P6.1: Norm of %s, %.100q: %.100q", s, v, got)
				}
			}
			compare(t, name, v+"A", v+"a", -1)
			compare(t, name, v, " "+v, map[bool]int{true: 1, false: -1}[v > " "+v])
		}
		for _, name := range noTypes {
			if got := match.Norm(name, v); got != v {
				t.Errorf("P6.1: Norm of no type %.100q, %.100q: %.100q", name, v, got)
			}
			compare(t, name, v, v, 0)
			compare(t, name, "A"+v, "a"+v, -1)
			compare(t, name, v, v+" ", -1)
		}
		check(t, v)
	}
}

func TestMembers(t *testing.T) { // P6.1, P6.2
	for v, want := range map[string]string{
		"":                         "", // the root
		"cn=a":                     "cn=a",
		"CN=A":                     "cn=a",
		`cn=\41`:                   "cn=a",
		`cn=\ A  b\ `:              "cn=a b",
		`cn=a\, B,OU= `:            `cn=a\, B,OU= `, // no name: a blank that is last
		`cn=a\, B,OU=x`:            `cn=a\, b,ou=x`,
		"sn=B+cn=A,o=C":            "cn=a+sn=b,o=c",
		"O=C,SN=b+Cn=a":            "o=c,cn=a+sn=b", // the parts keep their order
		"mail=A  b":                "mail=A  b",
		"MAIL=A+X=B":               "mail=A+x=B",
		"uidnumber=07+UID=07":      "uid=07+uidnumber=07",
		"cn=\xff":                  `cn=\ff`,
		`cn=\FF\c3`:                `cn=\ff\c3`,
		"cn=\x00A":                 `cn=\00a`,
		`cn=\ `:                    `cn=\ `, // its value's Norm is empty
		`cn=\20\20`:                `cn=\ \ `,
		"MEMBER=CN\\=A":            "member=cn=a",
		`member=CN=A\,O=B`:         `member=cn=a\,o=b`,
		`member=SN=B\+CN=A`:        `member=cn=a\+sn=b`,
		`member=MEMBER=CN=A`:       "member=member=cn=a",
		`member=CN`:                "member=CN", // no name
		`member=CN=A\,`:            `member=CN=A\,`,
		`member=CN=\ff`:            `member=cn=\\ff`,
		`member=member=CN=\ff`:     `member=member=cn=\\\\ff`,
		`member=\ `:                `member=\ `,
		`member=\ cn=A`:            `member=\ cn=A`,
		"cn":                       "cn", // no names from here on
		"CN":                       "CN",
		" CN=A":                    " CN=A",
		"CN=A ":                    "CN=A ",
		"CN=":                      "CN=",
		",":                        ",",
		"CN=A,":                    "CN=A,",
		"CN=A, O=B":                "CN=A, O=B",
		"CN=A+CN=B":                "CN=A+CN=B",
		`CN=A\`:                    `CN=A\`,
		`CN="A"`:                   `CN="A"`,
		"1=A":                      "1=A",
		"A  B":                     "A  B",
		"\xff":                     "\xff",
		strings.Repeat("CN=A,", 8): strings.Repeat("CN=A,", 8),
		"CN=" + strings.Repeat("A", api.MaxValue+1):            "CN=" + strings.Repeat("A", api.MaxValue+1),
		"CN=" + strings.Repeat("A", api.MaxValue):              "cn=" + strings.Repeat("a", api.MaxValue),
		"CN=A" + strings.Repeat(",CN=A", api.MaxRDNs-1):        "cn=a" + strings.Repeat(",cn=a", api.MaxRDNs-1),
		"CN=A" + strings.Repeat(",CN=A", api.MaxRDNs):          "CN=A" + strings.Repeat(",CN=A", api.MaxRDNs),
		strings.Repeat("CN=A,", 1<<12):                         strings.Repeat("CN=A,", 1<<12),
		"CN=" + strings.Repeat(`\`, 1<<14):                     "CN=" + strings.Repeat(`\`, 1<<14),
		"sn=" + strings.Repeat("\xff", api.MaxValue) + "+CN=A": "cn=a+sn=" + strings.Repeat(`\ff`, api.MaxValue),
	} {
		for _, s := range spellings("member") {
			if got := match.Norm(s, v); got != want {
				t.Errorf("P6.1: Norm of %s, %.100q: %.100q; want %.100q", s, v, got, want)
			}
		}
		compare(t, "member", v, want, 0)
		check(t, v)
		if d, err := dn.Parse(v); err == api.OK && match.DN(d) != want {
			t.Errorf("P6.2: DN of %.100q: %.100q; want %.100q", v, match.DN(d), want)
		}
	}
}

func TestEqual(t *testing.T) { // P6.1
	for _, c := range []struct {
		name, a, b string
		want       bool
	}{
		{"cn", " A  b", "a B ", true},
		{"Cn", " A  b", "a B ", true},
		{"cn", "a b", "ab", false},
		{"cn", "", "  ", true},
		{"cn", "a", "", false},
		{"cn", "a", "a\t", false},
		{"cn", "\u00e4", "\u00c4", false},
		{"cn", "a\xff", "A\xff", true},
		{"mail", "a", "A", false},
		{"mail", "a", "a", true},
		{"mail", "a", "a ", false},
		{"entryid", "1.0.0", "1.0.0", true},
		{"entryid", "1.0.0", "01.0.0", false},
		{"aci", "grant  r", "grant r", false},
		{"uidnumber", "7", "7", true},
		{"uidnumber", "7", "07", false}, // no number
		{"uidnumber", "0", "-0", false},
		{"uidnumber", "7", "-7", false},
		{"uidnumber", "a", "A", false},
		{"userpassword", "a", "a", true},
		{"userpassword", "a", "A", false},
		{"userpassword", "\x00", "", false},
		{"member", "CN=a", "cn=A", true},
		{"member", "cn=a+sn=b", "SN=B+CN=A", true},
		{"member", "cn=a,sn=b", "sn=b,cn=a", false}, // parts have an order
		{"member", "cn=a+sn=b", "cn=b+sn=a", false},
		{"member", "cn=a", "sn=a", false},
		{"member", "cn=a", "cn=a,o=b", false},
		{"member", "cn=a+o=b", "cn=a,o=b", false},
		{"member", `cn=a\,o=b`, "cn=a,o=b", false},
		{"member", "mail=a", "mail=A", false},
		{"member", `cn=\61`, "cn=a", true},
		{"member", "member=cn\\=A", "member=CN\\=a", true},
		{"member", "member=mail=A", "member=mail=a", false},
		{"member", "cn", "CN", false}, // no names
		{"member", "cn", "cn", true},
		{"member", "", "", true},
		{"member", "", "cn=a", false},
		{"x", "a", "A", false},
		{"x", "a", "a", true},
		{"", "", "", true},
	} {
		if got, back := match.Equal(c.name, c.a, c.b), match.Equal(c.name, c.b, c.a); got != c.want || back != c.want {
			t.Errorf("P6.1: Equal of %s, %q, %q: %v, the other way round %v", c.name, c.a, c.b, got, back)
		}
		if (match.Cmp(c.name, c.a, c.b) == 0) != c.want {
			t.Errorf("P6.1: Cmp of %s, %q, %q: %d", c.name, c.a, c.b, match.Cmp(c.name, c.a, c.b))
		}
	}
}

func TestCmpNumbers(t *testing.T) { // P6.1
	rising := []string{"-999999999999999", "-999999999999998", "-100000000000000", "-99999999999999", "-4294967297", "-2147483649", "-100", "-99", "-11", "-10", "-9", "-2", "-1", "0", "1", "2", "9", "10", "11", "99", "100", "2147483647", "2147483648", "4294967295", "4294967296", "9007199254740992", "99999999999999", "100000000000000", "123456789012345", "999999999999998", "999999999999999"}
	rising = slices.DeleteFunc(rising, func(s string) bool { return !schema.IsInt(s) }) // 16 digits are too many
	if len(rising) != 30 {
		t.Fatalf("%d numbers", len(rising))
	}
	for i, a := range rising {
		for j, b := range rising {
			for _, s := range spellings("uidnumber") {
				compare(t, s, a, b, min(1, max(-1, i-j)))
			}
			for _, name := range []string{"uid", "mail", "userpassword", "member", "number", ""} { // of no other syntax
				compare(t, name, a, b, strings.Compare(a, b))
			}
		}
	}
}

// TestCmpNoNumbers: one that isn't a number makes texts of both.
func TestCmpNoNumbers(t *testing.T) { // P6.1
	no := []string{"", " ", "-", "-0", "00", "07", "-07", "+1", " 1", "1 ", "1a", "a", "A", "0x1", "1.0", "1000000000000000", "-1000000000000000", "9223372036854775808", "18446744073709551617", "\x00", "\xff", strings.Repeat("9", 1<<16)}
	for _, a := range no {
		for _, b := range append(no, "0", "1", "2", "7", "10", "-1", "-7", "-10", "999999999999999") {
			compare(t, "uidnumber", a, b, bytes.Compare([]byte(a), []byte(b)))
			compare(t, "UIDNumber", a, b, bytes.Compare([]byte(a), []byte(b)))
		}
	}
	for _, c := range []struct {
		a, b string
		want int
	}{{"07", "1", -1}, {"10", "9x", -1}, {"10", "9", 1}, {"1000000000000000", "9", -1}, {"-0", "-1", -1}, {"-1", "-0", 1}, {"-1", "-2", 1}, {"-1", "-2x", -1}, {"-1", "-02", 1}, {"5", "", 1}, {"5", "5 ", -1}} {
		compare(t, "uidnumber", c.a, c.b, c.want)
	}
}

func TestCmpTexts(t *testing.T) { // P6.1
	for _, name := range texts {
		for _, s := range spellings(name) {
			for _, c := range []struct {
				a, b string
				want int
			}{
				{"a", "b", -1},
				{"A", "b", -1},
				{"a", "B", -1}, // above it as they stand
				{"B", "a", 1},
				{"a", "A", 0},
				{" b", "a", 1}, // below it as they stand
				{"a b", "ab", -1},
				{"a  b", "A B ", 0},
				{"a  c", "a b", 1},
				{"a", "ab", -1}, // the shorter one first
				{"a", "a b", -1},
				{"ab", "b", -1},
				{"", "a", -1},
				{"", " ", 0},
				{"  ", "a", -1},
				{"10", "9", -1}, // no numbers
				{"-1", "-2", -1},
				{"Z", "[", 1}, // z is above it
				{"_", "A", -1},
				{"a", "\x80", -1},
				{"\x7f", "\x80", -1}, // bytes have no sign
				{"\xff", "\xfe", 1},
				{"\xff", "a", 1},
				{"a\x00", "a", 1},
				{"\u00c4", "\u00e4", -1},
			} {
				compare(t, s, c.a, c.b, c.want)
			}
		}
	}
}

func TestCmpNames(t *testing.T) { // P6.1
	for _, c := range []struct {
		a, b string
		want int
	}{
		{"CN=A", "cn=a", 0},
		{"CN=B", "cn=a", 1}, // below it as they stand
		{"sn=a+CN=b", "cn=b+sn=b", -1},
		{"sn=a", "CN=b", 1},
		{"cn=a", "cn=a,o=b", -1},
		{"cn=a,o=b", "cn=a+o=b", 1}, // a plus is below a comma
		{"", "cn=a", -1},
		{"CN", "cn=a", -1}, // no name: as it stands
		{"cn", "CN=A", -1},
		{"x", "CN=A", 1},
		{`cn=\ff`, "cn=a", -1}, // a backslash is below an a
		{"cn=\xff", `cn=\FF`, 0},
		{"cn=\xff", "cn=A", -1},
		{"uidnumber=10", "uidnumber=9", -1},
		{"member=CN\\=B", "member=cn\\=a", 1},
	} {
		for _, s := range spellings("member") {
			compare(t, s, c.a, c.b, c.want)
		}
		compare(t, "mail", c.a, c.b, strings.Compare(c.a, c.b))
		compare(t, "x", c.a, c.b, strings.Compare(c.a, c.b))
	}
}

// TestCmpByChance: numbers by chance, against a greater kind of number.
func TestCmpByChance(t *testing.T) { // P6.1
	r := rand.New(rand.NewSource(61))
	made := func() string {
		b := make([]byte, 1+r.Intn(17))
		for i := range b {
			b[i] = '0' + byte(r.Intn(10))
		}
		return strings.Repeat("-", r.Intn(5)/2) + string(b)
	}
	numbers := 0
	for range 20000 {
		a, b := made(), made()
		if r.Intn(3) == 0 {
			b = a[:len(a)-1] + "5"
		}
		want := strings.Compare(a, b)
		if schema.IsInt(a) && schema.IsInt(b) {
			x, _ := new(big.Int).SetString(a, 10)
			y, _ := new(big.Int).SetString(b, 10)
			want = x.Cmp(y)
			numbers++
		}
		compare(t, "uidnumber", a, b, want)
	}
	if numbers < 1000 {
		t.Errorf("only %d numbers", numbers)
	}
}

func TestRDN(t *testing.T) { // P6.2
	for _, c := range []struct {
		r    api.RDN
		want string
	}{
		{rdn("cn", "a"), "cn=a"},
		{rdn("cn", "A"), "cn=a"},
		{rdn("cn", " A  B "), "cn=a b"},
		{rdn("cn", "a", "sn", "b"), "cn=a+sn=b"},
		{rdn("sn", "b", "cn", "a"), "cn=a+sn=b"},
		{rdn("sn", "A", "cn", "B"), "cn=b+sn=a"}, // by the types, not by the values
		{rdn("d", "1", "c", "2", "b", "3", "a", "4"), "a=4+b=3+c=2+d=1"},
		{rdn("ab", "1", "a-b", "2", "a0", "3", "a", "4"), "a=4+a-b=2+a0=3+ab=1"}, // byte by byte, the shorter first
		{rdn("a1", "x", "a-", "x"), "a-=x+a1=x"},                                 // though a plus and = of their texts say otherwise
		{rdn("cn0", "1", "cn", "2"), "cn=2+cn0=1"},
		{rdn("uidnumber", "10", "uid", "A"), "uid=a+uidnumber=10"},
		{rdn("mail", "A  b"), "mail=A  b"},
		{rdn("mail", " A "), `mail=\ A\ `},
		{rdn("x", " A  b "), `x=\ A  b\ `},
		{rdn("userpassword", "\x00A\xff"), `userpassword=\00A\ff`},
		{rdn("cn", "\x1fA\x7f"), `cn=\1fa\7f`},
		{rdn("cn", "~ !"), "cn=~ !"},
		{rdn("cn", ` #A`), `cn=\#a`}, // first is what is first of the Norm
		{rdn("cn", "a #"), "cn=a #"},
		{rdn("cn", "##"), `cn=\##`},
		{rdn("cn", `A,+"\<>;=#`), `cn=a\,\+\"\\\<\>\;=#`},
		{rdn("mail", "#"), `mail=\#`},
		{rdn("mail", " "), `mail=\ `},
		{rdn("cn", " "), `cn=\ `}, // its Norm is empty: its Value is kept
		{rdn("cn", "  "), `cn=\ \ `},
		{rdn("cn", "   "), `cn=\  \ `},
		{rdn("cn", strings.Repeat(" ", api.MaxValue)), `cn=\ ` + strings.Repeat(" ", api.MaxValue-2) + `\ `},
		{rdn("sn", " ", "cn", " A"), `cn=a+sn=\ `},
		{rdn("cn", "\t"), `cn=\09`},
		{rdn("member", "CN=A,O=B"), `member=cn=a\,o=b`},
		{rdn("member", "SN=A+CN=B"), `member=cn=b\+sn=a`},
		{rdn("member", "CN"), "member=CN"},
		{rdn("member", " "), `member=\ `},
		{rdn("member", "member=CN=A"), "member=member=cn=a"},
		{rdn("member", `CN=\ `), `member=cn=\\\ `}, // a backslash that belongs to the value, and the blank that is last
		{rdn("uidnumber", "07"), "uidnumber=07"},
		{rdn("cn", strings.Repeat("A", api.MaxValue)), "cn=" + strings.Repeat("a", api.MaxValue)},
	} {
		if got := match.RDN(c.r); got != c.want {
			t.Errorf("P6.2: RDN of %q: %q; want %q", c.r, got, c.want)
		}
		if got := match.DN(api.DN{c.r}); got != c.want {
			t.Errorf("P6.2: DN of %q: %q; want %q", c.r, got, c.want)
		}
		if modelRDN(c.r) != c.want {
			t.Errorf("the model tells %q: %q", c.r, modelRDN(c.r))
		}
	}
}

// TestEachByte: each byte alone, first, last, between others, and beside blanks.
func TestEachByte(t *testing.T) { // P6.1, P6.2
	for i := range 256 {
		c := string([]byte{byte(i)})
		for _, v := range []string{c, c + c, c + "A", "A" + c, "A" + c + "B", " " + c, c + " ", "  " + c + "  A  " + c + "  ", strings.Repeat(c, api.MaxValue)} {
			check(t, v)
			check(t, "CN="+v)
			check(t, `CN=\`+v)
			for _, name := range append([]string{"x"}, all...) {
				r := rdn(name, v)
				if got := match.RDN(r); got != modelRDN(r) {
					t.Errorf("P6.2: RDN of %q: %q; want %q", r, got, modelRDN(r))
				}
			}
		}
	}
}

// TestLongNorms: parts whose Norms are longer than a value may be.
func TestLongNorms(t *testing.T) { // P6.2
	high := func(n int) string { return strings.Repeat("\xff", n) }
	for _, c := range []struct {
		r    api.RDN
		want string
	}{
		{rdn("member", "CN="+high(57)), `member=cn=` + strings.Repeat(`\\ff`, 57)},
		{rdn("member", "CN="+high(20)), `member=cn=` + strings.Repeat(`\\ff`, 20)}, // 63 bytes
		{rdn("member", "CN="+high(19)), `member=cn=` + strings.Repeat(`\\ff`, 19)}, // 60
		{rdn("member", "CN="+high(18)+"AB"), `member=cn=` + strings.Repeat(`\\ff`, 18) + "ab"},
		{rdn("member", "member=CN="+high(50)), `member=member=cn=` + strings.Repeat(`\\\\ff`, 50)},
		{rdn("member", strings.Repeat("MEMBER=", 8)+high(4)), strings.Repeat("member=", 9) + strings.Repeat(strings.Repeat(`\`, 256)+"ff", 4)}, // what is innermost is no name
		{rdn("member", strings.Repeat("MEMBER=", 7)+"CN="+high(8)), strings.Repeat("member=", 8) + "cn=" + strings.Repeat(strings.Repeat(`\`, 256)+"ff", 8)},
		{rdn("sn", "B", "member", "CN="+high(57), "cn", "A"), `cn=a+member=cn=` + strings.Repeat(`\\ff`, 57) + "+sn=b"},
	} {
		if got := match.RDN(c.r); got != c.want {
			t.Errorf("P6.2: RDN of %q: %q; want %q", c.r, got, c.want)
		}
		if got, want := match.DN(api.DN{c.r, c.r, rdn("o", "A")}), c.want+","+c.want+",o=a"; got != want {
			t.Errorf("P6.2: DN of parts %q: %q; want %q", c.r, got, want)
		}
		if !match.SameRDN(c.r, c.r) || match.SameRDN(c.r, rdn("cn", "a")) {
			t.Errorf("P6.2: %q isn't the same as itself, or as another one", c.r)
		}
	}
}

// TestLongNormsAll: Norms of each length, with a byte that is printed otherwise where it is first or last at each place.
func TestLongNormsAll(t *testing.T) { // P6.2
	for _, name := range []string{"mail", "cn", "x", "member"} {
		for _, c := range []string{" ", "#", " #", "# ", "a", "\\\\", "\\,", "\x00 ", "  #"} {
			for k := range api.MaxValue - 8 {
				begin := name + "=" + strings.Repeat("\xff", k) + "a"
				for n := 0; len(begin)+n*len(c)+1 <= api.MaxValue; n++ {
					v := begin + strings.Repeat(c, n) + "B"
					r := rdn("member", v)
					if got, want := match.RDN(r), modelRDN(r); got != want {
						t.Fatalf("P6.2: RDN of %q: %q; want %q", r, got, want)
					}
					if got, want := match.Norm("member", v), modelNorm("member", v); got != want {
						t.Fatalf("P6.1: Norm of member, %q: %q; want %q", v, got, want)
					}
				}
			}
		}
	}
}

func TestDN(t *testing.T) { // P6.2
	for s, want := range map[string]string{
		"":                                "",
		"CN=A":                            "cn=a",
		"CN=A,OU=B":                       "cn=a,ou=b",
		"OU=B,CN=A":                       "ou=b,cn=a",
		"sn=B+cn=A,uid=D+o=C,dc=E":        "cn=a+sn=b,o=c+uid=d,dc=e",
		`cn=A\, B,MAIL=C`:                 `cn=a\, b,mail=C`,
		`cn=\ ,sn=\ \ `:                   `cn=\ ,sn=\ \ `,
		"cn=a,cn=a":                       "cn=a,cn=a",
		"o=1,o=2,o=3,o=4,o=5,o=6,o=7,O=H": "o=1,o=2,o=3,o=4,o=5,o=6,o=7,o=h",
		`cn=A\+B`:                         `cn=a\+b`,
	} {
		d := parse(t, s)
		if got := match.DN(d); got != want {
			t.Errorf("P6.2: DN of %q: %q; want %q", s, got, want)
		}
		if !match.SameDN(d, d) || !match.SameDN(d, parse(t, want)) || !match.SameDN(parse(t, want), d) {
			t.Errorf("P6.2: %q isn't the same as %q", s, want)
		}
	}
	if match.DN(nil) != "" || match.DN(api.DN{}) != "" || !match.SameDN(nil, api.DN{}) || match.SameDN(nil, parse(t, "cn=a")) {
		t.Error("P6.2: the root")
	}
}

func TestSame(t *testing.T) { // P6.2
	for _, c := range []struct {
		a, b string
		want bool
	}{
		{"cn=a", "CN=A", true},
		{"cn=a", `CN=\ A\ `, true},
		{"cn=a b", "cn=A  B", true},
		{"cn=a b", "cn=ab", false},
		{"cn=a", "sn=a", false},
		{"cn=a", "cn=b", false},
		{"cn=a+sn=b", "sn=B+cn=A", true},
		{"cn=a+sn=b", "cn=b+sn=a", false},
		{"cn=a+sn=b", "cn=a", false},
		{"cn=a+sn=b", `cn=a\+sn\=b`, false},
		{"a=1+b=2+c=3+d=4", "d=4+b=2+a=1+c=3", true},
		{"mail=a", "mail=A", false},
		{"x=a", "x=A", false},
		{"x=a", "X=a", true},
		{"uidnumber=7", "uidnumber=07", false},
		{`cn=\ `, `cn=\ \ `, false}, // Norms are empty: each keeps its Value
		{`cn=\ `, `cn=\20`, true},
		{"member=CN\\=A", "member=cn=a", true},
		{"member=cn", "member=CN", false},
		{"member=sn=b\\+cn=a", "member=CN=A\\+SN=B", true},
		{"cn=\xff", `cn=\ff`, true},
		{"cn=\xff", `cn=\\ff`, false},
	} {
		for _, ends := range [][2]string{{"", ""}, {"", ",o=X"}, {"ou=1,", ""}, {"ou=1,", ",o=X"}} {
			a, b := parse(t, ends[0]+c.a+ends[1]), parse(t, ends[0]+c.b+ends[1])
			if match.SameDN(a, b) != c.want || match.SameDN(b, a) != c.want {
				t.Errorf("P6.2: SameDN of %q, %q: not %v", a, b, c.want)
			}
			if match.Equal("member", dn.Print(a), dn.Print(b)) != c.want {
				t.Errorf("P6.1: Equal of member, %q, %q: not %v", a, b, c.want)
			}
		}
		a, b := parse(t, c.a)[0], parse(t, c.b)[0]
		if match.SameRDN(a, b) != c.want || match.SameRDN(b, a) != c.want {
			t.Errorf("P6.2: SameRDN of %q, %q: not %v", a, b, c.want)
		}
	}
	for _, l := range [][2]string{{"cn=a,o=b", "o=b,cn=a"}, {"cn=a", "cn=a,o=b"}, {"", "cn=a"}, {"cn=a+o=b", "cn=a,o=b"}, {"cn=a,cn=a", "cn=a"}, {"cn=a,o=b+c=d", "cn=a+o=b,c=d"}} {
		if match.SameDN(parse(t, l[0]), parse(t, l[1])) || match.SameDN(parse(t, l[1]), parse(t, l[0])) {
			t.Errorf("P6.2: %q, %q are the same", l[0], l[1])
		}
	}
}

// TestRefused: what is no part, no name.
func TestRefused(t *testing.T) { // P6.2
	var five, noParts api.RDN
	for i := range api.MaxAVAs + 1 {
		five = append(five, api.AVA{Attr: string(rune('a' + i)), Value: "v"})
	}
	for range 1 << 14 {
		noParts = append(noParts, api.AVA{Attr: "cn", Value: "a"})
	}
	good := rdn("cn", "a")
	for _, r := range []api.RDN{
		nil,
		{},
		rdn("", ""),
		rdn("cn", ""),
		rdn("", "a"),
		rdn("CN", "a"),
		rdn("Cn", "a"),
		rdn("1", "a"),
		rdn("-", "a"),
		rdn("c n", "a"),
		rdn("cn ", "a"),
		rdn("abcdefghijklmnopq", "a"),
		rdn("cn", "a", "cn", "b"),
		rdn("cn", "a", "sn", "b", "cn", "a"),
		rdn("cn", "a", "sn", ""),
		rdn("sn", "", "cn", "a"),
		rdn("cn", strings.Repeat("a", api.MaxValue+1)),
		rdn("cn", strings.Repeat(" ", api.MaxValue+1)), // though its Norm is short
		rdn("cn", "a"+strings.Repeat(" ", api.MaxValue)),
		rdn("member", "cn="+strings.Repeat("a", api.MaxValue)),
		rdn("cn", strings.Repeat("a", 1<<20)),
		five,
		noParts,
	} {
		if got := match.RDN(r); got != "" {
			t.Errorf("P6.2: RDN of %.200q: %.100q", r, got)
		}
		for _, d := range []api.DN{{r}, {good, r}, {r, good}, {good, r, good}} {
			if got := match.DN(d); got != "" {
				t.Errorf("P6.2: DN of %.200q: %.100q", d, got)
			}
			if match.SameDN(d, api.DN{good}) || match.SameDN(api.DN{good}, d) {
				t.Errorf("P6.2: %.200q is the same as a name", d)
			}
			if !match.SameDN(d, d) || !match.SameDN(d, nil) {
				t.Errorf("P6.2: %.200q has another form than the root", d)
			}
		}
		if match.SameRDN(r, good) || match.SameRDN(good, r) || !match.SameRDN(r, nil) {
			t.Errorf("P6.2: %.200q is the same as a part, or has another form than what is none", r)
		}
	}
	if d := slices.Repeat(api.DN{good}, api.MaxRDNs); match.DN(d) != strings.Repeat("cn=a,", api.MaxRDNs-1)+"cn=a" {
		t.Errorf("P6.2: DN of MaxRDNs parts: %q", match.DN(d))
	}
	for _, n := range []int{api.MaxRDNs + 1, 2 * api.MaxRDNs, 1 << 14} {
		if d := slices.Repeat(api.DN{good}, n); match.DN(d) != "" || match.SameDN(d, d[:1]) {
			t.Errorf("P6.2: DN of %d parts: %.100q", n, match.DN(d))
		}
	}
	if four := five[:api.MaxAVAs]; match.RDN(four) != "a=v+b=v+c=v+d=v" {
		t.Errorf("P6.2: RDN of MaxAVAs AVAs: %q", match.RDN(four))
	}
}

// key tells what makes a part the same as another one, by no text of it.
func key(r api.RDN) string {
	var l []string
	for _, a := range r {
		v := modelNorm(a.Attr, a.Value)
		if v == "" {
			v = a.Value
		}
		l = append(l, fmt.Sprintf("%q %q", a.Attr, v))
	}
	sort.Strings(l)
	return strings.Join(l, "\n")
}

// TestOneForm: of all parts with some values, those and only those that are the same have the same form.
func TestOneForm(t *testing.T) { // P6.3
	values := []string{"a", "A", " a", "a ", "a b", "A  b", "ab", " ", "  ", "#", " #", "\\", "\\\\", "+", ",", "a+sn=a", "a,sn=a", "cn=a", "CN=A", `cn=\41`, "cn=a,o=b", "CN=A,O= b", "sn=b+cn=a", "cn=a+sn=B", "\xff", `\ff`, "7", "07"}
	var parts []api.RDN
	for _, name := range []string{"cn", "sn", "mail", "member", "uidnumber", "x", "c"} {
		for _, v := range values {
			one := rdn(name, v)
			parts = append(parts, one)
			for _, other := range []string{"cn", "member", "z"} {
				for _, w := range values {
					if other != name {
						parts = append(parts, rdn(name, v, other, w), rdn(other, w, name, v))
					}
				}
			}
		}
	}
	formOf, keyOf := map[string]string{}, map[string]string{}
	for _, r := range parts {
		form, k := match.RDN(r), key(r)
		if have, ok := formOf[k]; ok && have != form {
			t.Fatalf("P6.3: %q is told %q and %q", r, have, form)
		}
		if have, ok := keyOf[form]; ok && have != k {
			t.Fatalf("P6.3: %q is told as is %s", r, have)
		}
		formOf[k], keyOf[form] = form, k
		if form != modelRDN(r) {
			t.Fatalf("P6.2: RDN of %q: %q; want %q", r, form, modelRDN(r))
		}
	}
	if len(formOf) < 3000 || len(formOf) > len(parts)*2/3 {
		t.Errorf("%d forms of %d parts", len(formOf), len(parts))
	}
}

// twoValues tells a value of that type by chance, and the same value written otherwise.
func twoValues(r *rand.Rand, name string, deep int) (string, string) {
	if name == "member" && deep > 0 {
		d, e := twoNames(r, 1+r.Intn(2), deep-1)
		return spell(r, d), spell(r, e)
	}
	if slices.Contains(texts, name) {
		return twoTexts(r)
	}
	v := "v"
	for range r.Intn(6) {
		v += pick(r, " aA#,=\xff07")
	}
	return v, v
}

// twoTexts tells a text by chance, and the same one with other letters and blanks.
func twoTexts(r *rand.Rand) (string, string) {
	a, b := strings.Repeat(" ", r.Intn(3)), strings.Repeat(" ", r.Intn(3))
	for range 1 + r.Intn(4) {
		const bytes = "aZ#,+\"\\=<5\x00\xc4\xe4\xff"
		word := pick(r, bytes) + pick(r, bytes)
		a += word + strings.Repeat(" ", 1+r.Intn(2))
		b += swap(r, word) + strings.Repeat(" ", 1+r.Intn(2))
	}
	return strings.TrimSuffix(a, " "), b
}

// pick tells a byte of s by chance.
func pick(r *rand.Rand, s string) string {
	i := r.Intn(len(s))
	return s[i : i+1]
}

// swap tells s with some of its letters in the other case.
func swap(r *rand.Rand, s string) string {
	b := []byte(s)
	for i, c := range b {
		if c |= 32; 'a' <= c && c <= 'z' && r.Intn(2) == 0 {
			b[i] ^= 32
		}
	}
	return string(b)
}

// twoNames tells a name of n parts by chance, and the same name with other values and AVAs in another order.
func twoNames(r *rand.Rand, n, deep int) (api.DN, api.DN) {
	types := append([]string{"x", "c-1", "member"}, all...)
	var d, e api.DN
	for range n {
		var p, q api.RDN
		for _, i := range r.Perm(len(types))[:1+r.Intn(2+min(deep, 2))] {
			name := types[i]
			if slices.ContainsFunc(p, func(a api.AVA) bool { return a.Attr == name }) {
				continue
			}
			v, w := twoValues(r, name, deep)
			if len(v) > api.MaxValue || len(w) > api.MaxValue {
				v, w = "cn=a", "cn=a"
			}
			p, q = append(p, api.AVA{Attr: name, Value: v}), append(q, api.AVA{Attr: name, Value: w})
		}
		r.Shuffle(len(q), func(i, j int) { q[i], q[j] = q[j], q[i] })
		d, e = append(d, p), append(e, q)
	}
	return d, e
}

// spell tells a text of d: its types and its values' bytes written one way or another.
func spell(r *rand.Rand, d api.DN) string {
	s := ""
	for i, p := range d {
		for j, a := range p {
			switch {
			case j > 0:
				s += "+"
			case i > 0:
				s += ","
			}
			s += swap(r, a.Attr) + "="
			for k := range len(a.Value) {
				if c := a.Value[k]; r.Intn(8) == 0 {
					s += fmt.Sprintf(`\%02X`, c)
				} else {
					s += modelByte(c, k == 0, k == len(a.Value)-1)
				}
			}
		}
	}
	return s
}

// TestWrittenOtherwise: names by chance, each written in two ways.
func TestWrittenOtherwise(t *testing.T) { // P6.3
	r := rand.New(rand.NewSource(63))
	nested, others := 0, 0
	last := api.DN{}
	for range 4000 {
		d, e := twoNames(r, r.Intn(api.MaxRDNs+1), 2)
		if !dn.Is(d) || !dn.Is(e) {
			t.Fatalf("no names: %q, %q", d, e)
		}
		a, b := spell(r, d), spell(r, e)
		if got := parse(t, a); fmt.Sprintf("%q", got) != fmt.Sprintf("%q", d) && len(d) > 0 {
			t.Fatalf("%q is read as %q", d, got)
		}
		form := match.DN(d)
		if form != modelDN(d) {
			t.Fatalf("P6.2: DN of %q: %q; want %q", d, form, modelDN(d))
		}
		if !match.SameDN(d, e) || !match.SameDN(e, d) || match.DN(e) != form {
			t.Fatalf("P6.3: %q, %q: %q, %q", d, e, form, match.DN(e))
		}
		if match.Norm("member", a) != form || match.Norm("Member", b) != form || !match.Equal("member", a, b) || match.Cmp("member", a, b) != 0 {
			t.Fatalf("P6.3: %q, %q: %q, %q", a, b, match.Norm("member", a), match.Norm("member", b))
		}
		for i := range d {
			if !match.SameRDN(d[i], e[i]) || match.RDN(d[i]) != match.RDN(e[i]) {
				t.Fatalf("P6.3: %q, %q", d[i], e[i])
			}
		}
		if back, err := dn.Parse(form); err == api.OK && match.DN(back) != form {
			t.Fatalf("P6.3: %q is told %q", form, match.DN(back))
		}
		if strings.Contains(form, "member=") && strings.Contains(form, `\,`) {
			nested++
		}
		same := modelDN(last) == modelDN(d)
		if match.SameDN(last, d) != same {
			t.Fatalf("P6.3: SameDN of %q, %q: not %v", last, d, same)
		}
		if !same {
			others++
		}
		last = d
	}
	if nested < 200 || others < 2000 {
		t.Errorf("only %d names in names, %d that differ", nested, others)
	}
}

// TestNewMemory: no answer shares memory with what was handed in.
func TestNewMemory(t *testing.T) { // what holds everywhere
	within := func(p, s string) bool {
		at := uintptr(unsafe.Pointer(unsafe.StringData(p)))
		begin := uintptr(unsafe.Pointer(unsafe.StringData(s)))
		return p != "" && at >= begin && at < begin+uintptr(len(s))
	}
	for _, v := range []string{"a", "a b", "cn=a", "cn=a,ou=b", "7", " A ", strings.Repeat("v", 50), "no name"} {
		v = strings.Clone(v)
		for _, name := range append([]string{"x", "", "CN"}, all...) {
			if within(match.Norm(name, v), v) {
				t.Errorf("Norm of %s, %q keeps what was handed in", name, v)
			}
		}
		if d, err := dn.Parse(v); err == api.OK {
			if got := match.DN(d); within(got, d[0][0].Attr) || within(got, d[0][0].Value) {
				t.Errorf("DN of %q keeps what was handed in", v)
			}
		}
	}
}

// TestNotChanged: what is handed in stays as it was, order, spare room and all.
func TestNotChanged(t *testing.T) { // what holds everywhere
	r := append(make(api.RDN, 0, 6), rdn("sn", " B", "cn", "A  c", "member", "O=D")...)
	d := append(make(api.DN, 0, 4), r, rdn("ou", "X", "o", "Y"))
	d[:4][2] = rdn("o", "spare")
	r[:6][3] = api.AVA{Attr: "a", Value: "spare"}
	before := fmt.Sprintf("%q %q", d[:4], r[:6])
	const part, whole = "cn=a c+member=o=d+sn=b", "cn=a c+member=o=d+sn=b,o=y+ou=x"
	for range 2 {
		if match.RDN(r) != part || match.DN(d) != whole || !match.SameRDN(r, d[0]) || !match.SameDN(d, d[:2]) || match.SameDN(d, d[:1]) {
			t.Errorf("P6.2: %q, %q", match.RDN(r), match.DN(d))
		}
	}
	if now := fmt.Sprintf("%q %q", d[:4], r[:6]); now != before {
		t.Errorf("was %s, is %s", before, now)
	}
}
