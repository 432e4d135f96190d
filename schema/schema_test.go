package schema_test

import (
	"math/rand"
	"regexp"
	"slices"
	"strings"
	"testing"
	"unsafe"

	"prefect/api"
	"prefect/dn"
	"prefect/schema"
)

// want are the chapter's types, in its order.
var want = []api.Type{
	{Name: "aci", Syntax: api.SExact},
	{Name: "c", Syntax: api.SText, Single: true},
	{Name: "cn", Syntax: api.SText},
	{Name: "dc", Syntax: api.SText},
	{Name: "description", Syntax: api.SText},
	{Name: "entryid", Syntax: api.SExact, Single: true},
	{Name: "mail", Syntax: api.SExact},
	{Name: "member", Syntax: api.SName},
	{Name: "o", Syntax: api.SText},
	{Name: "ou", Syntax: api.SText},
	{Name: "sn", Syntax: api.SText},
	{Name: "title", Syntax: api.SText, Single: true},
	{Name: "uid", Syntax: api.SText},
	{Name: "uidnumber", Syntax: api.SInt, Single: true},
	{Name: "userpassword", Syntax: api.SBytes},
}

// syntaxes have a letter each, for the rows below.
var syntaxes = map[int]string{api.SText: "t", api.SExact: "e", api.SInt: "i", api.SBytes: "b", api.SName: "n"}

const most = api.MaxValue

var (
	number  = regexp.MustCompile(`\A(0|-?[1-9][0-9]{0,14})\z`)
	printed = regexp.MustCompile(`\A[ -~]*\z`)
)

// model tells whether v can be of that syntax, by the chapter's words and by another way than the package's.
func model(syntax int, v string) bool {
	if len(v) < 1 || len(v) > 60 {
		return false
	}
	switch syntax {
	case api.SText:
		return printed.MatchString(v) && strings.Count(v, " ") < len(v)
	case api.SExact:
		return printed.MatchString(v)
	case api.SInt:
		return number.MatchString(v)
	case api.SName:
		_, err := dn.Parse(v)
		return err == 0
	}
	return syntax == api.SBytes
}

// check asks what Check tells of v as a value of each type.
func check(t *testing.T, v string) {
	t.Helper()
	for _, x := range want {
		err := api.ErrValue
		if model(x.Syntax, v) {
			err = api.OK
		}
		if got := schema.Check(x.Name, v); got != err {
			t.Errorf("P5.2, P5.3: %s of %.100q, %d bytes: %v; want %v", x.Name, v, len(v), got, err)
		}
	}
	if got := schema.IsInt(v); got != number.MatchString(v) {
		t.Errorf("P5.2: IsInt of %.100q, %d bytes: %v", v, len(v), got)
	}
}

// cases tells name with each choice of small and large letters.
func cases(name string) []string {
	l := []string{""}
	for _, c := range name {
		var more []string
		for _, s := range l {
			more = append(more, s+string(c), s+strings.ToUpper(string(c)))
		}
		l = more
	}
	return l
}

// noTypes are names of no type.
func noTypes() []string {
	l := []string{
		"", " ", "  ", "\x00", "*", "1", "-", "=", "cn=a", "2.5.4.3", "objectclass", "givenname", "street", "l", "st", "password", "entryuuid", "number",
		"member,mail", "cn;lang-en", "cn\u00a0", "c n", "uid number", "uid-number", "user_password",
		"\u017fn", "de\u017fcription", "u\u017ferpassword", "u\u0131d", "u\u0130d", "t\u0131tle", "\uff43\uff4e", // like them only where runes are folded
		strings.Repeat("cn", 1<<19), strings.Repeat("\x00", 1<<20),
	}
	for _, x := range want {
		n := x.Name
		for _, beside := range []string{" ", "\x00", "\t", "\n", ".", "=", ";", "a", "s", "z", "0", "-", "_", n} {
			l = append(l, n+beside, beside+n)
		}
		for i := range n {
			l = append(l, n[:i], n[i+1:], n[:i]+n[i+1:], n[:i]+" "+n[i:], n[:i]+string([]byte{n[i] | 128})+n[i+1:], n[:i]+string([]byte{n[i] ^ 64})+n[i+1:])
		}
	}
	return slices.DeleteFunc(l, func(n string) bool { // some are another type's
		return slices.ContainsFunc(want, func(x api.Type) bool { return x.Name == dn.Lower(n) })
	})
}

func TestAll(t *testing.T) { // P5.1
	for range 3 {
		if got := schema.All(); !slices.Equal(got, want) {
			t.Fatalf("P5.1: %v", got)
		}
	}
	if n := len(schema.All()); n != 15 {
		t.Errorf("P5.1: %d types", n)
	}
}

func TestFind(t *testing.T) { // P5.1
	for _, x := range want {
		for _, name := range cases(x.Name) {
			if got, ok := schema.Find(name); got != x || !ok {
				t.Errorf("P5.1: %s: %v, %v; want %v", name, got, ok, x)
			}
			if err := schema.Check(name, "\x01"); (err == api.OK) != (x.Syntax == api.SBytes) || err == api.ErrType {
				t.Errorf("P5.2: %s of no text: %v", name, err)
			}
		}
	}
}

func TestFindNone(t *testing.T) { // P5.1, P5.2
	l := noTypes()
	if len(l) < 500 {
		t.Errorf("only %d names", len(l))
	}
	for _, name := range l {
		if got, ok := schema.Find(name); ok || got != (api.Type{}) {
			t.Errorf("P5.1: %.100q: %v, %v", name, got, ok)
		}
		for _, v := range []string{"a", "cn=a", "0", "", " ", "\x00", strings.Repeat("a", most), strings.Repeat("a", most+1)} { // ErrType ahead of ErrValue
			if err := schema.Check(name, v); err != api.ErrType {
				t.Errorf("P5.2: %.100q of %q: %v", name, v, err)
			}
		}
	}
}

// TestFindShort: of all names of up to two bytes, and of three letters, just the types.
func TestFindShort(t *testing.T) { // P5.1
	const letters = "abcdefghijklmnopqrstuvwxyz"
	var l []string
	for i := range 256 {
		l = append(l, string([]byte{byte(i)}))
		for j := range 256 {
			l = append(l, string([]byte{byte(i), byte(j)}))
		}
	}
	for i := range 26 * 26 * 26 {
		l = append(l, string([]byte{letters[i%26], letters[i/26%26], letters[i/26/26]}))
	}
	found := 0
	for _, name := range l {
		got, ok := schema.Find(name)
		at := slices.IndexFunc(want, func(x api.Type) bool { return x.Name == dn.Lower(name) })
		if ok != (at >= 0) || ok && got != want[at] {
			t.Errorf("P5.1: %q: %v, %v", name, got, ok)
		}
		if ok {
			found++
		}
	}
	if found != 2*2+4*4+2 { // c, o; cn, dc, ou, sn; aci, uid
		t.Errorf("P5.1: %d are types", found)
	}
}

func TestIsInt(t *testing.T) { // P5.2
	for s, want := range map[string]bool{
		"0": true, "1": true, "7": true, "9": true, "10": true, "-1": true, "-9": true, "-10": true, "100": true, "-100": true, "909": true,
		"999999999999999":          true, // 15
		"100000000000000":          true,
		"-999999999999999":         true,
		"-100000000000000":         true,
		"1000000000000000":         false, // 16
		"9999999999999999":         false,
		"-1000000000000000":        false,
		"000000000000000":          false,
		"0000000000000000":         false,
		"000000000000001":          false,
		"":                         false,
		"-":                        false,
		"--":                       false,
		"--1":                      false,
		"-0":                       false,
		"--0":                      false,
		"-00":                      false,
		"-01":                      false,
		"-000000000000001":         false,
		"00":                       false,
		"01":                       false,
		"07":                       false,
		"0-":                       false,
		"1-":                       false,
		"1-1":                      false,
		"0-1":                      false,
		"+1":                       false,
		"+0":                       false,
		"+":                        false,
		"-+1":                      false,
		"+-1":                      false,
		" 1":                       false,
		"1 ":                       false,
		"1 1":                      false,
		"- 1":                      false,
		" ":                        false,
		"1\n":                      false,
		"1\x00":                    false,
		"\x001":                    false,
		"0\x00":                    false,
		"0x":                       false,
		"0x1":                      false,
		"0b1":                      false,
		"0o7":                      false,
		"0.0":                      false,
		"1.0":                      false,
		"1.":                       false,
		"1,000":                    false,
		"1_000":                    false,
		"1e3":                      false,
		"a":                        false,
		"1a":                       false,
		"a1":                       false,
		"/":                        false,
		":":                        false,
		"1/":                       false,
		"1:":                       false,
		"\u0661":                   false, // a digit elsewhere
		"\u22121":                  false, // a minus elsewhere
		"\uff11":                   false,
		"1\xff":                    false,
		"inf":                      false,
		"9223372036854775807":      false,
		"-9223372036854775808":     false,
		"18446744073709551617":     false, // 1, if it went round
		strings.Repeat("9", 1<<20): false,
		strings.Repeat("0", 1<<20): false,
		strings.Repeat("-", 1<<20): false,
	} {
		if schema.IsInt(s) != want {
			t.Errorf("P5.2: IsInt of %.100q: %v", s, !want)
		}
		check(t, s)
	}
}

// TestIsIntLong: as many digits as may be, and one more.
func TestIsIntLong(t *testing.T) { // P5.2
	for n := range 40 {
		for _, c := range []string{"1", "5", "9"} {
			s, want := strings.Repeat(c, n), n >= 1 && n <= 15
			if schema.IsInt(s) != want || schema.IsInt("-"+s) != want {
				t.Errorf("P5.2: IsInt of %d digits %s, or with a minus: want %v", n, c, want)
			}
			if n > 0 && (schema.IsInt("0"+s) || schema.IsInt("-0"+s) || schema.IsInt("00"+s) || schema.IsInt("--"+s) || schema.IsInt(s+"-")) {
				t.Errorf("P5.2: IsInt of %d digits %s and something beside them", n, c)
			}
			if got := schema.IsInt(c + strings.Repeat("0", n)); got != (n < 15) {
				t.Errorf("P5.2: IsInt of %s and %d noughts: %v", c, n, got)
			}
		}
		if got := schema.IsInt(strings.Repeat("0", n)); got != (n == 1) {
			t.Errorf("P5.2: IsInt of %d noughts: %v", n, got)
		}
		if schema.IsInt("-" + strings.Repeat("0", n)) {
			t.Errorf("P5.2: IsInt of a minus and %d noughts", n)
		}
		if schema.IsInt(strings.Repeat(" ", n)+"1") != (n == 0) {
			t.Errorf("P5.2: IsInt of %d blanks and a digit", n)
		}
	}
}

// TestIsIntAll: all short texts of telling bytes, and each byte at each place of a number.
func TestIsIntAll(t *testing.T) { // P5.2
	const alphabet = "-+019 a"
	l := []string{""}
	for range 5 {
		var more []string
		for _, s := range l {
			check(t, s)
			for _, c := range alphabet {
				more = append(more, s+string(c))
			}
		}
		l = more
	}
	for i := range 256 {
		c := string([]byte{byte(i)})
		for _, s := range []string{"1234", "-1234", "0", "-0", "123456789012345", "12345678901234", "-123456789012345"} {
			for at := range len(s) {
				check(t, s[:at]+c+s[at:])
				check(t, s[:at]+c+s[at+1:])
			}
			check(t, s+c)
		}
	}
}

// TestKinds: values with the letters of the syntaxes that take them.
func TestKinds(t *testing.T) { // P5.2, P5.3
	for _, c := range []struct{ v, takes string }{
		{"", ""}, // also as a name, though it is one
		{"a", "teb"},
		{"Ab c", "teb"},
		{" a", "teb"},
		{"a ", "teb"},
		{"  a  b  ", "teb"},
		{" ", "eb"}, // blanks alone
		{"  ", "eb"},
		{strings.Repeat(" ", most), "eb"},
		{strings.Repeat(" ", most+1), ""},
		{strings.Repeat(" ", most-1) + "a", "teb"},
		{"a" + strings.Repeat(" ", most-1), "teb"},
		{"!", "teb"},
		{"~", "teb"},
		{" ~", "teb"},
		{"*", "teb"},
		{"0", "teib"},
		{"7", "teib"},
		{"-7", "teib"},
		{"123456789012345", "teib"},
		{"-123456789012345", "teib"},
		{"1234567890123456", "teb"},
		{"07", "teb"}, // the chapter's
		{"-0", "teb"},
		{"-", "teb"},
		{"7-", "teb"},
		{"+7", "teb"},
		{" 7", "teb"},
		{"7 ", "teb"},
		{"1.5", "teb"},
		{"cn=a", "tenb"},
		{"CN=a", "tenb"},
		{"x-1=a", "tenb"}, // a name, whatever its types are
		{"cn=a,ou=b", "tenb"},
		{"cn=a+sn=b,ou=c", "tenb"},
		{`cn=a\, b`, "tenb"},
		{`cn=\00`, "tenb"},
		{`cn=\ `, "tenb"},
		{"cn=\x00", "nb"}, // dn's Parse takes it
		{"cn=\u00e4", "nb"},
		{"cn=\x7f", "nb"},
		{"cn=\x1f\xff", "nb"},
		{"cn=", "teb"},
		{"=a", "teb"},
		{"cn", "teb"},
		{",", "teb"},
		{"cn=a,", "teb"},
		{",cn=a", "teb"},
		{"cn=a, ou=b", "teb"},
		{" cn=a", "teb"},
		{"cn=a ", "teb"},
		{"cn=#a", "teb"},
		{"cn=a+cn=b", "teb"},
		{"1=a", "teb"},
		{`cn=\`, "teb"},
		{`cn="a"`, "teb"},
		{"a=1,a=2,a=3,a=4,a=5,a=6,a=7,a=8", "tenb"}, // MaxRDNs
		{"a=1,a=2,a=3,a=4,a=5,a=6,a=7,a=8,a=9", "teb"},
		{"a=1+b=2+c=3+d=4", "tenb"}, // MaxAVAs
		{"a=1+b=2+c=3+d=4+e=5", "teb"},
		{"abcdefghijklmnop=a", "tenb"},
		{"abcdefghijklmnopq=a", "teb"},
		{"\x00", "b"},
		{"\x1f", "b"},
		{"\x7f", "b"},
		{"\xff", "b"},
		{"\n", "b"},
		{"a\x1f", "b"},
		{"a\x7fb", "b"},
		{"\x1fa", "b"},
		{"\x7fa", "b"},
		{"a\tb", "b"},
		{"a\n", "b"},
		{" \x00 ", "b"},
		{"\u00a0", "b"}, // a blank elsewhere
		{"7\n", "b"},
		{"\u0667", "b"},
		{"\u00e4", "b"},
		{"a\u00e4", "b"},
		{"\xc3", "b"},
	} {
		for _, x := range want {
			err := api.ErrValue
			if strings.Contains(c.takes, syntaxes[x.Syntax]) {
				err = api.OK
			}
			if got := schema.Check(x.Name, c.v); got != err {
				t.Errorf("P5.2: %s of %q: %v; want %v", x.Name, c.v, got, err)
			}
		}
		check(t, c.v)
	}
}

// TestBytes: each byte alone, first, last, and between others.
func TestBytes(t *testing.T) { // P5.2, P5.3
	for i := range 256 {
		c := string([]byte{byte(i)})
		for _, s := range []string{c, c + c, c + "a", "a" + c, "a" + c + "b", " " + c, c + " ", " " + c + " ", "1" + c, "-" + c, "cn=" + c, "cn=a" + c, "cn=a" + c + "b", c + "n=a", "cn" + c + "a", "cn=a" + c + "sn=b", `cn=\` + c, `cn=\2` + c} {
			check(t, s)
		}
		for _, n := range []int{most - 2, most - 1, most, most + 1} {
			check(t, strings.Repeat(c, n))
			check(t, strings.Repeat("a", n-1)+c)
			check(t, c+strings.Repeat("a", n-1))
			check(t, "cn="+strings.Repeat("a", n-4)+c)
		}
		if text := i > 32 && i < 127; (schema.Check("cn", c) == api.OK) != text {
			t.Errorf("P5.2: cn of byte %d", i)
		}
		if exact := i >= 32 && i <= 126; (schema.Check("mail", c) == api.OK) != exact {
			t.Errorf("P5.2: mail of byte %d", i)
		}
		if schema.Check("userpassword", c) != api.OK {
			t.Errorf("P5.2: userpassword of byte %d", i)
		}
	}
}

// TestLong: values of as many bytes as may be, and one more.
func TestLong(t *testing.T) { // P5.2, P5.3
	for n := range 3 * most {
		for _, c := range []string{"a", " ", "~", "1", "\x00", "\xff"} {
			check(t, strings.Repeat(c, n))
		}
		for _, name := range []string{"cn", "title", "aci", "entryid", "userpassword"} {
			if got := schema.Check(name, strings.Repeat("v", n)); (got == api.OK) != (n >= 1 && n <= 60) || got != api.OK && got != api.ErrValue {
				t.Errorf("P5.2: %s of %d bytes: %v", name, n, got)
			}
		}
		s := strings.Repeat("c=a,", n/4) + "c=a" // dn's limits stand in its way first
		check(t, s)
		if n < 4 {
			continue
		}
		if s = "c=" + strings.Repeat("a", n-2); (schema.Check("member", s) == api.OK) != (n <= 60) {
			t.Errorf("P5.2: member of a name of %d bytes", n)
		}
		if n < 20 {
			continue
		}
		s = "c=" + strings.Repeat("a", n/2) + ",o="
		s += strings.Repeat("b", n-len(s)) // no part of it is too long, but it is
		if _, err := dn.Parse(s); (err == api.OK) != (n/2 <= 60) || len(s) != n {
			t.Fatalf("a name of %d bytes: %v", n, err)
		}
		if got := schema.Check("member", s); (got == api.OK) != (n <= 60) || got != api.OK && got != api.ErrValue {
			t.Errorf("P5.2: member of a name of %d bytes: %v", n, got)
		}
	}
	for _, c := range []string{"a", " ", "1", "-", "\x00", "\xff", "cn=a,", "a=1+", `\`} { // and far more
		check(t, strings.Repeat(c, 1<<18))
	}
}

// TestByChance: values of all kinds, with some bytes changed, against the model.
func TestByChance(t *testing.T) { // P5.3
	r := rand.New(rand.NewSource(5))
	begin := []string{"", "a b", "-123456789", "12345678901234", "0", " ", "    ", "cn=a,ou=b", `cn=a\, b+sn=c`, "member", "cn=\xff"}
	const few = " \x1f\x7f!~0-19a,+=\\\"\xff"
	taken := map[int]int{}
	for range 20000 {
		b := []byte(begin[r.Intn(len(begin))])
		for range r.Intn(4) {
			c, at := few[r.Intn(len(few))], r.Intn(len(b)+1)
			if r.Intn(4) == 0 {
				c = byte(r.Intn(256))
			}
			if at < len(b) && r.Intn(2) == 0 {
				b[at] = c
			} else {
				b = slices.Insert(b, at, c)
			}
		}
		check(t, string(b))
		for _, x := range want {
			if schema.Check(x.Name, string(b)) == api.OK {
				taken[x.Syntax]++
			}
		}
		if t.Failed() {
			return
		}
	}
	for syntax, letter := range syntaxes {
		if taken[syntax] < 500 {
			t.Errorf("only %d values of syntax %s", taken[syntax], letter)
		}
	}
}

// TestNewMemory: the caller owns what All told him.
func TestNewMemory(t *testing.T) { // what holds everywhere
	first, second := schema.All(), schema.All()
	spoil := second[:cap(second)] // the spare room, too
	for i := range spoil {
		spoil[i] = api.Type{Name: "cn", Syntax: api.SBytes, Single: true}
	}
	_ = append(schema.All(), api.Type{Name: "spare"})
	slices.Reverse(schema.All())
	clear(schema.All())
	if !slices.Equal(first, want) || !slices.Equal(schema.All(), want) {
		t.Errorf("P5.1: %v, then %v", first, schema.All())
	}
	for _, x := range want {
		if got, ok := schema.Find(x.Name); got != x || !ok {
			t.Errorf("P5.1: %s: %v, %v", x.Name, got, ok)
		}
	}
	if schema.Check("cn", "\x00") != api.ErrValue || schema.Check("uidnumber", "a") != api.ErrValue {
		t.Error("P5.2: another syntax than before")
	}
}

// TestNotKept: what Find tells shares nothing with the name that was asked for.
func TestNotKept(t *testing.T) { // what holds everywhere
	for _, x := range want {
		name := strings.Clone(x.Name)
		got, _ := schema.Find(name)
		if unsafe.StringData(got.Name) == unsafe.StringData(name) {
			t.Errorf("%s keeps what was handed in", name)
		}
	}
}
