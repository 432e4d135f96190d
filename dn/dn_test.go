package dn_test

import (
	"fmt"
	"math/rand"
	"strings"
	"testing"
	"unsafe"

	"prefect/api"
	"prefect/dn"
)

// rdn makes a part of types and values by turns.
func rdn(l ...string) api.RDN {
	var r api.RDN
	for i := 0; i < len(l); i += 2 {
		r = append(r, api.AVA{Attr: l[i], Value: l[i+1]})
	}
	return r
}

// shape tells all of a name, by no function of the package.
func shape(d api.DN) string { return fmt.Sprintf("%d %q", len(d), d) }

// many tells n AVAs of differing types.
func many(n int) api.RDN {
	var r api.RDN
	for i := range n {
		r = append(r, api.AVA{Attr: string(rune('a' + i)), Value: "v"})
	}
	return r
}

// times tells r n times.
func times(r api.RDN, n int) api.DN {
	var d api.DN
	for range n {
		d = append(d, r)
	}
	return d
}

// in tells whether c is a byte of s.
func in(c byte, s string) bool { return strings.IndexByte(s, c) >= 0 }

// read asks for a name and for nothing beside it, and of one part ParseRDN, too.
func read(t *testing.T, s string, want api.DN) {
	t.Helper()
	if d, err := dn.Parse(s); shape(d) != shape(want) || err != api.OK {
		t.Errorf("P4.3: %q: %s, %v; want %s", s, shape(d), err, shape(want))
	}
	r, err := dn.ParseRDN(s)
	if len(want) == 1 && (shape(api.DN{r}) != shape(want) || err != api.OK) {
		t.Errorf("P4.3: part %q: %q, %v; want %s", s, r, err, shape(want))
	}
	if len(want) != 1 && (len(r) > 0 || err != api.ErrName) {
		t.Errorf("P4.3: %q as one part: %q, %v", s, r, err)
	}
}

// refuse asks for a name where there is none, and for a part.
func refuse(t *testing.T, s string) {
	t.Helper()
	if d, err := dn.Parse(s); len(d) > 0 || err != api.ErrName {
		t.Errorf("P4.3: %.100q: %s, %v", s, shape(d), err)
	}
	if r, err := dn.ParseRDN(s); len(r) > 0 || err != api.ErrName {
		t.Errorf("P4.3: part %.100q: %q, %v", s, r, err)
	}
}

func TestIsType(t *testing.T) { // P4.1
	for s, want := range map[string]bool{
		"":                    false,
		"a":                   true,
		"z":                   true,
		"cn":                  true,
		"c-n":                 true,
		"c-":                  true, // a minus may be last
		"c--n":                true,
		"c0":                  true,
		"c9z":                 true,
		"a0-z9":               true,
		"userpassword":        true,
		"abcdefghijklmnop":    true, // 16
		"a-0123456789-bcd":    true,
		"abcdefghijklmnopq":   false, // 17
		"a-0123456789-bcde":   false,
		"0":                   false,
		"1a":                  false,
		"9":                   false,
		"-":                   false,
		"-a":                  false,
		"A":                   false,
		"Cn":                  false,
		"cN":                  false,
		"abcdefghijklmnoP":    false,
		"c n":                 false,
		" cn":                 false,
		"cn ":                 false,
		"c_n":                 false,
		"c.n":                 false,
		"2.5.4.3":             false,
		"cn;x":                false,
		"c=":                  false,
		"c\x00":               false,
		"c\u00e4":             false,
		"\u00e4":              false,
		"c\u0661":             false, // a digit elsewhere
		"c\u2010n":            false,
		"abcdefghijklmno\n":   false,
		"abcdefghijklmno\xff": false,
	} {
		if dn.IsType(s) != want {
			t.Errorf("P4.1: IsType of %q: %v", s, !want)
		}
	}
	if dn.IsType(strings.Repeat("a", 1<<20)) {
		t.Error("P4.1: IsType of a long text")
	}
	for n := range 40 {
		if dn.IsType(strings.Repeat("x", n)) != (n >= 1 && n <= 16) {
			t.Errorf("P4.1: IsType of %d bytes", n)
		}
	}
}

func TestIsTypeBytes(t *testing.T) { // P4.1
	for i := range 256 {
		c := string([]byte{byte(i)})
		first := in(byte(i), "abcdefghijklmnopqrstuvwxyz")
		later := first || in(byte(i), "0123456789-")
		for s, want := range map[string]bool{c: first, c + "a": first, c + "abcdefghijklmno": first, "a" + c: later, "a" + c + "b": later, "abcdefghijklmno" + c: later, "abcdefghijklmnop" + c: false} {
			if dn.IsType(s) != want {
				t.Errorf("P4.1: IsType of %q: %v", s, !want)
			}
		}
	}
}

func TestLower(t *testing.T) { // P4.1
	const large, little = "ABCDEFGHIJKLMNOPQRSTUVWXYZ", "abcdefghijklmnopqrstuvwxyz"
	for s, want := range map[string]string{
		"":                    "",
		"cn":                  "cn",
		"CN":                  "cn",
		"cN-0 Z":              "cn-0 z",
		large:                 little,
		little:                little,
		"@[`{":                "@[`{",                // beside the letters
		"\u00c4\u0130\u212a":  "\u00c4\u0130\u212a",  // no bytes A to Z
		"\xc3A\xff\x00B\x80Z": "\xc3a\xff\x00b\x80z", // no runes
	} {
		if got := dn.Lower(s); got != want {
			t.Errorf("P4.1: Lower of %q: %q", s, got)
		}
	}
	for i := range 256 {
		want := byte(i)
		if at := strings.IndexByte(large, want); at >= 0 {
			want = little[at]
		}
		c := string([]byte{byte(i)})
		if got := dn.Lower("A" + c + c + "Z"); got != "a"+string([]byte{want, want})+"z" {
			t.Errorf("P4.1: Lower of byte %d: %q", i, got)
		}
	}
}

func TestIsRDN(t *testing.T) { // P4.1
	for i, c := range []struct {
		r    api.RDN
		want bool
	}{
		{nil, false},
		{api.RDN{}, false},
		{api.RDN{{}}, false},
		{rdn("cn", "a"), true},
		{rdn("c", "\x00"), true},
		{rdn("cn", " "), true},
		{rdn("cn", "\xff,+\"\\<>;#="), true},
		{rdn("cn", strings.Repeat("v", api.MaxValue)), true},
		{rdn("cn", strings.Repeat("v", api.MaxValue+1)), false},
		{rdn("cn", strings.Repeat(",", api.MaxValue)), true}, // its bytes count, not those of its text
		{rdn("cn", strings.Repeat("\u00e4", api.MaxValue/2)), true},
		{rdn("cn", strings.Repeat("\u00e4", api.MaxValue/2+1)), false},
		{rdn("cn", strings.Repeat("v", 1<<20)), false},
		{rdn("cn", ""), false},
		{rdn("", "a"), false},
		{rdn("CN", "a"), false},
		{rdn("0", "a"), false},
		{rdn("-c", "a"), false},
		{rdn("c-9", "a"), true},
		{rdn("abcdefghijklmnop", "a"), true},
		{rdn("abcdefghijklmnopq", "a"), false},
		{rdn("cn", "a", "sn", "a"), true},
		{rdn("sn", "a", "cn", "a"), true}, // in any order
		{rdn("cn", "a", "cn", "b"), false},
		{rdn("cn", "a", "sn", "b", "cn", "a"), false},
		{rdn("sn", "b", "cn", "a", "cn", "a"), false},
		{rdn("a", "1", "b", "2", "c", "3", "a", "4"), false},
		{rdn("a", "1", "b", "2", "c", "3", "c", "4"), false},
		{rdn("cn", "a", "sn", ""), false},
		{rdn("cn", "", "sn", "a"), false},
		{rdn("cn", "a", "Sn", "a"), false},
		{rdn("cn", "a", "sn", strings.Repeat("v", api.MaxValue+1)), false},
		{many(api.MaxAVAs), true},
		{many(api.MaxAVAs + 1), false},
		{many(20), false},
		{make(api.RDN, 1<<20), false},
	} {
		if dn.IsRDN(c.r) != c.want || dn.Is(api.DN{c.r}) != c.want || (dn.PrintRDN(c.r) != "") != c.want || (dn.Print(api.DN{c.r}) != "") != c.want {
			t.Errorf("P4.1, P4.2: row %d: want %v", i, c.want)
		}
	}
	for n := range 2 * api.MaxValue {
		if dn.IsRDN(rdn("cn", strings.Repeat("v", n))) != (n >= 1 && n <= api.MaxValue) {
			t.Errorf("P4.1: a value of %d bytes", n)
		}
	}
	for n := range 2 * api.MaxAVAs {
		if dn.IsRDN(many(n)) != (n >= 1 && n <= api.MaxAVAs) {
			t.Errorf("P4.1: %d AVAs", n)
		}
	}
}

func TestIs(t *testing.T) { // P4.1, and P4.2 of what isn't a name
	a, wrong := rdn("cn", "a"), rdn("cn", "")
	for i, c := range []struct {
		d    api.DN
		want bool
	}{
		{nil, true}, // the root
		{api.DN{}, true},
		{api.DN{nil}, false},
		{api.DN{{}}, false},
		{api.DN{a}, true},
		{api.DN{a, a}, true}, // a part may come again
		{api.DN{a, nil}, false},
		{api.DN{wrong}, false},
		{api.DN{wrong, a}, false},
		{api.DN{a, wrong}, false},
		{api.DN{a, many(api.MaxAVAs), a}, true},
		{api.DN{a, many(api.MaxAVAs + 1), a}, false},
		{times(a, api.MaxRDNs), true},
		{times(many(api.MaxAVAs), api.MaxRDNs), true},
		{times(a, api.MaxRDNs+1), false},
		{append(times(a, api.MaxRDNs-1), wrong), false},
		{append(times(a, api.MaxRDNs), wrong), false},
		{times(a, 1<<16), false},
		{make(api.DN, 1<<20), false},
	} {
		if dn.Is(c.d) != c.want {
			t.Errorf("P4.1: row %d: want %v", i, c.want)
		}
		if s := dn.Print(c.d); (s != "") != (c.want && len(c.d) > 0) {
			t.Errorf("P4.2: row %d: %q", i, s)
		}
	}
	for n := range 3 * api.MaxRDNs {
		if dn.Is(times(a, n)) != (n <= api.MaxRDNs) {
			t.Errorf("P4.1: %d parts", n)
		}
	}
}

// printed are values with their texts.
var printed = []struct{ v, s string }{
	{"a", `a`},
	{"a b", `a b`},
	{"a  b", `a  b`},
	{" ", `\ `}, // first and last: one backslash
	{"  ", `\ \ `},
	{"   ", `\  \ `},
	{" a", `\ a`},
	{"  a", `\  a`},
	{"a ", `a\ `},
	{"a  ", `a \ `},
	{" a ", `\ a\ `},
	{"#", `\#`},
	{"##", `\##`},
	{"#a", `\#a`},
	{"a#", `a#`},
	{"a#b", `a#b`},
	{" #", `\ #`},
	{"# ", `\#\ `},
	{"# #", `\# #`},
	{" # ", `\ #\ `},
	{"=", `=`},
	{"a=b=", `a=b=`},
	{",", `\,`},
	{"a, b", `a\, b`},
	{"+", `\+`},
	{`"`, `\"`},
	{`\`, `\\`},
	{`\\`, `\\\\`},
	{`\ `, `\\\ `},
	{`a\`, `a\\`},
	{`\,`, `\\\,`},
	{`\2c`, `\\2c`},
	{"<>;", `\<\>\;`},
	{`,+"\<>;`, `\,\+\"\\\<\>\;`},
	{"*()&|!/'-_.:~@", "*()&|!/'-_.:~@"},
	{"\x00", `\00`},
	{"\x00\x1f\x7f\xff", `\00\1f\7f\ff`},
	{"\n\t\r", `\0a\09\0d`},
	{"a\u00e4b", `a\c3\a4b`},
	{"\xab\xcd\xef", `\ab\cd\ef`},
	{" \x00 ", `\ \00\ `},
	{"\x00 \x00", `\00 \00`},
	{"\x00#", `\00#`},
	{"AbC", `AbC`}, // as it stands
	{strings.Repeat("\x80", api.MaxValue), strings.Repeat(`\80`, api.MaxValue)},
	{strings.Repeat(" ", api.MaxValue), `\ ` + strings.Repeat(" ", api.MaxValue-2) + `\ `},
	{strings.Repeat(",", api.MaxValue), strings.Repeat(`\,`, api.MaxValue)},
}

func TestPrintRDN(t *testing.T) { // P4.2, P4.4
	for _, c := range printed {
		r := rdn("cn", c.v)
		if s := dn.PrintRDN(r); s != "cn="+c.s {
			t.Errorf("P4.2: %q: %q; want cn=%s", c.v, s, c.s)
		}
		read(t, "cn="+c.s, api.DN{r})
		r = rdn("sn", c.v, "cn", "x", "c-1", c.v) // each value has a first byte and a last one
		if s, want := dn.PrintRDN(r), "sn="+c.s+"+cn=x+c-1="+c.s; s != want {
			t.Errorf("P4.2: %q: %q; want %q", c.v, s, want)
		}
		read(t, "sn="+c.s+"+cn=x+c-1="+c.s, api.DN{r})
	}
	for _, r := range []api.RDN{nil, {}, rdn("cn", ""), rdn("CN", "a"), rdn("cn", "a", "cn", "b"), many(api.MaxAVAs + 1), rdn("cn", strings.Repeat("v", api.MaxValue+1))} {
		if s := dn.PrintRDN(r); s != "" {
			t.Errorf("P4.2: %q: %q", r, s)
		}
	}
}

func TestPrint(t *testing.T) { // P4.2, P4.4
	for _, c := range []struct {
		d    api.DN
		want string
	}{
		{nil, ""},
		{api.DN{rdn("cn", "a")}, "cn=a"},
		{api.DN{rdn("cn", "a, b"), rdn("ou", "x")}, `cn=a\, b,ou=x`},
		{api.DN{rdn("cn", "a", "sn", "b"), rdn("ou", "x"), rdn("dc", "y", "o", "z")}, "cn=a+sn=b,ou=x,dc=y+o=z"},
		{api.DN{rdn("cn", " "), rdn("cn", "#"), rdn("cn", "a ")}, `cn=\ ,cn=\#,cn=a\ `},
		{api.DN{rdn("cn", `\`), rdn("cn", ","), rdn("cn", "+")}, `cn=\\,cn=\,,cn=\+`},
		{times(rdn("cn", "a"), api.MaxRDNs), "cn=a" + strings.Repeat(",cn=a", api.MaxRDNs-1)},
		{times(many(api.MaxAVAs), 2), "a=v+b=v+c=v+d=v,a=v+b=v+c=v+d=v"},
	} {
		if s := dn.Print(c.d); s != c.want {
			t.Errorf("P4.2: %s: %q; want %q", shape(c.d), s, c.want)
		}
		read(t, c.want, c.d)
	}
}

// text tells how a byte is printed at a place of a value, and whether it is read there as itself, behind a backslash.
func text(c byte, first, last bool) (s string, itself, behind bool) {
	s = string([]byte{c})
	itself, behind = true, in(c, `,+"\<>;# =`)
	switch {
	case in(c, `,+"\<>;`), c == '#' && first, c == ' ' && (first || last):
		return `\` + s, false, behind
	case c < 32 || c > 126:
		return fmt.Sprintf(`\%02x`, c), itself, behind
	}
	return s, itself, behind
}

// TestEachByte: every byte in each place, printed, and read as itself, behind a backslash, by its digits.
func TestEachByte(t *testing.T) { // P4.2, P4.3, P4.4
	for i := range 256 {
		c := string([]byte{byte(i)})
		for _, around := range [][2]string{{"", ""}, {"", "z"}, {"z", ""}, {"y", "z"}, {"y", "y z"}, {"", " z"}, {"z ", ""}, {"y ", " z"}, {"yy#", "#zz"}} {
			begin, end := "cn="+around[0], around[1]
			r := rdn("cn", around[0]+c+end)
			s, itself, behind := text(byte(i), around[0] == "", end == "")
			if got := dn.PrintRDN(r); got != begin+s+end {
				t.Errorf("P4.2: %q: %q", r[0].Value, got)
			}
			want := api.DN{r}
			read(t, begin+s+end, want)
			read(t, begin+fmt.Sprintf(`\%02x`, i)+end, want)
			read(t, begin+fmt.Sprintf(`\%02X`, i)+end, want)
			if itself {
				read(t, begin+c+end, want)
			} else if c != `\` && c != "," && c != "+" { // these are asked for below
				refuse(t, begin+c+end)
			}
			if behind {
				read(t, begin+`\`+c+end, want)
			} else if !(in(byte(i), "0123456789abcdefABCDEF")) || end == "" { // else what is behind may be a digit
				refuse(t, begin+`\`+c+end)
			}
		}
	}
}

// TestDigits: each two bytes behind a backslash that are, or aren't, two digits.
func TestDigits(t *testing.T) { // P4.3
	const small, large = "0123456789abcdef", "0123456789ABCDEF"
	number := func(i int) int { return max(strings.IndexByte(small, byte(i)), strings.IndexByte(large, byte(i))) }
	for i := range 256 {
		for j := range 256 {
			if in(byte(i), `,+"\<>;# =`) || in(byte(j), ` ,+"\<>;`) {
				continue // the first alone is all, or the second alone wrong
			}
			s := "cn=a" + string([]byte{'\\', byte(i), byte(j)})
			high, low := number(i), number(j)
			if high < 0 || low < 0 {
				refuse(t, s)
				refuse(t, s+"b")
				continue
			}
			read(t, s, api.DN{rdn("cn", "a"+string([]byte{byte(high<<4 + low)}))})
			read(t, s+"0", api.DN{rdn("cn", "a"+string([]byte{byte(high<<4 + low)})+"0")}) // no third one
		}
	}
}

func TestParse(t *testing.T) { // P4.3
	for s, want := range map[string]api.DN{
		"":                                nil, // the root
		"cn=a":                            {rdn("cn", "a")},
		"CN=A":                            {rdn("cn", "A")}, // the value as it stands
		"uSeRpAsSwOrD=x":                  {rdn("userpassword", "x")},
		"A-0B=x":                          {rdn("a-0b", "x")},
		"z=x":                             {rdn("z", "x")},
		"x-=x":                            {rdn("x-", "x")},
		"abcdefghijklmnop=x":              {rdn("abcdefghijklmnop", "x")},
		"ABCDEFGHIJKLMNOP=x":              {rdn("abcdefghijklmnop", "x")},
		"cn==":                            {rdn("cn", "=")},
		"cn=a=b":                          {rdn("cn", "a=b")},
		"cn==a=":                          {rdn("cn", "=a=")},
		`cn=\=`:                           {rdn("cn", "=")},
		"cn=a,ou=x":                       {rdn("cn", "a"), rdn("ou", "x")},
		`cn=a\, b,ou=x`:                   {rdn("cn", "a, b"), rdn("ou", "x")},
		"cn=a,cn=a,cn=a":                  times(rdn("cn", "a"), 3),
		"cn=a+sn=b":                       {rdn("cn", "a", "sn", "b")},
		"sn=b+cn=a":                       {rdn("sn", "b", "cn", "a")}, // in their order
		"SN=b+cN=a,O=c+c=d":               {rdn("sn", "b", "cn", "a"), rdn("o", "c", "c", "d")},
		`cn=a\+sn=b`:                      {rdn("cn", "a+sn=b")},
		`cn=a\,sn=b`:                      {rdn("cn", "a,sn=b")},
		`cn=a\\,sn=b`:                     {rdn("cn", `a\`), rdn("sn", "b")}, // the second backslash holds nothing
		`cn=a\\+sn=b`:                     {rdn("cn", `a\`, "sn", "b")},
		`cn=a\\\,sn=b`:                    {rdn("cn", `a\,sn=b`)},
		`cn=a\\\+sn=b`:                    {rdn("cn", `a\+sn=b`)},
		`cn=a\\\\,sn=b`:                   {rdn("cn", `a\\`), rdn("sn", "b")},
		`cn=a\5c,sn=b`:                    {rdn("cn", `a\`), rdn("sn", "b")}, // nor does one by its digits
		`cn=a\5C+sn=b`:                    {rdn("cn", `a\`, "sn", "b")},
		`cn=a\2csn=b`:                     {rdn("cn", "a,sn=b")},
		`cn=a\2Bsn=b`:                     {rdn("cn", "a+sn=b")},
		`cn=\20`:                          {rdn("cn", " ")},
		`cn=\20a\20`:                      {rdn("cn", " a ")},
		`cn=\ a\ `:                        {rdn("cn", " a ")},
		`cn=\ `:                           {rdn("cn", " ")},
		`cn=\  b`:                         {rdn("cn", "  b")},
		`cn=a \ `:                         {rdn("cn", "a  ")},
		`cn=\ ,cn=\ +sn=\ `:               {rdn("cn", " "), rdn("cn", " ", "sn", " ")},
		`cn=\23`:                          {rdn("cn", "#")},
		`cn=\#`:                           {rdn("cn", "#")},
		`cn=\##`:                          {rdn("cn", "##")},
		`cn=\ #`:                          {rdn("cn", " #")},
		"cn=a#":                           {rdn("cn", "a#")},
		`cn=a\#`:                          {rdn("cn", "a#")},
		`cn=a\ b`:                         {rdn("cn", "a b")},
		`cn=\61\62`:                       {rdn("cn", "ab")}, // what needn't be by its digits
		`cn=\00\fF\Ab`:                    {rdn("cn", "\x00\xff\xab")},
		"cn=\x00\n\x7f\xff":               {rdn("cn", "\x00\n\x7f\xff")}, // nor those that are printed so
		"cn=\u00e4":                       {rdn("cn", "\u00e4")},
		"a=v+b=v+c=v+d=v":                 {many(4)},
		"a=1+b=1+c=1+d=1,a=1":             {rdn("a", "1", "b", "1", "c", "1", "d", "1"), rdn("a", "1")},
		"a=1,a=2,a=3,a=4":                 {rdn("a", "1"), rdn("a", "2"), rdn("a", "3"), rdn("a", "4")},
		"a=v" + strings.Repeat(",a=v", 7): times(rdn("a", "v"), 8),
	} {
		read(t, s, want)
	}
}

func TestParseFaults(t *testing.T) { // P4.3
	for _, s := range []string{
		"cn", "=", "=a", "cn=", " ", "\x00", `\`, `\\`, `\,`, "#", // no `=`, no type, no value
		"cn=,ou=a", "ou=a,cn=", "cn=+ou=a", "ou=a+cn=", "cn,ou=a", "ou=a,cn", "cn+ou=a", "ou=a+cn", "cn=a,=b", "cn=a+=b",
		",", "+", ",,", ",cn=a", "cn=a,", "+cn=a", "cn=a+", "cn=a,,ou=b", "cn=a++ou=b", "cn=a,+ou=b", "cn=a+,ou=b", "cn=a,ou=b,", "cn=a+ou=b+",
		"cn=a+cn=b", "cn=a+cn=a", "CN=a+cn=b", "cn=a+cN=b", "cn=a+ou=b+Cn=c", "cn=a+ou=b+OU=c", "ou=x,cn=a+cn=b", "cn=a+cn=b,ou=x",
		`cn=\`, `cn=a\`, `cn=a\\\`, `cn=a,ou=b\`, `cn=a\5c\`, // a backslash that is last
		`cn=\a`, `cn=\1`, `cn=a\f`, `cn=\0,ou=a`, `cn=\0+ou=a`, `cn=\0\0`, `cn=\2 `, `cn=\ag`, `cn=\ga`, `cn=\0 0`, // one digit alone, or none
		`cn=\n`, `cn=\x41`, `cn=\*`, `cn=\(`, `cn=\'`, `cn=\-1`, `cn=\+1` + `\`, `cn=\~`, "cn=\\\x00", "cn=\\\n", "cn=\\\xff", `cn=\:0`, `cn=\/0`, `cn=\@0`, `cn=\G0`, "cn=\\`0",
		"cn=\\\u0661\u0661", `cn=\0x`, `cn=\xx`, `cn=\_1`,
		`cn="a"`, `cn="`, `cn=a"b`, "cn=<", "cn=a<b", "cn=>", "cn=a>b", "cn=;", "cn=a;b", "cn=a;ou=b", "cn=a\";", `cn=\5c"`,
		"cn=#", "cn=#a", "cn=#04", "cn=#,ou=b", "ou=b,cn=#", "ou=b+cn=#a", // a `#` that is first
		"cn= ", "cn=  ", "cn= a", "cn=a ", "cn= a ", "cn=a  ", "cn= #", "cn=# ", "cn=a ,ou=b", "cn=a +ou=b", "ou=b,cn= a", "ou=b+cn= a", // a blank that is first, last
		`cn=\  `, `cn=\\ `, `cn=a\, `, `cn=a\2c `, `cn=\20 `, `cn= \20`, `cn= \ `, // one that no backslash holds
		"cn=a, ou=b", "cn=a+ ou=b", " cn=a", "cn =a", "cn = a", "cn=a,ou =b", // a blank is of no type
		"0=a", "1cn=a", "9=a", "-=a", "-cn=a", "c_n=a", "2.5.4.3=a", "c.n=a", "oid.1=a", "c;n=a", "\u00e4=a", "c\u00e4=a", "c\x00=a", "\"cn\"=a", "#cn=a",
		`c\n=a`, `\cn=a`, `cn\=a`, `cn\==a`, `\63n=a`, `c\6e=a`, `cn\,ou=a`, `cn\+ou=a`, `cn\ =a`, // nor is a backslash
		"abcdefghijklmnopq=a", "ABCDEFGHIJKLMNOPQ=a", "cn=a,abcdefghijklmnopq=a", "cn=a+abcdefghijklmnopq=a",
		"a=v+b=v+c=v+d=v+e=v", "x=y,a=v+b=v+c=v+d=v+e=v", "a=v+b=v+c=v+d=v+e=v,x=y", "a=v+b=v+c=v+d=v+", "a=v+b=v+c=v+d=v+a=v",
		"a=v" + strings.Repeat(",a=v", 8), strings.Repeat("a=v,", 8), strings.Repeat("a=v,", 8) + "A", strings.Repeat("a=v,", 7) + "a",
	} {
		refuse(t, s)
	}
}

// TestParseLong: values of as many bytes as may be, and one more, however they are told.
func TestParseLong(t *testing.T) { // P4.3
	for told, c := range map[string]string{"a": "a", `\,`: ",", `\2c`: ",", `\FF`: "\xff", "\xff": "\xff", `\\`: `\`, "=": "="} {
		for _, n := range []int{1, 2, api.MaxValue - 1, api.MaxValue} {
			s, v := strings.Repeat(told, n), strings.Repeat(c, n)
			read(t, "cn="+s, api.DN{rdn("cn", v)})
			read(t, "cn="+s+"+sn="+s+",ou="+s, api.DN{rdn("cn", v, "sn", v), rdn("ou", v)})
		}
		for _, n := range []int{api.MaxValue + 1, api.MaxValue + 2, 2 * api.MaxValue, 1000} {
			s := strings.Repeat(told, n)
			refuse(t, "cn="+s)
			refuse(t, "ou=x,cn="+s)
			refuse(t, "cn="+s+",ou=x")
			refuse(t, "ou=x+cn="+s)
		}
	}
	for n := range 40 {
		s := strings.Repeat("X", n) + "=v"
		if n >= 1 && n <= 16 {
			read(t, s, api.DN{rdn(strings.Repeat("x", n), "v")})
		} else {
			refuse(t, s)
		}
	}
	for _, c := range []string{"a", ",", "+", "=", `\`, `\,`, "a=v,", "a=v+", " ", "\x00", "cn=", `cn=\`, `\00`} { // and far more
		s := strings.Repeat(c, 1<<20)
		refuse(t, s)
		refuse(t, "cn="+s)
		refuse(t, "cn=a,ou="+s)
	}
}

// TestParseMany: as many AVAs and parts as may be, and one more.
func TestParseMany(t *testing.T) { // P4.3
	for parts := 1; parts <= api.MaxRDNs+2; parts++ {
		for avas := 1; avas <= api.MaxAVAs+2; avas++ {
			r := many(avas)
			var l []string
			for _, a := range r {
				l = append(l, a.Attr+"="+a.Value)
			}
			s := strings.TrimSuffix(strings.Repeat(strings.Join(l, "+")+",", parts), ",")
			if parts <= api.MaxRDNs && avas <= api.MaxAVAs {
				read(t, s, times(r, parts))
			} else if d, err := dn.Parse(s); len(d) > 0 || err != api.ErrName {
				t.Errorf("P4.3: %d parts of %d AVAs: %v, %v", parts, avas, d, err)
			}
		}
	}
}

func TestParseRDN(t *testing.T) { // P4.3, that it takes just one part
	for _, s := range []string{"", "cn=a,ou=b", "cn=a,", ",cn=a", "cn=a+sn=b,ou=c", ",", "cn=a,cn", `cn=\\,ou=b`} {
		if r, err := dn.ParseRDN(s); len(r) > 0 || err != api.ErrName {
			t.Errorf("P4.3: %q: %q, %v", s, r, err)
		}
	}
	for s, want := range map[string]api.RDN{"CN=a": rdn("cn", "a"), `cn=a\,ou=b`: rdn("cn", "a,ou=b"), "cn=a+SN=b": rdn("cn", "a", "sn", "b"), "a=v+b=v+c=v+d=v": many(4)} {
		if r, err := dn.ParseRDN(s); shape(api.DN{r}) != shape(api.DN{want}) || err != api.OK {
			t.Errorf("P4.3: %q: %q, %v", s, r, err)
		}
	}
}

// sign is a byte of a text, or what a backslash and what is behind it are.
type sign struct {
	c    byte
	held bool
}

// signs takes a text apart, by another way than the package's: false, if a backslash is wrong.
func signs(s string) ([]sign, bool) {
	var l []sign
	for s != "" {
		switch {
		case s[0] != '\\':
			l, s = append(l, sign{s[0], false}), s[1:]
		case len(s) > 1 && in(s[1], `,+"\<>;# =`):
			l, s = append(l, sign{s[1], true}), s[2:]
		default:
			var n byte
			if len(s) < 3 || !in(s[1], "0123456789abcdefABCDEF") || !in(s[2], "0123456789abcdefABCDEF") {
				return nil, false
			}
			fmt.Sscanf(s[1:3], "%x", &n)
			l, s = append(l, sign{n, true}), s[3:]
		}
	}
	return l, true
}

// split tells what is between the bytes c of l that nothing holds.
func split(l []sign, c byte) [][]sign {
	parts := [][]sign{nil}
	for _, x := range l {
		if x == (sign{c, false}) {
			parts = append(parts, nil)
		} else {
			parts[len(parts)-1] = append(parts[len(parts)-1], x)
		}
	}
	return parts
}

// model tells the name whose text s is, by the chapter's words one after another.
func model(s string) (api.DN, bool) {
	if s == "" {
		return nil, true
	}
	l, ok := signs(s)
	if !ok {
		return nil, false
	}
	var d api.DN
	for _, part := range split(l, ',') {
		var r api.RDN
		for _, ava := range split(part, '+') {
			a, ok := modelAVA(ava)
			if !ok {
				return nil, false
			}
			r = append(r, a)
		}
		d = append(d, r)
	}
	return d, dn.Is(d)
}

func modelAVA(l []sign) (api.AVA, bool) {
	var a api.AVA
	for len(l) > 0 && l[0].c != '=' {
		if l[0].held {
			return a, false
		}
		a.Attr += strings.ToLower(string(rune(l[0].c)))
		l = l[1:]
	}
	if len(l) < 2 || l[0].held {
		return a, false
	}
	l = l[1:]
	edge, last := l[0], l[len(l)-1]
	if !edge.held && (edge.c == '#' || edge.c == ' ') || last == (sign{' ', false}) {
		return a, false
	}
	for _, x := range l {
		if !x.held && in(x.c, `"<>;`) {
			return a, false
		}
		a.Value += string([]byte{x.c})
	}
	return a, true
}

// asModel holds what Parse and ParseRDN tell of a text against the model.
func asModel(t *testing.T, s string) bool {
	t.Helper()
	want, ok := model(s)
	if ok {
		read(t, s, want)
	} else if d, err := dn.Parse(s); len(d) > 0 || err != api.ErrName {
		t.Errorf("P4.3: %q: %s, %v", s, shape(d), err)
	} else if r, err := dn.ParseRDN(s); len(r) > 0 || err != api.ErrName {
		t.Errorf("P4.3: part %q: %q, %v", s, r, err)
	}
	return ok
}

// TestParseAll: all short texts of telling bytes.
func TestParseAll(t *testing.T) { // P4.3
	for _, c := range []struct {
		alphabet, begin string
		most            int
	}{
		{`a=,+\ #2`, "", 6},
		{`a=,+\ #C"`, "x=", 5},
		{`b \,5`, "x=", 6},
		{`e=\,+`, "x=a\\", 6},
	} {
		names := 0
		for size := range c.most + 1 {
			b := make([]byte, size)
			count := 1
			for range size {
				count *= len(c.alphabet)
			}
			for i := range count {
				for j, n := 0, i; j < size; j, n = j+1, n/len(c.alphabet) {
					b[j] = c.alphabet[n%len(c.alphabet)]
				}
				if asModel(t, c.begin+string(b)) {
					names++
				}
			}
			if t.Failed() {
				return
			}
		}
		if names < 20 {
			t.Errorf("only %d names of %q", names, c.alphabet)
		}
	}
}

// name tells a name by chance.
func name(r *rand.Rand) api.DN {
	types := []string{"a", "cn", "sn", "c-1", "userpassword", "abcdefghijklmnop"}
	var d api.DN
	for range r.Intn(api.MaxRDNs + 1) {
		var p api.RDN
		for _, i := range r.Perm(len(types))[:1+r.Intn(api.MaxAVAs)] {
			v := make([]byte, 1+r.Intn(1+r.Intn(api.MaxValue)))
			for j := range v {
				v[j] = byte(r.Intn(256))
				if few := ` #,+"\<>;=aF0`; r.Intn(2) == 0 {
					v[j] = few[r.Intn(len(few))]
				}
			}
			p = append(p, api.AVA{Attr: types[i], Value: string(v)})
		}
		d = append(d, p)
	}
	return d
}

func TestPrintedIsRead(t *testing.T) { // P4.4
	r := rand.New(rand.NewSource(4))
	for range 5000 {
		d := name(r)
		s := dn.Print(d)
		if (s == "") != (len(d) == 0) {
			t.Fatalf("P4.2: %s: %q", shape(d), s)
		}
		for _, c := range []byte(s) {
			if c < 32 || c > 126 {
				t.Fatalf("P4.2: %q", s)
			}
		}
		read(t, s, d)
		var l []string
		for _, p := range d {
			l = append(l, dn.PrintRDN(p))
			read(t, dn.PrintRDN(p), api.DN{p})
		}
		if strings.Join(l, ",") != s {
			t.Fatalf("P4.2: %q: %q", s, l)
		}
		read(t, dn.Print(d), d)
		if t.Failed() {
			return
		}
	}
	whole := times(rdn("a", strings.Repeat("\xff", 60), "b", strings.Repeat(" ", 60), "c", strings.Repeat("#", 60), "d", strings.Repeat(`\`, 60)), api.MaxRDNs)
	read(t, dn.Print(whole), whole)
}

// TestParseSpoilt: printed names with a few bytes changed, set in, taken out, as the model reads them.
func TestParseSpoilt(t *testing.T) { // P4.3
	r := rand.New(rand.NewSource(5))
	const few = ` #,+"\<>;=aF0cnCN`
	for range 20000 {
		b := []byte(dn.Print(name(r)))
		for range 1 + r.Intn(3) {
			at := r.Intn(len(b) + 1)
			switch c := few[r.Intn(len(few))]; {
			case r.Intn(3) == 0:
				b = append(b[:at], append([]byte{c}, b[at:]...)...)
			case at < len(b) && r.Intn(2) == 0:
				b = append(b[:at], b[at+1:]...)
			case at < len(b):
				b[at] = c
			}
		}
		asModel(t, string(b))
		if t.Failed() {
			return
		}
	}
}

func TestNewMemory(t *testing.T) { // what holds everywhere
	s := "cn=" + strings.Repeat("v", 50) + "+sn=b,ou=x,ou=x"
	inside := func(p string) bool {
		at := uintptr(unsafe.Pointer(unsafe.StringData(p)))
		begin := uintptr(unsafe.Pointer(unsafe.StringData(s)))
		return at >= begin && at < begin+uintptr(len(s))
	}
	first, _ := dn.Parse(s)
	second, _ := dn.Parse(s)
	want := shape(first)
	for _, r := range first {
		for _, a := range r {
			if inside(a.Attr) || inside(a.Value) {
				t.Errorf("%q keeps what was handed in", a)
			}
		}
	}
	if one, _ := dn.ParseRDN(s[:strings.IndexByte(s, ',')]); inside(one[0].Attr) || inside(one[0].Value) || inside(one[1].Value) {
		t.Error("ParseRDN keeps what was handed in")
	}
	if inside(dn.Lower(s)) || inside(dn.Lower(s[:2])) {
		t.Error("Lower keeps what was handed in")
	}
	for i, r := range second { // into the spare room, too
		r = r[:cap(r)]
		for j := range r {
			r[j] = api.AVA{Attr: string(rune('a' + i)), Value: "w"}
		}
	}
	for i, r := range second {
		for _, a := range r[:cap(r)] {
			if a.Attr != string(rune('a'+i)) {
				t.Errorf("two lists share memory: %q", second)
			}
		}
	}
	clear(second[:cap(second)])
	if shape(first) != want {
		t.Errorf("two answers share memory: %s", shape(first))
	}
}

// TestNotChanged: what is handed in stays as it was, spare room and all.
func TestNotChanged(t *testing.T) { // what holds everywhere
	r := append(make(api.RDN, 0, 6), rdn("cn", " a,", "sn", "B")...)
	d := append(make(api.DN, 0, 4), r, rdn("ou", "x"))
	d[:4][2] = rdn("o", "spare")
	r[:6][3] = api.AVA{Attr: "o", Value: "spare"}
	before := fmt.Sprintf("%q %q", d[:4], r[:6])
	for range 2 {
		if !dn.Is(d) || !dn.IsRDN(r) || dn.Print(d) != `cn=\ a\,+sn=B,ou=x` || dn.PrintRDN(r) != `cn=\ a\,+sn=B` {
			t.Error("another answer")
		}
	}
	if now := fmt.Sprintf("%q %q", d[:4], r[:6]); now != before {
		t.Errorf("was %s, is %s", before, now)
	}
}
