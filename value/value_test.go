package value_test

import (
	"encoding/asn1"
	"fmt"
	"math"
	"math/rand"
	"strings"
	"testing"
	"unsafe"

	"prefect/api"
	"prefect/ber"
	"prefect/value"
)

// told are numbers with their bytes: around what each count of bytes can tell.
var told = []struct {
	n int64
	s string
}{
	{0, "\x00"},
	{-1, "\xff"},
	{1, "\x01"},
	{5, "\x05"},
	{-2, "\xfe"},
	{126, "\x7e"},
	{127, "\x7f"},
	{128, "\x00\x80"},
	{129, "\x00\x81"},
	{-127, "\x81"},
	{-128, "\x80"},
	{-129, "\xff\x7f"},
	{-130, "\xff\x7e"},
	{255, "\x00\xff"},
	{256, "\x01\x00"},
	{-255, "\xff\x01"},
	{-256, "\xff\x00"},
	{-257, "\xfe\xff"},
	{32767, "\x7f\xff"},
	{32768, "\x00\x80\x00"},
	{-32768, "\x80\x00"},
	{-32769, "\xff\x7f\xff"},
	{65535, "\x00\xff\xff"},
	{65536, "\x01\x00\x00"},
	{1<<23 - 1, "\x7f\xff\xff"},
	{1 << 23, "\x00\x80\x00\x00"},
	{-1 << 23, "\x80\x00\x00"},
	{-1<<23 - 1, "\xff\x7f\xff\xff"},
	{0x010203, "\x01\x02\x03"},
	{0x01020304, "\x01\x02\x03\x04"},
	{1<<31 - 1, "\x7f\xff\xff\xff"},
	{1 << 31, "\x00\x80\x00\x00\x00"},
	{-1 << 31, "\x80\x00\x00\x00"},
	{-1<<31 - 1, "\xff\x7f\xff\xff\xff"},
	{0x0102030405, "\x01\x02\x03\x04\x05"},
	{1<<39 - 1, "\x7f\xff\xff\xff\xff"},
	{1 << 39, "\x00\x80\x00\x00\x00\x00"},
	{-1 << 39, "\x80\x00\x00\x00\x00"},
	{-1<<39 - 1, "\xff\x7f\xff\xff\xff\xff"},
	{1 << 40, "\x01\x00\x00\x00\x00\x00"},
	{0x010203040506, "\x01\x02\x03\x04\x05\x06"},
	{1<<47 - 1, "\x7f\xff\xff\xff\xff\xff"},
	{1 << 47, "\x00\x80\x00\x00\x00\x00\x00"},
	{-1 << 47, "\x80\x00\x00\x00\x00\x00"},
	{-1<<47 - 1, "\xff\x7f\xff\xff\xff\xff\xff"},
	{0x01020304050607, "\x01\x02\x03\x04\x05\x06\x07"},
	{1<<55 - 1, "\x7f\xff\xff\xff\xff\xff\xff"},
	{1 << 55, "\x00\x80\x00\x00\x00\x00\x00\x00"},
	{-1 << 55, "\x80\x00\x00\x00\x00\x00\x00"},
	{-1<<55 - 1, "\xff\x7f\xff\xff\xff\xff\xff\xff"},
	{0x0102030405060708, "\x01\x02\x03\x04\x05\x06\x07\x08"},
	{-0x0102030405060708, "\xfe\xfd\xfc\xfb\xfa\xf9\xf8\xf8"},
	{math.MaxInt64 - 1, "\x7f\xff\xff\xff\xff\xff\xff\xfe"},
	{math.MaxInt64, "\x7f\xff\xff\xff\xff\xff\xff\xff"},
	{math.MinInt64 + 1, "\x80\x00\x00\x00\x00\x00\x00\x01"},
	{math.MinInt64, "\x80\x00\x00\x00\x00\x00\x00\x00"},
}

func TestInt(t *testing.T) { // P2.1
	for _, c := range told {
		if s := value.Int(c.n); s != c.s {
			t.Errorf("P2.1: %d: %x; want %x", c.n, s, c.s)
		}
	}
}

func TestReadInt(t *testing.T) { // P2.1
	for _, c := range told {
		if n, ok := value.ReadInt(c.s); n != c.n || !ok {
			t.Errorf("P2.1: %x: %d, %v; want %d", c.s, n, ok, c.n)
		}
	}
}

func TestReadIntNone(t *testing.T) { // P2.1
	l := []string{
		"",
		"\x00\x00",
		"\x00\x01",
		"\x00\x7f", // one byte tells it
		"\xff\x80", // and it
		"\xff\xff",
		"\x00\x00\x80",
		"\x00\x7f\xff",
		"\xff\x80\x00",
		"\xff\xff\x7f",
		"\x00\x7f\xff\xff\xff\xff\xff\xff",
		"\xff\x80\x00\x00\x00\x00\x00\x00",
		"\x00\x00\x00\x00\x00\x00\x00\x00",
		"\xff\xff\xff\xff\xff\xff\xff\xff",
		"\x00\x80\x00\x00\x00\x00\x00\x00\x00", // no number is so great
		"\xff\x7f\xff\xff\xff\xff\xff\xff\xff", // nor so small
		"\x01\x00\x00\x00\x00\x00\x00\x00\x00",
		"\x01\x02\x03\x04\x05\x06\x07\x08\x09",
		"\x80\x00\x00\x00\x00\x00\x00\x00\x00",
	}
	for _, b := range []string{"\x00", "\x01", "\x7f", "\x80", "\xff"} {
		for _, size := range []int{9, 10, 16, 64, 256, 257, 264, 4001, 65537} {
			l = append(l, strings.Repeat(b, size))
		}
	}
	for _, c := range told { // filled up to nine bytes behind; one and two bytes too many ahead
		l = append(l, c.s+strings.Repeat("\x00", 9-len(c.s)))
		if c.n < 0 {
			l = append(l, "\xff"+c.s, "\xff\xff"+c.s)
		} else {
			l = append(l, "\x00"+c.s, "\x00\x00"+c.s)
		}
	}
	for _, s := range l {
		if n, ok := value.ReadInt(s); n != 0 || ok {
			t.Errorf("P2.1: %.20x, %d bytes: %d, %v; want none", s, len(s), n, ok)
		}
	}
}

// TestReadIntShort: all texts of one and of two bytes.
func TestReadIntShort(t *testing.T) { // P2.1
	for i := range 1 << 8 {
		if n, ok := value.ReadInt(string([]byte{byte(i)})); n != int64(int8(i)) || !ok {
			t.Errorf("P2.1: byte %d: %d, %v", i, n, ok)
		}
	}
	for i := range 1 << 16 {
		want := int64(int16(i))
		is := want < -128 || want > 127
		if !is {
			want = 0
		}
		if n, ok := value.ReadInt(string([]byte{byte(i >> 8), byte(i)})); n != want || ok != is {
			t.Errorf("P2.1: %04x: %d, %v; want %d, %v", i, n, ok, want, is)
		}
	}
}

// body tells the bytes of n by another way.
func body(n int64) string {
	b, err := asn1.Marshal(n)
	if err != nil {
		panic(err)
	}
	return string(b[2:]) // tag and length
}

// numbers tells many: a run around 0, around each bit, and some of each length.
func numbers() []int64 {
	var l []int64
	for n := int64(-70000); n <= 70000; n++ {
		l = append(l, n)
	}
	for bit := range 64 {
		for n := int64(-3); n <= 3; n++ {
			l = append(l, 1<<bit+n, -1<<bit+n)
		}
	}
	r := rand.New(rand.NewSource(2))
	for i := range 20000 {
		l = append(l, int64(r.Uint64())>>(i%64))
	}
	return l
}

func TestNumbers(t *testing.T) { // P2.1, P2.3
	for _, n := range numbers() {
		s := value.Int(n)
		if s != body(n) {
			t.Fatalf("P2.1: %d: %x; want %x", n, s, body(n))
		}
		if back, ok := value.ReadInt(s); back != n || !ok {
			t.Fatalf("P2.3: %d: %d, %v", n, back, ok)
		}
	}
}

// TestReadIntAny: whatever is read is what Int tells, and else nothing.
func TestReadIntAny(t *testing.T) { // P2.1
	r := rand.New(rand.NewSource(3))
	telling := "\x00\x00\x01\x7f\x80\xff\xff"
	none := 0
	for range 200000 {
		b := make([]byte, r.Intn(11))
		for i := range b {
			b[i] = telling[r.Intn(len(telling))]
		}
		s := string(b)
		want, err := asn1Int(s)
		if err != nil {
			none++
		}
		if n, ok := value.ReadInt(s); n != want || ok != (err == nil) || ok && value.Int(n) != s {
			t.Fatalf("P2.1: %x: %d, %v; want %d, %v", s, n, ok, want, err)
		}
	}
	if none < 1000 {
		t.Errorf("P2.1: only %d were none", none)
	}
}

// asn1Int reads a number by another way.
func asn1Int(s string) (int64, error) {
	var n int64
	if _, err := asn1.Unmarshal([]byte("\x02"+string([]byte{byte(len(s))})+s), &n); err != nil {
		return 0, err
	}
	return n, nil
}

func TestBool(t *testing.T) { // P2.1, P2.3
	if s := value.Bool(true); s != "\xff" {
		t.Errorf("P2.1: true: %x", s)
	}
	if s := value.Bool(false); s != "\x00" {
		t.Errorf("P2.1: false: %x", s)
	}
	for _, b := range []bool{false, true} {
		if back, ok := value.ReadBool(value.Bool(b)); back != b || !ok {
			t.Errorf("P2.3: %v: %v, %v", b, back, ok)
		}
	}
}

func TestReadBool(t *testing.T) { // P2.1
	for i := range 256 {
		if b, ok := value.ReadBool(string([]byte{byte(i)})); b != (i != 0) || !ok {
			t.Errorf("P2.1: byte %d: %v, %v", i, b, ok)
		}
	}
	for _, s := range []string{"", "\x00\x00", "\x00\xff", "\xff\x00", "\xff\xff", "\x01\x00", "\x00\x01", "true", strings.Repeat("\xff", 8), strings.Repeat("\x00", 257), strings.Repeat("\x01", 65537)} {
		if b, ok := value.ReadBool(s); b || ok {
			t.Errorf("P2.1: %.20x, %d bytes: %v, %v", s, len(s), b, ok)
		}
	}
}

// shape tells all of an element.
func shape(e api.Element) string {
	s := fmt.Sprintf("(%d %q", e.Tag, e.Body)
	for _, k := range e.Kids {
		s += shape(k)
	}
	return s + ")"
}

func TestText(t *testing.T) { // P2.2
	for tag := range 256 {
		for _, s := range []string{"", "ab", "\x00", "\xff\xfe\x80", "\x1f\x30\x02", "naïve", strings.Repeat("a", api.MaxSize), strings.Repeat("a", api.MaxSize+1)} {
			if e := value.Text(byte(tag), s); e.Tag != byte(tag) || e.Body != s || len(e.Kids) != 0 {
				t.Errorf("P2.2: tag %d, %.20q: %.40s", tag, s, shape(e))
			}
		}
	}
	s := strings.Repeat("body", 10)
	if e := value.Text(4, s); unsafe.StringData(e.Body) == unsafe.StringData(s) {
		t.Error("P2.2: a body keeps what was handed in")
	}
}

func TestNumber(t *testing.T) { // P2.2
	for tag := range 256 {
		for _, c := range told {
			if e := value.Number(byte(tag), c.n); e.Tag != byte(tag) || e.Body != c.s || len(e.Kids) != 0 {
				t.Errorf("P2.2: tag %d, %d: %s", tag, c.n, shape(e))
			}
		}
	}
}

func TestList(t *testing.T) { // P2.2
	a, b := api.Element{Tag: 4, Body: "a"}, api.Element{Tag: 2, Body: "\x05"}
	for tag := range 256 {
		for _, l := range [][]api.Element{
			nil,
			{},
			{a},
			{{}},
			{a, b},
			{b, a},
			{a, a, a},
			{{Tag: 48}, {Tag: 48, Kids: []api.Element{}}},
			{a, {Tag: 48, Kids: []api.Element{b, {Tag: 49, Kids: []api.Element{a, b}}}}, b},
			{{Tag: 31, Body: "x"}, {Tag: 48, Body: "x", Kids: []api.Element{a}}, {Tag: 4, Kids: []api.Element{b}}}, // also what ber wouldn't write
			make([]api.Element, 100),
		} {
			if e := value.List(byte(tag), l); e.Body != "" || len(e.Kids) != len(l) || shape(e) != shape(api.Element{Tag: byte(tag), Kids: l}) {
				t.Errorf("P2.2: tag %d: %.60s", tag, shape(e))
			}
		}
	}
}

// spoil overwrites all lists beneath e, the room behind them included.
func spoil(e api.Element, tag byte) {
	l := e.Kids[:cap(e.Kids)]
	for i := range l {
		spoil(l[i], tag)
		l[i] = api.Element{Tag: tag, Body: "spoilt"}
	}
}

func TestListNewMemory(t *testing.T) { // P2.2, and what holds everywhere
	bodies := strings.Repeat("body", 10)
	inner := append(make([]api.Element, 0, 4), api.Element{Tag: 4, Body: bodies}, api.Element{Tag: 5})
	inner[:4][3] = api.Element{Tag: 77}
	twice := api.Element{Tag: 48, Kids: inner}
	l := append(make([]api.Element, 0, 8), twice, twice, api.Element{Tag: 49, Kids: []api.Element{twice}})
	l[:8][7] = api.Element{Tag: 78}
	before := shape(api.Element{Tag: 50, Kids: l[:8]})

	first, second := value.List(50, l), value.List(50, l)
	want := shape(first)
	if body := first.Kids[2].Kids[0].Kids[0].Body; unsafe.StringData(body) == unsafe.StringData(bodies) {
		t.Error("P2.2: a body keeps what was handed in")
	}
	spoil(second.Kids[0], 100) // one list of an answer isn't another one
	if shape(second.Kids[1]) != shape(twice) || shape(second.Kids[2].Kids[0]) != shape(twice) {
		t.Errorf("P2.2: lists of one answer share memory: %s", shape(second))
	}
	spoil(second, 101)
	if shape(first) != want || inner[:4][3].Tag != 77 || shape(api.Element{Tag: 50, Kids: l[:8]}) != before {
		t.Errorf("P2.2: an answer shares memory with another one, or with what was handed in: %s", shape(first))
	}
	spoil(api.Element{Kids: l}, 102)
	if shape(first) != want {
		t.Errorf("P2.2: what was handed in is kept: %s", shape(first))
	}
}

// TestListFar: as deep as the document speaks of, no call panics.
func TestListFar(t *testing.T) { // P2.2
	const far = 1<<16 - 1
	e := value.Text(4, "a")
	for range far - 1 {
		e = api.Element{Tag: 48, Kids: []api.Element{e}}
	}
	e = value.List(48, []api.Element{e})
	depth := 0
	for e.Tag == 48 && len(e.Kids) == 1 {
		e = e.Kids[0]
		depth++
	}
	if depth != far || e.Tag != 4 || e.Body != "a" {
		t.Errorf("P2.2: depth %d: %s", depth, shape(e))
	}
}

func TestWrittenIsRead(t *testing.T) { // P2.3
	r := rand.New(rand.NewSource(4))
	l := numbers()
	for range 2000 {
		n, b := l[r.Intn(len(l))], r.Intn(2) == 0
		s := make([]byte, r.Intn(300))
		r.Read(s)
		e := value.List(48, []api.Element{
			value.Number(2, n),
			value.Text(1, value.Bool(b)),
			value.List(49, []api.Element{value.Text(4, string(s)), value.List(48, nil)}),
		})
		w, err := ber.Write(e)
		back, size, at, fault := ber.Read(w)
		if err != api.OK || fault != api.OK || at != 0 || size != len(w) || shape(back) != shape(e) {
			t.Fatalf("P2.3: %s: %v, %v, %s", shape(e), err, fault, shape(back))
		}
		if m, ok := value.ReadInt(back.Kids[0].Body); m != n || !ok {
			t.Fatalf("P2.3: %d: %d, %v", n, m, ok)
		}
		if c, ok := value.ReadBool(back.Kids[1].Body); c != b || !ok {
			t.Fatalf("P2.3: %v: %v, %v", b, c, ok)
		}
		if back.Kids[2].Kids[0].Body != string(s) || len(back.Kids[2].Kids[1].Kids) != 0 {
			t.Fatalf("P2.3: %x: %s", s, shape(back))
		}
	}
}
