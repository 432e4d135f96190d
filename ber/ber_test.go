package ber_test

import (
	"fmt"
	"math/rand"
	"strings"
	"testing"
	"unsafe"

	"prefect/api"
	"prefect/ber"
)

// prim and list make elements, nest one in n others.
func prim(size int) api.Element { return api.Element{Tag: 4, Body: strings.Repeat("p", size)} }

func list(kids ...api.Element) api.Element { return api.Element{Tag: 48, Kids: kids} }

func nest(e api.Element, n int) api.Element {
	for range n {
		e = list(e)
	}
	return e
}

// wrap lays the bytes of one element into n others, all of them shorter than 128.
func wrap(s string, n int) string {
	for range n {
		s = string([]byte{48, byte(len(s))}) + s
	}
	return s
}

func none(e api.Element) bool { return e.Tag == 0 && e.Body == "" && len(e.Kids) == 0 }

func TestHead(t *testing.T) { // P1.1
	for _, c := range []struct {
		s          string
		head, size int
		err        api.Errno
	}{
		{"", 0, 0, api.ErrShort},
		{"\x04", 0, 0, api.ErrShort},
		{"\x1f", 0, 0, api.ErrForm}, // ahead of the length that lacks
		{"\x1f\x80", 0, 0, api.ErrForm},
		{"\xff\x84\xff\xff\xff\xff", 0, 0, api.ErrForm},
		{"\x04\x00", 2, 0, 0},
		{"\x04\x02ab", 2, 2, 0},
		{"\x04\x02abcd", 2, 2, 0},
		{"\x04\x7f", 2, 127, 0}, // the body needn't be there
		{"\x30\x80", 0, 0, api.ErrLength},
		{"\x30\x80\x04\x00\x00\x00", 0, 0, api.ErrLength},
		{"\x04\x85", 0, 0, api.ErrLength}, // ahead of the bytes that lack
		{"\x04\x85\x00\x00\x00\x00\x01", 0, 0, api.ErrLength},
		{"\x04\x81\x05", 3, 5, 0}, // not in the fewest bytes
		{"\x04\x81\xff", 3, 255, 0},
		{"\x04\x82\x00\x05", 4, 5, 0},
		{"\x04\x82\x01\x02", 4, 258, 0},
		{"\x04\x83\x00\x01\x02", 5, 258, 0},
		{"\x04\x84\x00\x00\x01\x02", 6, 258, 0},
		{"\x04\x84\x00\x00\x01\x02\x03", 6, 258, 0},
		{"\x04\x82\x0f\xa0", 4, 4000, 0},
		{"\x04\x82\x0f\xa1", 0, 0, api.ErrLarge},
		{"\x04\x83\x00\x0f\xa0", 5, 4000, 0},
		{"\x04\x83\x00\x0f\xa1", 0, 0, api.ErrLarge},
		{"\x04\x84\x00\x00\x0f\xa0", 6, 4000, 0},
		{"\x04\x84\x00\x00\x0f\xa1", 0, 0, api.ErrLarge},
		{"\x04\x83\x01\x00\x00", 0, 0, api.ErrLarge},
		{"\x04\x84\x01\x00\x00\x00", 0, 0, api.ErrLarge},
		{"\x04\x84\x80\x00\x00\x00", 0, 0, api.ErrLarge},
		{"\x04\x84\xff\xff\xff\xff", 0, 0, api.ErrLarge},
		{"\x04\x84\xff\xff\xff", 0, 0, api.ErrShort}, // ahead of what it might become
	} {
		head, size, err := ber.Head(c.s)
		if head != c.head || size != c.size || err != c.err {
			t.Errorf("P1.1: %x: %d, %d, %v; want %d, %d, %v", c.s, head, size, err, c.head, c.size, c.err)
		}
	}
}

func TestHeadTags(t *testing.T) { // P1.1
	for tag := range 256 {
		wants := [2]api.Errno{api.ErrShort, api.OK}
		if tag%32 == 31 {
			wants = [2]api.Errno{api.ErrForm, api.ErrForm}
		}
		for i, s := range []string{string([]byte{byte(tag)}), string([]byte{byte(tag), 0})} {
			if _, _, err := ber.Head(s); err != wants[i] {
				t.Errorf("P1.1: %x: %v; want %v", s, err, wants[i])
			}
		}
	}
}

func TestHeadLengths(t *testing.T) { // P1.1
	for b := range 256 {
		s := string([]byte{4, byte(b)})
		want, head, size := api.OK, 2, b
		if b > 128 && b <= 132 {
			for lack := 1; lack <= b-128; lack++ {
				cut := s + strings.Repeat("\x00", b-128-lack)
				if head, size, err := ber.Head(cut); head != 0 || size != 0 || err != api.ErrShort {
					t.Errorf("P1.1: %x: %d, %d, %v", cut, head, size, err)
				}
			}
			head, size = 2+b-128, 0
		} else if b >= 128 {
			want, head, size = api.ErrLength, 0, 0
		}
		s += strings.Repeat("\x00", 300)
		if h, n, err := ber.Head(s); h != head || n != size || err != want {
			t.Errorf("P1.1: %x: %d, %d, %v; want %d, %d, %v", s[:2], h, n, err, head, size, want)
		}
	}
}

func TestReadElements(t *testing.T) { // P1.2
	for _, c := range []struct {
		s    string
		want api.Element
		n    int
	}{
		{"\x04\x02ab", api.Element{Tag: 4, Body: "ab"}, 4},
		{"\x04\x02abc\x1f", api.Element{Tag: 4, Body: "ab"}, 4},
		{"\x04\x00", api.Element{Tag: 4}, 2},
		{"\x00\x00", api.Element{}, 2},
		{"\x04\x03\x1f\x80\xff", api.Element{Tag: 4, Body: "\x1f\x80\xff"}, 5}, // no elements are looked for there
		{"\x30\x00", list(), 2},
		{"\x30\x00\x1f", list(), 2},
		{"\x30\x03\x04\x01a", list(api.Element{Tag: 4, Body: "a"}), 5},
		{"\xb0\x81\x04\x04\x00\x30\x00z", api.Element{Tag: 0xb0, Kids: []api.Element{{Tag: 4}, {Tag: 48}}}, 7},
		{"\x30\x08\x04\x01a\x31\x03\x02\x01\x05", list(api.Element{Tag: 4, Body: "a"}, api.Element{Tag: 49, Kids: []api.Element{{Tag: 2, Body: "\x05"}}}), 10},
		{"\x04\x82\x0f\xa0" + strings.Repeat("p", 4000) + "p", prim(4000), 4004},
		{"\x30\x82\x0f\xa0\x04\x82\x0f\x9c" + strings.Repeat("p", 3996) + "\x04", list(prim(3996)), 4004},
	} {
		e, n, at, err := ber.Read(c.s)
		if n != c.n || at != 0 || err != api.OK || !alike(e, c.want) {
			t.Errorf("P1.2: %.20x: %d, %d, %v, %.40q", c.s, n, at, err, fmt.Sprint(e))
		}
	}
}

// alike is Same by another way, so that no test of Read hangs on Same.
func alike(a, b api.Element) bool { return shape(a) == shape(b) }

func shape(e api.Element) string {
	s := fmt.Sprintf("(%d %q", e.Tag, e.Body)
	for _, k := range e.Kids {
		s += shape(k)
	}
	return s + ")"
}

func TestReadFaults(t *testing.T) { // P1.2
	for _, c := range []struct {
		s   string
		at  int
		err api.Errno
	}{
		{"", 0, api.ErrShort},
		{"\x04", 0, api.ErrShort},
		{"\x1f\x00", 0, api.ErrForm},
		{"\x3f\x02\x1f\x00", 0, api.ErrForm},
		{"\x30\x80\x00\x00", 0, api.ErrLength},
		{"\x04\x82\x01", 0, api.ErrShort},
		{"\x04\x01", 0, api.ErrShort},
		{"\x04\x02a", 0, api.ErrShort},
		{"\x04\x82\x0f\xa0" + strings.Repeat("p", 3999), 0, api.ErrShort},
		{"\x04\x82\x0f\xa1" + strings.Repeat("p", 4001), 0, api.ErrLarge},
		{"\x30\x84\xff\xff\xff\xff", 0, api.ErrLarge},
		{"\x30\x05\x1f\x00", 0, api.ErrShort},                  // the outer one ahead of what is in it
		{"\x30\x01\x04\x00", 2, api.ErrLength},                 // the length is behind the outer one
		{"\x30\x03\x04\x82\x01\x00", 2, api.ErrLength},         // a byte of the length is
		{"\x30\x03\x04\x02ab", 2, api.ErrLength},               // a byte of the body is
		{"\x30\x02\x04\x01", 2, api.ErrLength},                 // and nothing is there
		{"\x30\x02\x04\x80", 2, api.ErrLength},                 // a length that may not be
		{"\x30\x02\x1f\x00", 2, api.ErrForm},                   // a tag that may not be
		{"\x30\x04\x04\x82\x0f\xa1", 2, api.ErrLarge},          // ahead of the body that lacks
		{"\x30\x04\x04\x82\x0f\xa0", 2, api.ErrLength},         // the body lacks
		{"\x30\x04\x04\x00\x04\x01", 4, api.ErrLength},         // the second one
		{"\x30\x04\x04\x05\x1f\x00", 2, api.ErrLength},         // the first of two
		{"\x30\x81\x05\x04\x01a\x1f\x00", 6, api.ErrForm},      // behind a longer head
		{"\x30\x06\x30\x02\x04\x01\x1f\x00", 4, api.ErrLength}, // from the front on, also inwards
		{"\x30\x06\x30\x02\x04\x00\x1f\x00", 6, api.ErrForm},
		{"\x30\x04\x30\x03\x1f\x00", 2, api.ErrLength}, // that it doesn't fit ahead of what is in it
	} {
		e, n, at, err := ber.Read(c.s)
		if !none(e) || n != 0 || at != c.at || err != c.err {
			t.Errorf("P1.2: %.20x: %v, %d, %d, %v; want %d, %v", c.s, e, n, at, err, c.at, c.err)
		}
	}
}

func TestReadDeep(t *testing.T) { // P1.2
	for _, inner := range []string{"\x04\x01a", "\x30\x00"} {
		s := wrap(inner, api.MaxDepth-1)
		if e, n, at, err := ber.Read(s + "x"); err != api.OK || n != len(s) || at != 0 || !alike(e, nest(kid(inner), api.MaxDepth-1)) {
			t.Errorf("P1.2: depth 20: %d, %d, %v", n, at, err)
		}
	}
	for _, inner := range []string{"\x04\x01a", "\x30\x00", "\x1f\x00", "\x04\x80", "\x04", "\x04\x05"} { // ErrDeep ahead of all
		s := wrap(inner, api.MaxDepth)
		if e, n, at, err := ber.Read(s); !none(e) || n != 0 || at != 2*api.MaxDepth || err != api.ErrDeep {
			t.Errorf("P1.2: depth 21, %x: %d, %d, %v", inner, n, at, err)
		}
	}
	s := wrap("\x04\x00"+wrap("\x04\x00", 1), api.MaxDepth-1) // depth 21 in the second one of depth 20
	if _, _, at, err := ber.Read(s); err != api.ErrDeep || at != 2*api.MaxDepth+2 {
		t.Errorf("P1.2: %d, %v", at, err)
	}
	s = wrap("\x1f\x00"+wrap("\x04\x00", 1), api.MaxDepth-1) // what is wrong ahead of it comes first
	if _, _, at, err := ber.Read(s); err != api.ErrForm || at != 2*(api.MaxDepth-1) {
		t.Errorf("P1.2: %d, %v", at, err)
	}
}

// kid is the element that TestReadDeep has innermost.
func kid(s string) api.Element {
	if s == "\x30\x00" {
		return list()
	}
	return api.Element{Tag: 4, Body: "a"}
}

func TestReadNewMemory(t *testing.T) { // P1.2, and what holds everywhere
	s := "\x30\x0c\x30\x04\x04\x00\x04\x00\x30\x04\x04\x00\x04\x00"
	first, _, _, _ := ber.Read(s)
	want := shape(first)
	second, _, _, _ := ber.Read(s)
	for i := range second.Kids {
		l := second.Kids[i].Kids
		_ = append(l[:cap(l)], api.Element{Tag: 9})
		l = l[:cap(l)]
		for j := range l {
			l[j] = api.Element{Tag: byte(100 + i)}
		}
	}
	if second.Kids[0].Kids[0].Tag != 100 || second.Kids[1].Kids[1].Tag != 101 || shape(first) != want {
		t.Errorf("P1.2: lists share memory: %v, %v", first, second)
	}
	s = "\x04\x04body" + strings.Repeat("tail", 10)
	e, _, _, _ := ber.Read(s)
	if unsafe.StringData(e.Body) == unsafe.StringData(s[2:]) {
		t.Error("P1.2: a body keeps what was handed in")
	}
}

func TestWrite(t *testing.T) { // P1.3
	for _, c := range []struct {
		e    api.Element
		want string
	}{
		{api.Element{Tag: 4, Body: "ab"}, "\x04\x02ab"},
		{api.Element{}, "\x00\x00"},
		{list(), "\x30\x00"},
		{api.Element{Tag: 48, Kids: []api.Element{}}, "\x30\x00"},
		{list(api.Element{Tag: 2, Body: "\x01"}, api.Element{Tag: 66}), "\x30\x05\x02\x01\x01\x42\x00"},
		{prim(127), "\x04\x7f" + strings.Repeat("p", 127)},
		{prim(128), "\x04\x81\x80" + strings.Repeat("p", 128)},
		{prim(255), "\x04\x81\xff" + strings.Repeat("p", 255)},
		{prim(256), "\x04\x82\x01\x00" + strings.Repeat("p", 256)},
		{prim(4000), "\x04\x82\x0f\xa0" + strings.Repeat("p", 4000)},
		{list(prim(125)), "\x30\x7f\x04\x7d" + strings.Repeat("p", 125)},
		{list(prim(126)), "\x30\x81\x80\x04\x7e" + strings.Repeat("p", 126)},
		{list(prim(252)), "\x30\x81\xff\x04\x81\xfc" + strings.Repeat("p", 252)},
		{list(prim(253)), "\x30\x82\x01\x00\x04\x81\xfd" + strings.Repeat("p", 253)},
		{list(prim(3996)), "\x30\x82\x0f\xa0\x04\x82\x0f\x9c" + strings.Repeat("p", 3996)},
	} {
		if s, err := ber.Write(c.e); s != c.want || err != api.OK || !ber.Is(c.e) {
			t.Errorf("P1.3: %.30x, %v; want %.30x", s, err, c.want)
		}
	}
}

func TestWriteFaults(t *testing.T) { // P1.3
	bad := api.Element{Tag: 31}
	half := list(prim(1000), prim(996)) // 2008 bytes with its head
	for i, c := range []struct {
		e    api.Element
		want api.Errno
	}{
		{bad, api.ErrForm},
		{api.Element{Tag: 63}, api.ErrForm},
		{api.Element{Tag: 255}, api.ErrForm},
		{api.Element{Tag: 48, Body: "a"}, api.ErrForm},
		{api.Element{Tag: 4, Kids: []api.Element{prim(1)}}, api.ErrForm},
		{api.Element{Tag: 4, Body: "a", Kids: []api.Element{prim(1)}}, api.ErrForm},
		{api.Element{Tag: 48, Body: "a", Kids: []api.Element{prim(1)}}, api.ErrForm},
		{list(prim(1), bad), api.ErrForm},
		{list(list(prim(1)), list(api.Element{Tag: 48, Body: "a"})), api.ErrForm},
		{list(api.Element{Tag: 4, Kids: []api.Element{{}}}), api.ErrForm},
		{nest(prim(1), api.MaxDepth-1), api.OK},
		{nest(list(), api.MaxDepth-1), api.OK},
		{nest(prim(1), api.MaxDepth), api.ErrDeep},
		{nest(list(), api.MaxDepth), api.ErrDeep},
		{list(prim(1), nest(prim(1), api.MaxDepth-1)), api.ErrDeep},
		{prim(4000), api.OK},
		{prim(4001), api.ErrLarge},
		{list(prim(3996)), api.OK},
		{list(prim(3997)), api.ErrLarge},
		{list(list(prim(3992))), api.OK},
		{list(list(prim(3993))), api.ErrLarge},
		{list(prim(125), prim(3869)), api.OK}, // 127 and 3873: just 4000
		{list(prim(126), prim(3869)), api.ErrLarge},
		{list(prim(127), prim(3867)), api.OK},
		{list(prim(128), prim(3866)), api.ErrLarge}, // by the byte that its length has more
		{list(half, half), api.ErrLarge},
		{list(half, prim(1988)), api.OK},
		{list(half, prim(1989)), api.ErrLarge},
		{list(prim(4001), prim(4001)), api.ErrLarge},
		{nest(bad, api.MaxDepth), api.ErrForm}, // the order
		{nest(bad, 5*api.MaxDepth), api.ErrForm},
		{list(nest(prim(5000), api.MaxDepth), bad), api.ErrForm},
		{list(prim(5000), bad), api.ErrForm},
		{nest(prim(5000), api.MaxDepth), api.ErrDeep},
		{list(prim(5000), nest(prim(1), api.MaxDepth)), api.ErrDeep},
	} {
		s, err := ber.Write(c.e)
		if err != c.want || err != api.OK && s != "" || ber.Is(c.e) != (c.want == api.OK) {
			t.Errorf("P1.3: row %d: %.20x, %v; want %v", i, s, err, c.want)
		}
	}
}

func TestWriteTags(t *testing.T) { // P1.3
	for tag := range 256 {
		e, want := api.Element{Tag: byte(tag)}, api.OK
		if tag%32 == 31 {
			want = api.ErrForm
		}
		if _, err := ber.Write(e); err != want || ber.Is(e) != (want == api.OK) {
			t.Errorf("P1.3: tag %d: %v; want %v", tag, err, want)
		}
		body, kids := api.Element{Tag: byte(tag), Body: "a"}, api.Element{Tag: byte(tag), Kids: []api.Element{{Tag: 4}}}
		if ber.Is(body) != (want == api.OK && tag&32 == 0) || ber.Is(kids) != (want == api.OK && tag&32 != 0) {
			t.Errorf("P1.3: tag %d: a body, or kids", tag)
		}
	}
}

// TestWriteFar: as deep as the document speaks of, no call panics.
func TestWriteFar(t *testing.T) { // P1.3
	far := nest(prim(1), 1<<16-1)
	if _, err := ber.Write(far); err != api.ErrDeep || ber.Is(far) {
		t.Errorf("P1.3: %v", err)
	}
	if _, err := ber.Write(nest(api.Element{Tag: 31}, 1<<16-1)); err != api.ErrForm {
		t.Errorf("P1.3: %v", err)
	}
	if !ber.Same(far, nest(prim(1), 1<<16-1)) || ber.Same(far, nest(prim(2), 1<<16-1)) {
		t.Error("P1.3: same")
	}
	if _, err := ber.Write(list(make([]api.Element, 2001)...)); err != api.ErrLarge {
		t.Errorf("P1.3: %v", err)
	}
}

func TestWriteChangesNothing(t *testing.T) { // P1.3, and what holds everywhere
	e := list(list(prim(1), prim(2))) // with spare room behind
	kids := append(make([]api.Element, 0, 4), e.Kids...)
	spare := kids[:4]
	spare[3] = api.Element{Tag: 77}
	e.Kids = kids
	want := shape(e)
	ber.Write(e)
	ber.Is(e)
	ber.Same(e, e)
	if shape(e) != want || spare[3].Tag != 77 {
		t.Errorf("P1.3: %v, %v", e, spare)
	}
}

func TestSame(t *testing.T) { // P1.3
	a, b := api.Element{Tag: 4, Body: "a"}, api.Element{Tag: 4, Body: "b"}
	for i, c := range []struct {
		a, b api.Element
		want bool
	}{
		{a, a, true},
		{a, b, false},
		{a, api.Element{Tag: 2, Body: "a"}, false},
		{a, api.Element{Tag: 4}, false},
		{api.Element{}, api.Element{}, true},
		{list(), api.Element{Tag: 48, Kids: []api.Element{}}, true},
		{list(), api.Element{Tag: 49}, false},
		{list(a), list(a), true},
		{list(a), list(), false},
		{list(), list(a), false},
		{list(a), list(b), false},
		{list(a, b), list(a, b), true},
		{list(a, b), list(b, a), false},
		{list(a, b), list(a), false},
		{list(a), list(a, b), false},
		{list(a, list(a, b)), list(a, list(a, b)), true},
		{list(a, list(a, b)), list(a, list(a, a)), false},
		{list(a, list(b)), list(list(a), b), false},
		{api.Element{Tag: 48, Body: "a"}, list(), false}, // also what can't be written
		{api.Element{Tag: 4, Kids: []api.Element{a}}, api.Element{Tag: 4, Kids: []api.Element{b}}, false},
		{api.Element{Tag: 31, Body: "a"}, api.Element{Tag: 31, Body: "a"}, true},
	} {
		if ber.Same(c.a, c.b) != c.want || ber.Same(c.b, c.a) != c.want {
			t.Errorf("P1.3: row %d: want %v", i, c.want)
		}
	}
}

// some tells an element of at most that depth.
func some(r *rand.Rand, depth int) api.Element {
	tag := byte(r.Intn(8)<<5 + r.Intn(31))
	if tag&32 == 0 {
		sizes := []int{0, 1, 2, 126, 127, 128, 129, 254, 255, 256, 257, 700}
		body := make([]byte, sizes[r.Intn(len(sizes))])
		r.Read(body)
		return api.Element{Tag: tag, Body: string(body)}
	}
	e := api.Element{Tag: tag}
	if depth > 1 {
		for range r.Intn(4) {
			e.Kids = append(e.Kids, some(r, depth-1))
		}
	}
	return e
}

func TestWrittenIsRead(t *testing.T) { // P1.4
	l := []api.Element{{}, prim(3999), prim(4000), list(prim(3996)), nest(prim(1), 19), nest(list(), 19), nest(prim(100), 19), list(make([]api.Element, 2000)...)}
	r := rand.New(rand.NewSource(14))
	for range 3000 {
		l = append(l, some(r, api.MaxDepth))
	}
	read := 0
	for _, e := range l {
		s, err := ber.Write(e)
		if err == api.ErrLarge {
			continue
		}
		read++
		back, n, at, fault := ber.Read(s)
		if err != api.OK || n != len(s) || at != 0 || fault != api.OK || !alike(e, back) || !ber.Same(e, back) {
			t.Fatalf("P1.4: %x: %v, %d, %d, %v", s, err, n, at, fault)
		}
		if _, n, _, fault := ber.Read(s + "\x1f"); n != len(s) || fault != api.OK {
			t.Fatalf("P1.4: %x and a byte behind: %d, %v", s, n, fault)
		}
		cut := r.Intn(len(s))
		if e, n, at, fault := ber.Read(s[:cut]); !none(e) || n != 0 || at != 0 || fault != api.ErrShort {
			t.Fatalf("P1.2: %x, cut at %d: %d, %d, %v", s, cut, n, at, fault)
		}
	}
	if read < 2000 {
		t.Errorf("P1.4: only %d were read", read)
	}
}

// TestReadAny: of all short texts of telling bytes, what is read can be written and read again, and what isn't has a place in it.
func TestReadAny(t *testing.T) { // P1.2, P1.4
	alphabet := "\x00\x01\x02\x04\x1f\x30\x80\x81\x82"
	for size := range 7 {
		count := 1
		for range size {
			count *= len(alphabet)
		}
		s := make([]byte, size)
		for i := range count {
			for j := range s {
				s[j], i = alphabet[i%len(alphabet)], i/len(alphabet)
			}
			if !sound(string(s)) {
				t.Fatalf("P1.2: %x", s)
			}
		}
	}
}

func sound(s string) bool {
	e, n, at, err := ber.Read(s)
	if err != api.OK {
		return none(e) && n == 0 && at >= 0 && at <= len(s) && (err == api.ErrShort) == cutOff(s)
	}
	again, m, place, fault := ber.Read(s[:n])
	if at != 0 || n < 2 || m != n || place != 0 || fault != api.OK || !alike(e, again) || !ber.Is(e) {
		return false
	}
	w, _ := ber.Write(e)
	back, m, _, fault := ber.Read(w)
	return len(w) <= n && m == len(w) && fault == api.OK && alike(e, back)
}

// cutOff tells whether s is too short for its first element, by Head alone.
func cutOff(s string) bool {
	head, size, err := ber.Head(s)
	return err == api.ErrShort || err == api.OK && head+size > len(s)
}
