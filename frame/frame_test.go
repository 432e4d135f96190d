package frame_test

import (
	"math/rand"
	"slices"
	"strings"
	"testing"
	"unsafe"

	"prefect/api"
	"prefect/ber"
	"prefect/frame"
)

const room = 4 * api.MaxSize

// fed tells a Cutter that was fed each of l.
func fed(t *testing.T, l ...string) *frame.Cutter {
	t.Helper()
	c := frame.New()
	for _, s := range l {
		feed(t, c, s)
	}
	return c
}

func feed(t *testing.T, c *frame.Cutter, s string) {
	t.Helper()
	before := c.Left()
	if err := c.Feed(s); err != api.OK {
		t.Fatalf("P3.1: feed of %.20x, %d bytes, behind %d: %v", s, len(s), before, err)
	}
	if c.Left() != before+len(s) {
		t.Fatalf("P3.1: %d left, fed %d: %d left", before, len(s), c.Left())
	}
}

// take asks for a message, and whether just its bytes were taken.
func take(t *testing.T, c *frame.Cutter, want string) {
	t.Helper()
	before := c.Left()
	if s, err := c.Next(); s != want || err != api.OK {
		t.Fatalf("P3.1, P3.2: %.20x, %d bytes, %v; want %.20x, %d bytes", s, len(s), err, want, len(want))
	}
	if c.Left() != before-len(want) {
		t.Fatalf("P3.1: %d left, %d taken: %d left", before, len(want), c.Left())
	}
}

// refuse asks twice for what isn't there: nothing is taken, and it is so again.
func refuse(t *testing.T, c *frame.Cutter, want api.Errno) {
	t.Helper()
	before := c.Left()
	for range 2 {
		if s, err := c.Next(); s != "" || err != want || c.Left() != before {
			t.Fatalf("P3.1: %.20x, %v, %d left; want %v, %d left", s, err, c.Left(), want, before)
		}
	}
}

// full asks whether there is room for just n bytes more, by a copy.
func full(t *testing.T, c *frame.Cutter, n int) {
	t.Helper()
	before := c.Left()
	for _, more := range []int{1, 2, api.MaxSize, room, room + 1, 1 << 20} {
		if err := c.Feed(strings.Repeat("x", n+more)); err != api.ErrLarge || c.Left() != before {
			t.Fatalf("P3.1: room %d, fed %d: %v, %d left; had %d", n, n+more, err, c.Left(), before)
		}
	}
	other := c.Copy()
	feed(t, other, strings.Repeat("x", n))
	feed(t, other, "")
	if err := other.Feed("x"); err != api.ErrLarge || other.Left() != room {
		t.Fatalf("P3.1: one byte too many: %v, %d left", err, other.Left())
	}
}

// message tells one of n bytes of body.
func message(n int) string {
	s, err := ber.Write(api.Element{Tag: 4, Body: strings.Repeat("m", n)})
	if err != api.OK {
		panic(err)
	}
	return s
}

func TestNew(t *testing.T) { // P3.1
	c := frame.New()
	if c.Left() != 0 {
		t.Errorf("P3.1: %d left", c.Left())
	}
	refuse(t, c, api.ErrShort)
	full(t, c, room)
	other := frame.New() // nothing is common to two of them
	feed(t, other, "\x04\x00")
	refuse(t, c, api.ErrShort)
	take(t, other, "\x04\x00")
}

func TestNext(t *testing.T) { // P3.1
	for _, s := range []string{
		"\x04\x00", // no body
		"\x00\x00",
		"\x30\x00",
		"\x04\x81\x00", // nor here, with longer lengths
		"\x04\x84\x00\x00\x00\x00",
		"\x04\x02ab",
		"\x42\x01\x1f",
		"\x30\x05\x02\x01\x01\x42\x00",
		"\x30\x05\x02\x01\x01\x42\x01",     // what is within plays no part
		"\x30\x04\x1f\x80\xff\xff",         // nor here
		"\x04\x81\x02ab",                   // not in the fewest bytes: as it is
		"\x04\x82\x00\x02ab",               // likewise
		"\x04\x83\x00\x00\x02ab",           // likewise
		"\x04\x84\x00\x00\x00\x02ab",       // the longest head
		"\x04\x84\x00\x00\x00\x02\x04\x00", // a body that might be a message
		message(127),
		message(128),
		message(255),
		message(256),
		message(api.MaxSize - 1),
		message(api.MaxSize),
		"\x04\x84\x00\x00\x0f\xa0" + strings.Repeat("m", api.MaxSize),
	} {
		c := fed(t, s)
		take(t, c, s)
		refuse(t, c, api.ErrShort)
		c = fed(t, s, s)
		take(t, c, s)
		take(t, c, s)
		refuse(t, c, api.ErrShort)
		c = fed(t, s+"\x04\x01") // what is behind it stays
		take(t, c, s)
		refuse(t, c, api.ErrShort)
		feed(t, c, "a")
		take(t, c, "\x04\x01a")
		c = fed(t, s+"\x1f")
		take(t, c, s)
		refuse(t, c, api.ErrForm)
	}
}

// TestNextShort: all that is too short for a message, and then what lacks.
func TestNextShort(t *testing.T) { // P3.1
	for _, c := range []struct{ begin, lacks string }{
		{"", "\x04\x00"},
		{"\x04", "\x00"},
		{"\x04", "\x02ab"},
		{"\x30", "\x02\x04\x00"},
		{"\x04\x01", "a"},
		{"\x04\x02a", "b"},
		{"\x04\x81", "\x01a"},
		{"\x04\x81\x02", "ab"},
		{"\x04\x82\x00", "\x01a"},
		{"\x04\x83\x00\x00", "\x01a"},
		{"\x04\x84", "\x00\x00\x00\x01a"},
		{"\x04\x84\x00\x00\x00", "\x01a"},
		{"\x04\x84\x00\x00\x00\x01", "a"},
		{"\x04\x84\x00\x00\x00\x02a", "b"},
		{"\x04\x82\x0f\xa0" + strings.Repeat("m", api.MaxSize-1), "m"},
		{"\x04\x84\x00\x00\x0f\xa0" + strings.Repeat("m", api.MaxSize-1), "m"},
	} {
		cutter := fed(t, c.begin)
		refuse(t, cutter, api.ErrShort)
		feed(t, cutter, "")
		refuse(t, cutter, api.ErrShort)
		feed(t, cutter, c.lacks)
		take(t, cutter, c.begin+c.lacks)
		refuse(t, cutter, api.ErrShort)
	}
}

// TestNextFaults: each of Head's errors stays, whatever comes behind it.
func TestNextFaults(t *testing.T) { // P3.1
	for _, c := range []struct {
		s   string
		err api.Errno
	}{
		{"\x1f", api.ErrForm},
		{"\x1f\x00", api.ErrForm},
		{"\x3f\x80", api.ErrForm},
		{"\xff\x84\xff\xff\xff\xff", api.ErrForm},
		{"\x04\x80", api.ErrLength},
		{"\x30\x80\x00\x00", api.ErrLength},
		{"\x04\x85", api.ErrLength},
		{"\x04\x85\x00\x00\x00\x00\x01a", api.ErrLength},
		{"\x04\xff", api.ErrLength},
		{"\x04\x82\x0f\xa1", api.ErrLarge},
		{"\x04\x82\x0f\xa1" + strings.Repeat("m", api.MaxSize+1), api.ErrLarge}, // though it is all there
		{"\x04\x83\x01\x00\x00", api.ErrLarge},
		{"\x04\x84\x00\x00\x0f\xa1", api.ErrLarge},
		{"\x04\x84\x80\x00\x00\x00", api.ErrLarge},
		{"\x04\x84\xff\xff\xff\xff", api.ErrLarge},
	} {
		cutter := fed(t, c.s)
		refuse(t, cutter, c.err)
		for _, more := range []string{"", "a", "\x04\x01a", message(api.MaxSize)} {
			feed(t, cutter, more)
			refuse(t, cutter, c.err)
		}
		full(t, cutter, room-cutter.Left())
		refuse(t, cutter, c.err)
		cutter = fed(t, "\x04\x01a\x30\x00"+c.s) // what is ahead of it is told
		take(t, cutter, "\x04\x01a")
		take(t, cutter, "\x30\x00")
		refuse(t, cutter, c.err)
	}
	for _, c := range []struct {
		begin, more string
		err         api.Errno
	}{ // bytes lack no more, and it is another error
		{"", "\x1f", api.ErrForm},
		{"\x04", "\x80", api.ErrLength},
		{"\x04", "\x85", api.ErrLength},
		{"\x04\x82\x0f", "\xa1", api.ErrLarge},
		{"\x04\x84\x00\x00\x0f", "\xa1", api.ErrLarge},
	} {
		cutter := fed(t, c.begin)
		refuse(t, cutter, api.ErrShort)
		feed(t, cutter, c.more)
		refuse(t, cutter, c.err)
	}
}

// TestNextAsHead: of all short texts of telling bytes Next tells what Head says of them.
func TestNextAsHead(t *testing.T) { // P3.1
	alphabet := "\x00\x01\x04\x1f\x30\x80\x82\x84"
	for size := range 7 {
		for i := range 1 << (3 * size) { // eight bytes
			b := make([]byte, size)
			for j := range b {
				b[j] = alphabet[i>>(3*j)&7]
			}
			s := string(b)
			head, body, err := ber.Head(s)
			c := fed(t, s)
			switch {
			case err != api.OK:
				refuse(t, c, err)
			case head+body > size:
				refuse(t, c, api.ErrShort)
			default:
				take(t, c, s[:head+body])
			}
		}
	}
}

func TestFeedRoom(t *testing.T) { // P3.1
	for _, first := range []int{0, 1, 2, 1000, api.MaxSize, api.MaxSize + 6, room / 2, room - 1, room} {
		c := fed(t, strings.Repeat("\x04", first))
		full(t, c, room-first)
		feed(t, c, strings.Repeat("\x04", room-first))
		full(t, c, 0)
		feed(t, c, "")
		full(t, c, 0)
	}
	c := frame.New()
	for range room { // byte by byte
		feed(t, c, "\x1f")
	}
	full(t, c, 0)
	refuse(t, c, api.ErrForm)
}

// TestFeedTooMuch: nothing is fed, neither the part that would fit, and what there was goes on.
func TestFeedTooMuch(t *testing.T) { // P3.1
	c := fed(t, "\x04\x02a")
	if err := c.Feed("b" + strings.Repeat("x", room-3)); err != api.ErrLarge {
		t.Fatalf("P3.1: %v", err)
	}
	refuse(t, c, api.ErrShort)
	feed(t, c, "c")
	take(t, c, "\x04\x02ac")
	if err := c.Feed(strings.Repeat("\x04\x00", room/2) + "\x04"); err != api.ErrLarge || c.Left() != 0 {
		t.Fatalf("P3.1: %v, %d left", err, c.Left())
	}
	refuse(t, c, api.ErrShort)
	feed(t, c, strings.Repeat("\x04\x00", room/2))
	for range room / 2 {
		take(t, c, "\x04\x00")
	}
	refuse(t, c, api.ErrShort)
}

// TestFeedRoomAgain: as much as was taken can be fed, many times over.
func TestFeedRoomAgain(t *testing.T) { // P3.1
	sizes := []int{0, 1, 127, 128, 3000, 256, api.MaxSize, 2, 777}
	var queue []string
	c := frame.New()
	for i := range 400 {
		s := message(sizes[i%len(sizes)])
		for c.Left()+len(s) > room {
			full(t, c, room-c.Left())
			take(t, c, queue[0])
			queue = queue[1:]
			full(t, c, room-c.Left())
		}
		feed(t, c, s)
		queue = append(queue, s)
	}
	for _, s := range queue {
		take(t, c, s)
	}
	full(t, c, room)
}

// TestNewMemory: what was told isn't touched by what is fed and told later on.
func TestNewMemory(t *testing.T) { // P3.1, and what holds everywhere
	s := "\x04\x20" + strings.Repeat("a", 32)
	c := fed(t, s)
	other := c.Copy()
	first, _ := c.Next()
	second, _ := other.Next()
	feed(t, c, strings.Repeat("z", room))
	feed(t, other, strings.Repeat("y", room))
	if first != s || second != s {
		t.Errorf("P3.1: %x, %x", first, second)
	}
	if p := unsafe.StringData(first); p == unsafe.StringData(s) || p == unsafe.StringData(second) {
		t.Error("P3.1: a message keeps what was handed in, or shares it with another one")
	}
}

func TestCopy(t *testing.T) { // P3.1
	for _, s := range []string{"", "\x04", "\x04\x02a", "\x1f", "\x04\x80zz", "\x04\x82\x0f\xa1", "\x04\x01a\x30\x00\x04", strings.Repeat("\x04\x00", room/2)} {
		c := fed(t, s)
		other := c.Copy()
		for range 4 {
			if c.Left() != other.Left() {
				t.Fatalf("P3.1: %.20x: %d left, of a copy %d", s, c.Left(), other.Left())
			}
			full(t, other, room-c.Left())
			m, err := c.Next()
			n, fault := other.Next()
			if m != n || err != fault {
				t.Fatalf("P3.1: %.20x: %x, %v, of a copy %x, %v", s, m, err, n, fault)
			}
		}
	}
}

// TestCopyApart: each of two goes its own way, whichever is fed or taken from first, also into the room behind what both had.
func TestCopyApart(t *testing.T) { // P3.1
	for _, turn := range []bool{false, true} {
		c := frame.New()
		for range 100 { // byte by byte, so that there is spare room
			feed(t, c, "\x30")
			feed(t, c, "\x00")
		}
		take(t, c, "\x30\x00")
		feed(t, c, "\x04\x03")
		other := c.Copy()
		third := other.Copy()
		if turn {
			c, other = other, c
		}
		feed(t, c, "abc")
		feed(t, other, "xyz")
		feed(t, c, "\x04\x01d")
		for range 99 {
			take(t, c, "\x30\x00")
		}
		take(t, c, "\x04\x03abc")
		take(t, c, "\x04\x01d")
		refuse(t, c, api.ErrShort)
		if other.Left() != 203 || third.Left() != 200 {
			t.Fatalf("P3.1: %d, %d left", other.Left(), third.Left())
		}
		feed(t, c, strings.Repeat("q", room))
		for range 99 {
			take(t, other, "\x30\x00")
			take(t, third, "\x30\x00")
		}
		take(t, other, "\x04\x03xyz")
		refuse(t, other, api.ErrShort)
		refuse(t, third, api.ErrShort)
		feed(t, third, "123")
		take(t, third, "\x04\x03123")
		full(t, c, 0)
	}
}

// told feeds each of l, and asks for messages behind each one, or behind the last one alone: all messages, the error behind them, and what is left.
func told(t *testing.T, l []string, each bool) ([]string, api.Errno, int) {
	t.Helper()
	var messages []string
	c := frame.New()
	last := api.ErrShort
	for i, s := range l {
		feed(t, c, s)
		for each || i == len(l)-1 {
			before := c.Left()
			m, err := c.Next()
			if err != api.OK {
				last = err
				break
			}
			if m == "" || c.Left() != before-len(m) { // else it might go on for ever
				t.Fatalf("P3.1: %.20x: %d left, then %d", m, before, c.Left())
			}
			messages = append(messages, m)
		}
	}
	return messages, last, c.Left()
}

// alike holds what is told of a stream that is cut against what it is made of.
func alike(t *testing.T, cut, messages []string, last api.Errno, left int) {
	t.Helper()
	for _, each := range []bool{false, true} {
		m, err, n := told(t, cut, each)
		if !slices.Equal(m, messages) || err != last || n != left {
			t.Fatalf("P3.2: in %d parts, asked behind each: %v: %d messages, %v, %d left; want %d, %v, %d", len(cut), each, len(m), err, n, len(messages), last, left)
		}
	}
}

// streams are messages, and what there is behind them.
func streams() []struct {
	messages []string
	tail     string
	err      api.Errno
} {
	l := []string{"\x04\x00", "\x30\x05\x02\x01\x01\x42\x00", "\x04\x84\x00\x00\x00\x02ab", "\x00\x00", message(130), "\x42\x81\x00", "\x30\x02\x1f\x80", "\x04\x01\x04"}
	return []struct {
		messages []string
		tail     string
		err      api.Errno
	}{
		{nil, "", api.ErrShort},
		{l, "", api.ErrShort},
		{l, "\x04", api.ErrShort},
		{l, "\x04\x82\x01", api.ErrShort},
		{l, "\x04\x05abcd", api.ErrShort},
		{l, "\x1f\x04\x00", api.ErrForm},
		{l, "\x04\x80\x04\x00", api.ErrLength},
		{l, "\x04\x84\x00\x01\x00\x00\x04\x00", api.ErrLarge},
		{slices.Repeat([]string{"\x04\x00"}, 20), "\x30\x01", api.ErrShort},
	}
}

// TestCutAnywhere: in one, at each place in two, at each two places in three, and byte by byte.
func TestCutAnywhere(t *testing.T) { // P3.2
	for _, c := range streams() {
		s := strings.Join(c.messages, "") + c.tail
		alike(t, []string{s}, c.messages, c.err, len(c.tail))
		alike(t, strings.Split(s, ""), c.messages, c.err, len(c.tail))
		for i := range len(s) + 1 {
			alike(t, []string{s[:i], s[i:]}, c.messages, c.err, len(c.tail))
			for j := i; j <= len(s); j++ {
				alike(t, []string{s[:i], s[i:j], s[j:]}, c.messages, c.err, len(c.tail))
			}
		}
	}
}

// TestCutLarge: the largest messages, as many as there is room for, at each place in two.
func TestCutLarge(t *testing.T) { // P3.2
	l := []string{message(api.MaxSize), "\x04\x00", "\x04\x84\x00\x00\x0f\xa0" + strings.Repeat("n", api.MaxSize), message(3998), "\x30\x00"}
	l = append(l, message(room-len(strings.Join(l, ""))-4))
	s := strings.Join(l, "")
	if len(s) != room {
		t.Fatalf("%d bytes", len(s))
	}
	for i := 0; i <= len(s); i += 7 {
		alike(t, []string{s[:i], s[i:]}, l, api.ErrShort, 0)
	}
}

// TestCutAnyhow: long streams that are cut and asked by chance, where a copy may go on in its place.
func TestCutAnyhow(t *testing.T) { // P3.2
	r := rand.New(rand.NewSource(3))
	sizes := []int{0, 0, 1, 2, 5, 127, 128, 130, 255, 256, 1000, api.MaxSize}
	for range 200 {
		var messages []string
		for range r.Intn(60) {
			messages = append(messages, message(sizes[r.Intn(len(sizes))]))
		}
		s := strings.Join(messages, "")
		c := frame.New()
		for s != "" {
			n := min(len(s), 1+r.Intn(1<<r.Intn(13)))
			if c.Left()+n > room { // a largest message is there, at least
				take(t, c, messages[0])
				messages = messages[1:]
				continue
			}
			feed(t, c, s[:n])
			s = s[n:]
			if r.Intn(10) == 0 {
				c = c.Copy()
			}
			for len(messages) > 0 && len(messages[0]) <= c.Left() && r.Intn(3) > 0 {
				take(t, c, messages[0])
				messages = messages[1:]
			}
		}
		for _, m := range messages {
			take(t, c, m)
		}
		refuse(t, c, api.ErrShort)
	}
}
