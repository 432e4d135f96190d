package csn_test

import (
	"math"
	"math/big"
	"math/rand"
	"regexp"
	"slices"
	"strconv"
	"strings"
	"testing"
	"unsafe"

	"prefect/api"
	"prefect/csn"
)

// The limits that the document names, by their numbers.
const (
	maxTime = 1099511627776
	maxSeq  = 65535
	maxRep  = 5
)

func num(time int64, seq, rep int) api.CSN { return api.CSN{Time: time, Seq: seq, Rep: rep} }

// Around each edge, and far beyond it: rising.
var (
	times = []int64{math.MinInt64, -maxTime, -1, 0, 1, 2, 9, 10, 65535, 65536, 1 << 31, 1 << 32, maxTime - 1, maxTime, maxTime + 1, math.MaxInt64}
	seqs  = []int{math.MinInt, -65535, -1, 0, 1, 9, 10, 65534, 65535, 65536, 1 << 24, math.MaxInt}
	reps  = []int{math.MinInt, -1, 0, 1, 4, 5, 6, 7, math.MaxInt}
)

// grid tells all numbers of these, by Time, then Seq, then Rep.
func grid(times []int64, seqs, reps []int) []api.CSN {
	var l []api.CSN
	for _, time := range times {
		for _, seq := range seqs {
			for _, rep := range reps {
				l = append(l, num(time, seq, rep))
			}
		}
	}
	return l
}

func TestLimits(t *testing.T) { // P10.1
	if api.MaxTime != maxTime || api.MaxSeq != maxSeq || api.MaxReps != maxRep+1 {
		t.Fatal("the document's limits are others")
	}
}

func TestIs(t *testing.T) { // P10.1
	for _, c := range []struct {
		c    api.CSN
		want bool
	}{
		{num(0, 0, 0), true},
		{num(5, 1, 2), true},
		{num(maxTime, maxSeq, maxRep), true},
		{num(maxTime, 0, 0), true},
		{num(maxTime+1, 0, 0), false},
		{num(-1, 0, 0), false},
		{num(math.MaxInt64, 0, 0), false},
		{num(math.MinInt64, 0, 0), false},
		{num(0, maxSeq, 0), true},
		{num(0, maxSeq+1, 0), false},
		{num(0, -1, 0), false},
		{num(0, math.MaxInt, 0), false},
		{num(0, math.MinInt, 0), false},
		{num(0, 0, maxRep), true},
		{num(0, 0, maxRep+1), false},
		{num(0, 0, -1), false},
		{num(0, 0, math.MaxInt), false},
		{num(0, 0, math.MinInt), false},
		{num(-1, -1, -1), false},
		{num(1, 1<<16, 0), false},
		{num(maxTime, maxSeq, -1), false},
	} {
		if got := csn.Is(c.c); got != c.want {
			t.Errorf("P10.1: Is(%v): %v", c.c, got)
		}
	}
	for _, c := range grid(times, seqs, reps) {
		want := 0 <= c.Time && c.Time <= maxTime && 0 <= c.Seq && c.Seq <= maxSeq && 0 <= c.Rep && c.Rep <= maxRep
		if got := csn.Is(c); got != want {
			t.Errorf("P10.1: Is(%v): %v", c, got)
		}
	}
}

func TestZero(t *testing.T) { // P10.1
	if !csn.Zero(num(0, 0, 0)) {
		t.Error("P10.1: 0.0.0 isn't Zero")
	}
	zeros := 0
	for _, c := range grid(times, seqs, reps) {
		if csn.Zero(c) {
			zeros++
		}
	}
	for i, c := range []api.CSN{num(1, 0, 0), num(0, 1, 0), num(0, 0, 1), num(-1, 0, 0), num(0, -1, 0), num(0, 0, -1), num(1, -1, 0), num(1<<32, 0, 0), num(0, 0, maxRep), num(math.MinInt64, 0, 0)} {
		if csn.Zero(c) {
			t.Errorf("P10.1: row %d: %v is Zero", i, c)
		}
	}
	if zeros != 1 {
		t.Errorf("P10.1: %d numbers are Zero", zeros)
	}
}

func TestCmp(t *testing.T) { // P10.1
	for _, c := range []struct {
		a, b api.CSN
		want int
	}{
		{num(0, 0, 0), num(0, 0, 0), 0},
		{num(5, 1, 2), num(5, 1, 2), 0},
		{num(5, 9, 5), num(6, 0, 0), -1}, // Time ahead of Seq, Rep
		{num(5, 1, 5), num(5, 2, 0), -1}, // Seq ahead of Rep
		{num(5, 1, 1), num(5, 1, 2), -1},
		{num(9, 0, 0), num(10, 0, 0), -1}, // as numbers, not as texts
		{num(1, 9, 0), num(1, 10, 0), -1},
		{num(-1, 9, 9), num(0, 0, 0), -1}, // what isn't Is, too
		{num(0, -1, 9), num(0, 0, 0), -1},
		{num(0, 0, -1), num(0, 0, 0), -1},
		{num(0, maxSeq+1, 0), num(1, 0, 0), -1},
		{num(math.MinInt64, 0, 0), num(math.MaxInt64, 0, 0), -1}, // no difference tells it
		{num(0, math.MinInt, 0), num(0, math.MaxInt, 0), -1},
		{num(0, 0, math.MinInt), num(0, 0, math.MaxInt), -1},
		{num(0, 0, 0), num(1<<32, 0, 0), -1},
	} {
		if csn.Cmp(c.a, c.b) != c.want || csn.Cmp(c.b, c.a) != -c.want {
			t.Errorf("P10.1: Cmp of %v, %v: %d, %d; want %d", c.a, c.b, csn.Cmp(c.a, c.b), csn.Cmp(c.b, c.a), c.want)
		}
	}
	l := grid(times, seqs, reps) // rising
	for i, a := range l {
		for k, b := range l {
			want := 0
			if i < k {
				want = -1
			} else if i > k {
				want = 1
			}
			if csn.Cmp(a, b) != want {
				t.Fatalf("P10.1: Cmp of %v, %v: %d; want %d", a, b, csn.Cmp(a, b), want)
			}
		}
	}
}

func TestText(t *testing.T) { // P10.1
	for _, c := range []struct {
		c    api.CSN
		want string
	}{
		{num(0, 0, 0), "0.0.0"},
		{num(5, 1, 2), "5.1.2"},
		{num(10, 20, 3), "10.20.3"},
		{num(1234567890, 4321, 4), "1234567890.4321.4"},
		{num(maxTime, maxSeq, maxRep), "1099511627776.65535.5"},
		{num(-1, 0, 0), "-1.0.0"}, // what isn't Is, too
		{num(0, -2, -3), "0.-2.-3"},
		{num(maxTime+1, maxSeq+1, maxRep+1), "1099511627777.65536.6"},
		{num(math.MaxInt64, 0, 0), "9223372036854775807.0.0"},
		{num(math.MinInt64, 7, 10), "-9223372036854775808.7.10"},
	} {
		if s := csn.Text(c.c); s != c.want {
			t.Errorf("P10.1: Text(%v): %s; want %s", c.c, s, c.want)
		}
	}
}

// reads asks that s is the text of c.
func reads(t *testing.T, s string, c api.CSN) {
	t.Helper()
	if got, err := csn.Parse(s); got != c || err != api.OK {
		t.Errorf("P10.1: Parse(%.40q): %v, %v; want %v", s, got, err, c)
	}
	if got := csn.Text(c); got != s {
		t.Errorf("P10.1: Text(%v): %s; want %s", c, got, s)
	}
}

// refuses asks that s is no text.
func refuses(t *testing.T, s string) {
	t.Helper()
	if got, err := csn.Parse(s); got != (api.CSN{}) || err != api.ErrForm {
		t.Errorf("P10.1: Parse(%.40q): %v, %v; want ErrForm", s, got, err)
	}
}

func TestParse(t *testing.T) { // P10.1
	reads(t, "0.0.0", num(0, 0, 0))
	reads(t, "5.1.2", num(5, 1, 2))
	reads(t, "0.0.5", num(0, 0, 5))
	reads(t, "0.65535.0", num(0, maxSeq, 0))
	reads(t, "1099511627776.0.0", num(maxTime, 0, 0))
	reads(t, "1099511627776.65535.5", num(maxTime, maxSeq, maxRep))
	reads(t, "1099511627775.65534.4", num(maxTime-1, maxSeq-1, maxRep-1))
	reads(t, "100.200.3", num(100, 200, 3))
	for _, c := range grid(times, seqs, reps) {
		if s := csn.Text(c); csn.Is(c) {
			reads(t, s, c)
		} else {
			refuses(t, s)
		}
	}
}

func TestParseNone(t *testing.T) { // P10.1
	for _, s := range []string{
		"", ".", "..", "...", "0", "0.", "0.0", "0.0.", ".0.0", "0..0", "..0", "0..", ".0.", "0.0.0.", ".0.0.0", "0..0.0", "0.0..0",
		"5.1.2.3", "5.1.2.", "5,1,2", "5.1,2", "5 1 2", "5:1:2",
		"+5.1.2", "5.+1.2", "5.1.+2", "-5.1.2", "5.-1.2", "5.1.-2", "-0.0.0", "0.-0.0", "0.0.-0", "+0.0.0", "-.0.0",
		" 5.1.2", "5.1.2 ", "5 .1.2", "5. 1.2", "5.1 .2", "5.1. 2", "\t5.1.2", "5.1.2\n", "5.1.2\x00", "\x005.1.2",
		"05.1.2", "5.01.2", "5.1.02", "00.0.0", "0.00.0", "0.0.00", "0000000000005.1.2",
		"a.1.2", "5.a.2", "5.1.a", "5a.1.2", "5.1a.2", "5.1.2a", "x5.1.2", "0x5.1.2", "5.0x1.2", "5e0.1.2", "1e3.1.2", "5.1.0b1", "5.1.0o1", "1_0.1.2", "5.1_0.2",
		"1099511627777.0.0", "0.65536.0", "0.0.6", "9999999999999.0.0", "0.99999.0", "0.0.9", "0.0.10", "10995116277760.0.0", "0.655350.0", "0.0.50",
		"9223372036854775807.0.0", "9223372036854775808.0.0", "18446744073709551616.0.0", "18446744073709551621.1.2", // 5 by wrap-round
		"0.9223372036854775807.0", "0.9223372036854775808.0", "0.4294967296.0", "0.18446744073709551616.0", "0.18446744073709551617.0",
		"0.0.9223372036854775807", "0.0.9223372036854775808", "0.0.4294967296", "0.0.18446744073709551616", "0.0.256",
		"-9223372036854775808.0.0", "-9223372036854775809.0.0",
		"\u0665.1.2", "5.\u0661.2", "\uff15.1.2", "\xff.0.0", "5.1.2\u00a0", "5\u2024" + "1.2",
	} {
		refuses(t, s)
	}
	for _, s := range []string{strings.Repeat("9", 1<<20), strings.Repeat("0", 1<<20), strings.Repeat(".", 1<<20), strings.Repeat("0.", 1<<20), strings.Repeat("-", 1<<20), strings.Repeat(" ", 1<<20)} { // and far too long ones
		refuses(t, s)
		refuses(t, s+".0.0")
		refuses(t, "0."+s+".0")
		refuses(t, "0.0."+s)
		refuses(t, "0.0.0"+s)
		refuses(t, s+"0.0.0")
	}
}

var form = regexp.MustCompile(`\A(0|[1-9][0-9]*)\.(0|[1-9][0-9]*)\.(0|[1-9][0-9]*)\z`)

// model tells by another way whose text s is, and whether it is one.
func model(s string) (api.CSN, bool) {
	parts := form.FindStringSubmatch(s)
	if parts == nil {
		return api.CSN{}, false
	}
	var n [3]int64
	for i, most := range []int64{maxTime, maxSeq, maxRep} {
		b, _ := new(big.Int).SetString(parts[i+1], 10)
		if b.Cmp(big.NewInt(most)) > 0 {
			return api.CSN{}, false
		}
		n[i] = b.Int64()
	}
	return num(n[0], int(n[1]), int(n[2])), true
}

// check holds Parse of s against the model.
func check(t *testing.T, s string) bool {
	t.Helper()
	c, ok := model(s)
	if ok {
		reads(t, s, c)
	} else {
		refuses(t, s)
	}
	return ok
}

// TestParseChanged: texts that are cut at each place, with each byte more or another one at each place, with two swapped, doubled.
func TestParseChanged(t *testing.T) { // P10.1
	for _, s := range []string{"0.0.0", "5.1.2", "10.20.3", "987654321.12345.4", "1099511627776.65535.5", "1099511627775.65534.0"} {
		if !check(t, s) {
			t.Errorf("%s is no text", s)
		}
		check(t, s+s)
		check(t, s+"."+s)
		for i := range len(s) + 1 {
			check(t, s[:i])
			check(t, s[i:])
			for b := range 256 {
				c := string([]byte{byte(b)})
				check(t, s[:i]+c+s[i:])
				if i < len(s) {
					check(t, s[:i]+c+s[i+1:])
				}
			}
			for k := i; k <= len(s); k++ {
				check(t, s[:i]+s[k:])
				check(t, s[i:k])
				check(t, s[:k]+s[i:])
			}
		}
	}
	r := rand.New(rand.NewSource(1))
	taken := 0
	for range 200000 {
		b := make([]byte, r.Intn(9))
		for i := range b {
			b[i] = "0123456.... -+x"[r.Intn(15)]
		}
		if check(t, string(b)) {
			taken++
		}
		if t.Failed() {
			return
		}
	}
	if taken < 100 {
		t.Errorf("only %d texts", taken)
	}
}

// TestBack: texts are read as what they were told of, and no two have one text.
func TestBack(t *testing.T) { // P10.1
	r := rand.New(rand.NewSource(2))
	seen := map[string]api.CSN{}
	for range 50000 {
		c := num(r.Int63n(maxTime+1)>>r.Intn(42), r.Intn(maxSeq+1)>>r.Intn(17), r.Intn(maxRep+1))
		s := csn.Text(c)
		reads(t, s, c)
		if other, ok := seen[s]; ok && other != c {
			t.Fatalf("P10.1: %v and %v are %s", c, other, s)
		}
		seen[s] = c
	}
}

// last asks what g's Last is.
func last(t *testing.T, g *csn.Gen, want api.CSN) {
	t.Helper()
	if got := g.Last(); got != want {
		t.Errorf("P10.2: Last: %v; want %v", got, want)
	}
}

// next asks what g's Next tells, and that it is Last then.
func next(t *testing.T, g *csn.Gen, now int64, want api.CSN) {
	t.Helper()
	if got, err := g.Next(now); got != want || err != api.OK {
		t.Errorf("P10.2: Next(%d): %v, %v; want %v", now, got, err, want)
	}
	last(t, g, want)
}

// none asks that g's Next tells ErrTime and changes nothing.
func none(t *testing.T, g *csn.Gen, now int64) {
	t.Helper()
	before := g.Last()
	if got, err := g.Next(now); got != (api.CSN{}) || err != api.ErrTime {
		t.Errorf("P10.2: Next(%d): %v, %v; want ErrTime", now, got, err)
	}
	last(t, g, before)
}

// see asks what Last is behind a See.
func see(t *testing.T, g *csn.Gen, c, want api.CSN) {
	t.Helper()
	g.See(c)
	last(t, g, want)
}

func TestNew(t *testing.T) { // P10.2
	for _, c := range [][2]int{{0, 0}, {1, 1}, {2, 2}, {3, 3}, {4, 4}, {5, 5}, {6, 5}, {7, 5}, {256, 5}, {math.MaxInt, 5}, {-1, 0}, {-5, 0}, {math.MinInt, 0}} {
		g := csn.New(c[0])
		last(t, g, num(0, 0, c[1]))
		next(t, g, 7, num(7, 0, c[1]))
		see(t, g, num(9, 3, 1), num(9, 3, c[1]))
		next(t, g, 7, num(9, 4, c[1]))
	}
}

func TestNext(t *testing.T) { // P10.2
	g := csn.New(2)
	next(t, g, 5, num(5, 0, 2))
	next(t, g, 3, num(5, 1, 2)) // a clock that goes back
	next(t, g, 5, num(5, 2, 2)) // and one that stands
	next(t, g, 4, num(5, 3, 2))
	next(t, g, 6, num(6, 0, 2))
	next(t, g, 100, num(100, 0, 2))
	next(t, g, 0, num(100, 1, 2))
	next(t, g, -1, num(100, 2, 2))
	next(t, g, math.MinInt64, num(100, 3, 2))
	next(t, g, 101, num(101, 0, 2))
	next(t, g, 1<<33, num(1<<33, 0, 2))
	next(t, g, 1<<32, num(1<<33, 1, 2))
}

// TestNextFirst: of a clock that says 0, or less, the first number is the one behind 0, 0.
func TestNextFirst(t *testing.T) { // P10.2
	for _, now := range []int64{0, -1, -maxTime, math.MinInt64} {
		g := csn.New(3)
		next(t, g, now, num(0, 1, 3))
		next(t, g, now, num(0, 2, 3))
		next(t, g, 1, num(1, 0, 3))
		next(t, g, now, num(1, 1, 3))
	}
}

// TestNextMany: all numbers of one Time, and those behind them.
func TestNextMany(t *testing.T) { // P10.2
	g := csn.New(1)
	for i := range 3 * (maxSeq + 1) {
		next(t, g, int64(10-i%3), num(10+int64(i/(maxSeq+1)), i%(maxSeq+1), 1))
		if t.Failed() {
			return
		}
	}
	next(t, g, 12, num(13, 0, 1))
	next(t, g, 13, num(13, 1, 1))
	next(t, g, 14, num(14, 0, 1))
}

// TestNextFull: behind the last Seq of a Time, by each kind of clock.
func TestNextFull(t *testing.T) { // P10.2
	for _, c := range []struct {
		now  int64
		want api.CSN
	}{
		{math.MinInt64, num(51, 0, 4)},
		{0, num(51, 0, 4)},
		{49, num(51, 0, 4)},
		{50, num(51, 0, 4)},
		{51, num(51, 0, 4)},
		{52, num(52, 0, 4)}, // the clock is farther than the next Time
		{1000, num(1000, 0, 4)},
		{maxTime, num(maxTime, 0, 4)},
	} {
		g := csn.New(4)
		see(t, g, num(50, maxSeq-1, 0), num(50, maxSeq-1, 4))
		next(t, g, 50, num(50, maxSeq, 4))
		next(t, g, c.now, c.want)
		next(t, g, 0, num(c.want.Time, 1, 4))
	}
}

// TestNextNone: at the end of time.
func TestNextNone(t *testing.T) { // P10.2
	for _, now := range []int64{maxTime + 1, maxTime + 2, 2 * maxTime, math.MaxInt64 - 1, math.MaxInt64} {
		g := csn.New(5)
		none(t, g, now)
		next(t, g, 5, num(5, 0, 5))
		none(t, g, now)
		next(t, g, 5, num(5, 1, 5)) // the clock, not the numbers, was at its end
		next(t, g, maxTime-1, num(maxTime-1, 0, 5))
		none(t, g, now)
		see(t, g, num(maxTime-1, maxSeq, 5), num(maxTime-1, maxSeq, 5))
		none(t, g, now)
		next(t, g, maxTime-1, num(maxTime, 0, 5))
		none(t, g, now)
		next(t, g, maxTime, num(maxTime, 1, 5))
	}
	g := csn.New(0)
	next(t, g, maxTime, num(maxTime, 0, 0))
	for i := range maxSeq {
		next(t, g, maxTime, num(maxTime, i+1, 0))
	}
	for _, now := range []int64{maxTime, maxTime, maxTime - 1, maxTime + 1, 0, -1, math.MinInt64, math.MaxInt64} {
		none(t, g, now)
	}
	see(t, g, num(maxTime, maxSeq, 5), num(maxTime, maxSeq, 0))
	none(t, g.Copy(), 5)
	last(t, g, num(maxTime, maxSeq, 0))
}

func TestSee(t *testing.T) { // P10.2
	g := csn.New(3)
	see(t, g, num(0, 0, 5), num(0, 0, 3))
	see(t, g, num(0, 0, 3), num(0, 0, 3))
	see(t, g, num(0, 1, 0), num(0, 1, 3))
	see(t, g, num(20, 7, 1), num(20, 7, 3))
	for _, c := range []api.CSN{num(20, 7, 0), num(20, 7, 1), num(20, 7, 3), num(20, 7, 5), num(20, 6, 5), num(20, 0, 5), num(19, 8, 5), num(19, maxSeq, 5), num(0, 0, 0), num(1, maxSeq, 4)} { // not above
		see(t, g, c, num(20, 7, 3))
	}
	next(t, g, 20, num(20, 8, 3))
	see(t, g, num(20, 9, 0), num(20, 9, 3)) // a Seq above, of a Rep below
	see(t, g, num(21, 0, 5), num(21, 0, 3)) // a Time above, of a Seq below
	next(t, g, 21, num(21, 1, 3))
	see(t, g, num(30, 4, 3), num(30, 4, 3)) // one of its own
	next(t, g, 30, num(30, 5, 3))
	next(t, g, 31, num(31, 0, 3))
	see(t, g, num(maxTime, maxSeq-1, 5), num(maxTime, maxSeq-1, 3))
	next(t, g, 32, num(maxTime, maxSeq, 3))
	none(t, g, 33)
}

// TestSeeNone: what isn't Is.
func TestSeeNone(t *testing.T) { // P10.2
	for _, c := range grid(times, seqs, reps) {
		if csn.Is(c) {
			continue
		}
		for _, at := range []api.CSN{num(0, 0, 2), num(9, 1, 2), num(maxTime, maxSeq, 2)} {
			g := csn.New(2)
			g.See(at)
			see(t, g, c, at)
		}
	}
	g := csn.New(2)
	for _, c := range []api.CSN{num(7, 3, 6), num(7, 3, -1), num(7, maxSeq+1, 1), num(maxTime+1, 0, 1)} {
		see(t, g, c, num(0, 0, 2))
		next(t, g.Copy(), 5, num(5, 0, 2))
	}
}

// TestSeeEdges: what is, at all edges.
func TestSeeEdges(t *testing.T) { // P10.2
	var l []api.CSN
	for _, c := range grid(times, seqs, reps) {
		if csn.Is(c) {
			l = append(l, c)
		}
	}
	for _, a := range l {
		for _, b := range l {
			g := csn.New(a.Rep)
			see(t, g, a, a)
			want := a
			if b.Time > a.Time || b.Time == a.Time && b.Seq > a.Seq {
				want = num(b.Time, b.Seq, a.Rep)
			}
			see(t, g, b, want)
		}
	}
}

func TestCopy(t *testing.T) { // P10.2
	for _, turn := range []bool{false, true} {
		g := csn.New(4)
		g.See(num(8, 2, 1))
		other := g.Copy()
		last(t, other, num(8, 2, 4))
		if turn {
			g, other = other, g
		}
		next(t, g, 8, num(8, 3, 4))
		last(t, other, num(8, 2, 4))
		next(t, other, 9, num(9, 0, 4))
		last(t, g, num(8, 3, 4))
		see(t, g, num(50, 0, 0), num(50, 0, 4))
		last(t, other, num(9, 0, 4))
		third := other.Copy()
		none(t, third, maxTime+1)
		next(t, third, maxTime, num(maxTime, 0, 4))
		next(t, other, 1, num(9, 1, 4))
		next(t, g, 1, num(50, 1, 4))
		last(t, third, num(maxTime, 0, 4))
	}
	last(t, csn.New(5).Copy(), num(0, 0, 5))
}

// TestApart: a Gen hangs on what it was told alone.
func TestApart(t *testing.T) { // P10.2, what holds everywhere
	a, b, c := csn.New(1), csn.New(1), csn.New(2)
	next(t, a, 5, num(5, 0, 1))
	last(t, b, num(0, 0, 1))
	next(t, c, 3, num(3, 0, 2))
	next(t, b, 4, num(4, 0, 1))
	next(t, a, 5, num(5, 1, 1))
	told := a.Last()
	told.Time = 99 // what was told is the caller's
	last(t, a, num(5, 1, 1))
	seen := num(7, 7, 0)
	a.See(seen)
	seen.Time = 99 // and what was handed in stays his
	last(t, a, num(7, 7, 1))
}

// TestNotKept: what is handed in stays as it was, and what is told shares nothing with it.
func TestNotKept(t *testing.T) { // what holds everywhere
	b := []byte("10.20.3")
	c, err := csn.Parse(unsafe.String(&b[0], len(b)))
	if string(b) != "10.20.3" || err != api.OK {
		t.Errorf("%s, %v", b, err)
	}
	for i := range b {
		b[i] = '9'
	}
	if c != num(10, 20, 3) {
		t.Errorf("%v", c)
	}
	x, y := csn.Text(c), csn.Text(c)
	if x != "10.20.3" || y != x || unsafe.StringData(x) == unsafe.StringData(y) {
		t.Errorf("%s, %s share memory", x, y)
	}
}

// place tells how many numbers of a replica are below c: its Times' ones, one behind the other.
func place(c api.CSN) int64 { return c.Time*(maxSeq+1) + int64(c.Seq) }

// walk is what a Gen does, by places.
type walk struct {
	at  int64
	rep int
}

// last tells what Last is to be.
func (w *walk) last() api.CSN {
	return num(w.at/(maxSeq+1), int(w.at%(maxSeq+1)), w.rep)
}

// next tells what Next is to tell.
func (w *walk) next(now int64) (api.CSN, api.Errno) {
	to := w.at + 1
	if now > maxTime {
		return api.CSN{}, api.ErrTime
	}
	if now > w.at/(maxSeq+1) {
		to = now * (maxSeq + 1)
	}
	if to > place(num(maxTime, maxSeq, 0)) {
		return api.CSN{}, api.ErrTime
	}
	w.at = to
	return w.last(), api.OK
}

// pair is a Gen and what it is to do, with the greatest number that it saw or made.
type pair struct {
	gen   *csn.Gen
	walk  walk
	above api.CSN
}

// step makes a number, and asks that it is the one that is to come, its own, and above all that were seen.
func (p *pair) step(t *testing.T, now int64) (api.CSN, bool) {
	t.Helper()
	c, err := p.gen.Next(now)
	want, wantErr := p.walk.next(now)
	if c != want || err != wantErr {
		t.Fatalf("P10.2: Next(%d): %v, %v; want %v, %v", now, c, err, want, wantErr)
	}
	if err != api.OK {
		return c, false
	}
	if csn.Cmp(c, p.above) <= 0 || !csn.Is(c) || c.Rep != p.walk.rep {
		t.Fatalf("P10.3: replica %d: %v behind %v", p.walk.rep, c, p.above)
	}
	p.above = c
	return c, true
}

// see shows c to p.
func (p *pair) see(t *testing.T, c api.CSN) {
	t.Helper()
	p.gen.See(c)
	if csn.Is(c) {
		p.walk.at = max(p.walk.at, place(c))
		if csn.Cmp(c, p.above) > 0 {
			p.above = c
		}
	}
	if p.gen.Last() != p.walk.last() {
		t.Fatalf("P10.2: Last behind See(%v): %v; want %v", c, p.gen.Last(), p.walk.last())
	}
}

// TestAbove: replicas with clocks of their own make numbers and show them to one another; no number comes twice.
func TestAbove(t *testing.T) { // P10.3
	r := rand.New(rand.NewSource(10))
	for round := range 60 {
		start := []int64{0, 5, 1 << 31, maxTime - 3}[round%4]
		var all []api.CSN
		made := map[api.CSN]bool{}
		pairs := make([]pair, maxRep+1)
		for i := range pairs {
			pairs[i] = pair{gen: csn.New(i), walk: walk{rep: i}}
		}
		for range 1500 {
			p := &pairs[r.Intn(len(pairs))]
			switch k := r.Intn(12); {
			case k < 6:
				c, ok := p.step(t, start+int64(r.Intn(6))-2)
				if !ok {
					break
				}
				if made[c] {
					t.Fatalf("P10.3: %v came twice", c)
				}
				made[c] = true
				all = append(all, c)
			case k < 9 && len(all) > 0:
				p.see(t, all[r.Intn(len(all))])
			case k == 9: // near the end of a Time
				p.see(t, num(start+int64(r.Intn(2)), maxSeq-r.Intn(3), r.Intn(8)-1))
			case k == 10:
				p.see(t, num(start-1, r.Intn(maxSeq+3)-1, r.Intn(8)-1))
			default: // a copy goes on in its place
				p.gen = p.gen.Copy()
			}
		}
		if len(all) < 50 {
			t.Errorf("round %d: only %d numbers", round, len(all))
		}
	}
}

// TestAboveSame: of numbers with one Time and Seq, of whatever replica, the next one is above all.
func TestAboveSame(t *testing.T) { // P10.3
	for rep := range maxRep + 1 {
		for first := range maxRep + 1 {
			for second := range maxRep + 1 {
				p := pair{gen: csn.New(rep), walk: walk{rep: rep}}
				for _, at := range []api.CSN{num(0, 0, 0), num(0, 3, 0), num(4, maxSeq, 0), num(5, 0, 0), num(maxTime, maxSeq-1, 0)} {
					p.see(t, num(at.Time, at.Seq, first))
					p.see(t, num(at.Time, at.Seq, second))
					if _, ok := p.step(t, at.Time); !ok {
						t.Errorf("P10.3: none behind %v", at)
					}
				}
			}
		}
	}
}

// TestAboveFar: whatever clocks say, and whatever is shown.
func TestAboveFar(t *testing.T) { // P10.3
	r := rand.New(rand.NewSource(11))
	for range 300 {
		rep := r.Intn(maxRep + 1)
		p := pair{gen: csn.New(rep), walk: walk{rep: rep}}
		numbers := []api.CSN{}
		for range 300 {
			far := int64(r.Uint64()) >> r.Intn(64)
			if r.Intn(2) == 0 {
				p.see(t, num(far, int(int64(r.Uint64())>>r.Intn(64)), r.Intn(9)-1))
			} else if c, ok := p.step(t, far); ok {
				numbers = append(numbers, c)
			}
		}
		if !slices.IsSortedFunc(numbers, csn.Cmp) {
			t.Fatal("P10.3: the numbers don't rise")
		}
	}
}

// TestTextLast: the text of a number that was made is the one that the document names.
func TestTextLast(t *testing.T) { // P10.1, P10.2
	g := csn.New(0)
	a, _ := g.Next(5)
	b, _ := g.Next(3)
	if csn.Text(a) != "5.0.0" || csn.Text(b) != "5.1.0" || csn.Text(g.Last()) != "5.1.0" {
		t.Errorf("P10.2: %s, %s, then %s", csn.Text(a), csn.Text(b), csn.Text(g.Last()))
	}
	for i := range 20 {
		c, _ := g.Next(0)
		if want := "5." + strconv.Itoa(i+2) + ".0"; csn.Text(c) != want {
			t.Errorf("P10.2: %s; want %s", csn.Text(c), want)
		}
	}
}
