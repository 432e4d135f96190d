package vector_test

import (
	"math"
	"math/rand"
	"slices"
	"testing"

	"prefect/api"
	"prefect/csn"
	"prefect/vector"
)

// The limits that the document names, by their numbers.
const (
	maxTime = 1099511627776
	maxSeq  = 65535
	maxReps = 6
)

func num(time int64, seq, rep int) api.CSN { return api.CSN{Time: time, Seq: seq, Rep: rep} }

// Of one place each.
type place struct {
	time int64
	seq  int
}

var last = place{maxTime, maxSeq}

// vec tells the vector of these places.
func vec(l ...place) api.Vector {
	v := api.Vector{}
	for i, p := range l {
		v = append(v, num(p.time, p.seq, i))
	}
	return v
}

// alike asks that both are the same word by word; no list and an empty one are.
func alike(t *testing.T, what string, got, want api.Vector) {
	t.Helper()
	if len(got) != len(want) {
		t.Errorf("%s: %v; want %v", what, got, want)
		return
	}
	for i := range got {
		if got[i].Time != want[i].Time || got[i].Seq != want[i].Seq || got[i].Rep != want[i].Rep {
			t.Errorf("%s: %v; want %v", what, got, want)
			return
		}
	}
}

// wrong tells vectors that aren't Is.
func wrong() []api.Vector {
	return []api.Vector{
		{num(0, 0, 1)},               // another Rep than its place
		{num(5, 1, 1), num(5, 1, 0)}, // the other way round
		{num(5, 1, 0), num(5, 1, 0)}, // one twice
		{num(5, 1, 0), num(5, 1, 2)}, // one left out
		{num(5, 1, 1), num(5, 1, 2)}, // from 1 on
		{num(5, 1, -1)},              // what isn't csn's Is
		{num(-1, 0, 0)},
		{num(0, -1, 0)},
		{num(maxTime+1, 0, 0)},
		{num(0, maxSeq+1, 0)},
		{num(math.MaxInt64, 0, 0)},
		{num(math.MinInt64, 0, 0)},
		{num(5, math.MaxInt, 0)},
		{num(5, 1, math.MinInt)},
		{num(5, 1, 0), num(5, 1, 1), num(-1, 0, 2)}, // the last one of several
		{num(5, 1, 0), num(5, maxSeq+1, 1), num(5, 1, 2)},
		{num(maxTime+1, 0, 0), num(5, 1, 1)},
		{num(5, 1, 0), num(5, 1, 1), num(5, 1, 2), num(5, 1, 3), num(5, 1, 4), num(5, 1, 6)},
		vec(place{}, place{}, place{}, place{}, place{}, place{}, place{}), // too long
		vec(last, last, last, last, last, last, last),
		vec(place{1, 0}, place{1, 0}, place{1, 0}, place{1, 0}, place{1, 0}, place{1, 0}, place{1, 0}, place{1, 0}),
		{num(5, 1, 0), num(5, 1, 1), num(5, 1, 2), num(5, 1, 3), num(5, 1, 4), num(5, 1, 5), num(5, 1, 5)},
		{num(5, 1, 0), num(5, 1, 1), num(5, 1, 2), num(5, 1, 3), num(5, 1, 4), num(5, 1, 5), num(5, 1, 0)},
		make(api.Vector, 2),
		make(api.Vector, 7),
		make(api.Vector, 100000),
	}
}

// right tells vectors that are Is.
func right() []api.Vector {
	return []api.Vector{
		nil,
		{},
		make(api.Vector, 0, 9),
		{num(0, 0, 0)},
		{num(7, 3, 0)},
		{num(maxTime, maxSeq, 0)},
		{num(0, 0, 0), num(0, 0, 1)},
		{num(7, 3, 0), num(7, 4, 1)},
		{num(9, 0, 0), num(8, maxSeq, 1), num(0, 1, 2)},
		vec(place{1, 2}, place{3, 4}, place{5, 6}, place{7, 8}),
		vec(place{1, 2}, place{3, 4}, place{5, 6}, place{7, 8}, place{9, 10}),
		vec(place{}, place{}, place{}, place{}, place{}, place{}),
		vec(last, last, last, last, last, last),
		vec(place{6, 0}, place{5, 1}, place{4, 2}, place{3, 3}, place{2, 4}, place{1, 5}),
	}
}

func TestLimits(t *testing.T) { // P11.1
	if api.MaxTime != maxTime || api.MaxSeq != maxSeq || api.MaxReps != maxReps {
		t.Fatal("the document's limits are others")
	}
}

func TestNew(t *testing.T) { // P11.1
	zero := api.Vector{num(0, 0, 0), num(0, 0, 1), num(0, 0, 2), num(0, 0, 3), num(0, 0, 4), num(0, 0, 5)}
	for _, c := range [][2]int{
		{0, 0}, {1, 1}, {2, 2}, {3, 3}, {4, 4}, {5, 5}, {6, 6}, {7, 6}, {8, 6}, {256, 6}, {1 << 32, 6}, {math.MaxInt, 6}, {-1, 0}, {-6, 0}, {math.MinInt, 0},
	} {
		v := vector.New(c[0])
		alike(t, "P11.1: New", v, zero[:c[1]])
		if !vector.Is(v) {
			t.Errorf("P11.1: New(%d) isn't Is", c[0])
		}
	}
}

func TestIs(t *testing.T) { // P11.1
	for _, v := range right() {
		if !vector.Is(v) {
			t.Errorf("P11.1: Is(%v) is false", v)
		}
	}
	for i, v := range wrong() {
		if vector.Is(v) {
			t.Errorf("P11.1: row %d is Is: %.200v", i, v)
		}
	}
}

// TestIsPlaces: one place of each vector changed, to each side of each edge.
func TestIsPlaces(t *testing.T) { // P11.1
	for n := range maxReps + 1 {
		for i := range n {
			for _, c := range []struct {
				c    api.CSN
				want bool
			}{
				{num(0, 0, i), true}, {num(3, 4, i), true}, {num(maxTime, 0, i), true}, {num(0, maxSeq, i), true}, {num(maxTime, maxSeq, i), true},
				{num(maxTime+1, 0, i), false}, {num(-1, 0, i), false}, {num(0, maxSeq+1, i), false}, {num(0, -1, i), false}, {num(1<<32, 1<<16, i), false},
				{num(0, 0, i+1), false}, {num(0, 0, i-1), false}, {num(0, 0, i+6), false}, {num(0, 0, i+256), false}, {num(0, 0, i-1<<32), false},
			} {
				v := vector.New(n)
				v[i] = c.c
				if vector.Is(v) != c.want {
					t.Errorf("P11.1: Is(%v): %v", v, !c.want)
				}
			}
		}
	}
}

func TestRaise(t *testing.T) { // P11.1
	v := vec(place{5, 1}, place{7, 0}, place{0, 3})
	for _, c := range []struct {
		c    api.CSN
		want api.Vector
	}{
		{num(5, 2, 0), vec(place{5, 2}, place{7, 0}, place{0, 3})}, // above, by Seq alone
		{num(6, 0, 0), vec(place{6, 0}, place{7, 0}, place{0, 3})}, // by Time, with a Seq below
		{num(5, 1, 0), v}, // the very one
		{num(5, 0, 0), v}, // below
		{num(4, 9, 0), v}, // by Time, with a Seq above
		{num(0, 0, 0), v},
		{num(6, 9, 1), v}, // above of another place, below of its own
		{num(7, 0, 1), v},
		{num(7, 1, 1), vec(place{5, 1}, place{7, 1}, place{0, 3})},
		{num(8, 0, 1), vec(place{5, 1}, place{8, 0}, place{0, 3})},
		{num(0, 2, 2), v},
		{num(0, 3, 2), v},
		{num(0, 4, 2), vec(place{5, 1}, place{7, 0}, place{0, 4})},
		{num(1, 0, 2), vec(place{5, 1}, place{7, 0}, place{1, 0})},
		{num(maxTime, maxSeq, 2), vec(place{5, 1}, place{7, 0}, last)},
		{num(maxTime, 0, 0), vec(place{maxTime, 0}, place{7, 0}, place{0, 3})},
		{num(5, maxSeq, 0), vec(place{5, maxSeq}, place{7, 0}, place{0, 3})},
		{num(9, 9, 3), v}, // no such place
		{num(9, 9, 4), v},
		{num(9, 9, 5), v},
		{num(maxTime, maxSeq, 5), v},
	} {
		alike(t, "P11.1: Raise by "+csn.Text(c.c), vector.Raise(v, c.c), c.want)
	}
	alike(t, "P11.1: Raise of the last ones", vector.Raise(vec(last, last), num(maxTime, maxSeq, 1)), vec(last, last))
	alike(t, "P11.1: Raise of the last ones", vector.Raise(vec(last, last), num(maxTime, maxSeq-1, 1)), vec(last, last))
	alike(t, "P11.1: Raise of none", vector.Raise(nil, num(1, 1, 0)), nil)
	alike(t, "P11.1: Raise of none", vector.Raise(api.Vector{}, num(0, 0, 0)), nil)
	alike(t, "P11.1: Raise of none", vector.Raise(make(api.Vector, 0, 4), num(3, 0, 2)), nil) // room isn't a place
}

// TestRaiseNone: by what isn't csn's Is.
func TestRaiseNone(t *testing.T) { // P11.1
	for n := range maxReps + 1 {
		v := vector.New(n)
		for i := range v {
			v[i].Time, v[i].Seq = 5, 1
		}
		for _, c := range []api.CSN{
			num(9, 9, -1), num(9, 9, math.MinInt), num(9, 9, 6), num(9, 9, 7), num(9, 9, math.MaxInt), num(9, 9, 256), num(9, 9, 1<<32),
			num(maxTime+1, 0, 0), num(math.MaxInt64, 0, 0), num(9, maxSeq+1, 0), num(5, maxSeq+1, 0), num(9, math.MaxInt, 0), num(9, -1, 0), num(-1, 9, 0), num(maxTime+1, maxSeq+1, 1), num(6, 1<<16, 2),
		} {
			alike(t, "P11.1: Raise by "+csn.Text(c), vector.Raise(v, c), v)
		}
	}
	for _, v := range wrong() {
		for rep := range maxReps {
			alike(t, "P11.1: Raise of what isn't Is", vector.Raise(v, num(9, 9, rep)), nil)
			alike(t, "P11.1: Raise of what isn't Is", vector.Raise(v, num(0, 0, rep)), nil)
			alike(t, "P11.1: Raise of what isn't Is by what isn't", vector.Raise(v, num(-1, 9, rep)), nil)
		}
	}
}

// TestRaisePlaces: in each place of each length.
func TestRaisePlaces(t *testing.T) { // P11.1
	for n := range maxReps + 1 {
		for rep := range maxReps {
			v := vector.New(n)
			for i := range v {
				v[i].Time, v[i].Seq = int64(10+i), 20+i
			}
			for _, d := range []int{-2, -1, 0, 1, 2} {
				want := slices.Clone(v)
				if rep < n && d > 0 {
					want[rep].Seq += d
				}
				alike(t, "P11.1: Raise by Seq", vector.Raise(v, num(int64(10+rep), 20+rep+d, rep)), want)
				want = slices.Clone(v)
				if rep < n && d > 0 {
					want[rep].Time += int64(d)
				}
				alike(t, "P11.1: Raise by Time", vector.Raise(v, num(int64(10+rep+d), 20+rep, rep)), want)
			}
		}
	}
}

func TestJoinMeet(t *testing.T) { // P11.1
	for _, c := range []struct{ a, b, join, meet api.Vector }{
		{nil, nil, nil, nil},
		{nil, vec(place{3, 1}), vec(place{3, 1}), nil},
		{api.Vector{}, vec(place{3, 1}, place{4, 2}), vec(place{3, 1}, place{4, 2}), nil},
		{vec(place{}), vec(place{}), vec(place{}), vec(place{})},
		{vec(place{5, 1}), vec(place{6, 0}), vec(place{6, 0}), vec(place{5, 1})},
		{vec(place{5, 1}), vec(place{5, 2}), vec(place{5, 2}), vec(place{5, 1})}, // they differ in Seq alone
		{vec(place{5, 9}), vec(place{6, 8}), vec(place{6, 8}), vec(place{5, 9})},
		{vec(place{5, 1}, place{6, 2}), vec(place{4, 1}, place{7, 2}), vec(place{5, 1}, place{7, 2}), vec(place{4, 1}, place{6, 2})}, // one is farther here, the other one there
		{vec(place{5, 1}, place{6, 2}), vec(place{5, 1}, place{6, 2}), vec(place{5, 1}, place{6, 2}), vec(place{5, 1}, place{6, 2})},
		{vec(place{5, 1}), vec(place{4, 0}, place{6, 2}, place{0, 0}), vec(place{5, 1}, place{6, 2}, place{0, 0}), vec(place{4, 0})}, // one is longer
		{vec(place{5, 1}), vec(place{7, 0}, place{6, 2}), vec(place{7, 0}, place{6, 2}), vec(place{5, 1})},
		{vec(last, place{}), vec(place{}, last, last), vec(last, last, last), vec(place{}, place{})},
		{
			vec(place{1, 0}, place{2, 0}, place{3, 0}, place{4, 0}, place{5, 0}, place{6, 0}), vec(place{6, 0}, place{5, 0}, place{4, 0}, place{3, 0}, place{2, 0}, place{1, 0}),
			vec(place{6, 0}, place{5, 0}, place{4, 0}, place{4, 0}, place{5, 0}, place{6, 0}), vec(place{1, 0}, place{2, 0}, place{3, 0}, place{3, 0}, place{2, 0}, place{1, 0}),
		},
		{vec(last, last, last, last, last, last), vector.New(6), vec(last, last, last, last, last, last), vector.New(6)},
		{vec(place{maxTime, maxSeq - 1}), vec(last), vec(last), vec(place{maxTime, maxSeq - 1})},
		{vec(place{maxTime - 1, maxSeq}), vec(place{maxTime, 0}), vec(place{maxTime, 0}), vec(place{maxTime - 1, maxSeq})},
	} {
		alike(t, "P11.1: Join", vector.Join(c.a, c.b), c.join)
		alike(t, "P11.1: Join", vector.Join(c.b, c.a), c.join)
		alike(t, "P11.1: Meet", vector.Meet(c.a, c.b), c.meet)
		alike(t, "P11.1: Meet", vector.Meet(c.b, c.a), c.meet)
	}
}

func TestLeq(t *testing.T) { // P11.1
	for _, c := range []struct {
		a, b     api.Vector
		leq, geq bool
	}{
		{nil, nil, true, true},
		{nil, api.Vector{}, true, true},
		{nil, vec(place{}), true, false}, // one place more, though it is nowhere above
		{vec(place{}), vec(place{}, place{}), true, false},
		{vec(place{3, 1}), vec(place{3, 1}, place{}), true, false},
		{vec(place{3, 1}), vec(place{3, 1}), true, true},
		{vec(place{3, 1}), vec(place{3, 2}), true, false}, // by Seq alone
		{vec(place{3, 9}), vec(place{4, 1}), true, false},
		{vec(place{3, 1}), vec(place{2, 1}, place{9, 9}), false, false}, // shorter, but above
		{vec(place{1, 1}, place{2, 2}), vec(place{2, 1}, place{1, 2}), false, false},
		{vec(place{1, 1}, place{2, 2}, place{3, 3}), vec(place{1, 1}, place{2, 2}, place{3, 4}), true, false}, // in the last place alone
		{vec(place{1, 0}, place{2, 2}, place{3, 3}), vec(place{1, 1}, place{2, 2}, place{3, 3}), true, false}, // in the first one
		{vec(place{9, 9}), vec(place{1, 1}, place{1, 1}, place{1, 1}, place{1, 1}, place{1, 1}, place{1, 1}), false, false},
		{vector.New(6), vec(last, last, last, last, last, last), true, false},
		{vec(last, last, last, last, last, place{maxTime, maxSeq - 1}), vec(last, last, last, last, last, last), true, false},
		{vec(last, last, last, last, last, last), vec(last, last, last, last, last, last), true, true},
		{vector.New(5), vector.New(6), true, false},
	} {
		if got := vector.Leq(c.a, c.b); got != c.leq {
			t.Errorf("P11.1: Leq of %v, %v: %v", c.a, c.b, got)
		}
		if got := vector.Leq(c.b, c.a); got != c.geq {
			t.Errorf("P11.1: Leq of %v, %v: %v", c.b, c.a, got)
		}
	}
}

func TestCovers(t *testing.T) { // P11.1
	v := vec(place{5, 1}, place{7, 0}, last, place{})
	for _, c := range []struct {
		c    api.CSN
		want bool
	}{
		{num(5, 1, 0), true},
		{num(5, 0, 0), true},
		{num(4, maxSeq, 0), true},
		{num(0, 0, 0), true},
		{num(5, 2, 0), false},
		{num(6, 0, 0), false},
		{num(6, 5, 1), true}, // above of another place, below of its own
		{num(7, 0, 1), true},
		{num(7, 1, 1), false},
		{num(8, 0, 1), false},
		{num(maxTime, maxSeq, 1), false},
		{num(maxTime, maxSeq, 2), true},
		{num(0, 0, 3), true},
		{num(0, 1, 3), false},
		{num(1, 0, 3), false},
		{num(0, 0, 4), false}, // no such place
		{num(0, 0, 5), false},
		{num(0, 0, 6), false},
		{num(0, 0, math.MaxInt), false},
		{num(0, 0, 1<<32), false},
		{num(0, 0, -1), false},
		{num(0, 0, math.MinInt), false},
		{num(-1, 0, 4), false},
		{num(maxTime+1, 0, 2), false}, // what isn't csn's Is is above or not, as any other
		{num(maxTime, maxSeq+1, 2), false},
		{num(math.MaxInt64, 0, 2), false},
		{num(-1, 0, 3), true},
		{num(0, -1, 3), true},
		{num(math.MinInt64, 0, 0), true},
		{num(4, maxSeq+1, 0), true},
	} {
		if got := vector.Covers(v, c.c); got != c.want {
			t.Errorf("P11.1: Covers of %v: %v", c.c, got)
		}
	}
	for _, none := range []api.Vector{nil, {}, make(api.Vector, 0, 5)} {
		for rep := -1; rep <= maxReps; rep++ {
			if vector.Covers(none, num(0, 0, rep)) {
				t.Errorf("P11.1: none covers 0, 0, %d", rep)
			}
		}
	}
}

func TestLeast(t *testing.T) { // P11.1
	for _, c := range []struct {
		v    api.Vector
		want api.CSN
	}{
		{nil, num(0, 0, 0)},
		{api.Vector{}, num(0, 0, 0)},
		{vector.New(2), num(0, 0, 0)},
		{vector.New(6), num(0, 0, 0)},
		{vec(place{4, 2}), num(4, 2, 0)},
		{vec(last), num(maxTime, maxSeq, 0)},
		{vec(place{4, 2}, place{3, 9}, place{5, 0}), num(3, 9, 1)},
		{vec(place{4, 2}, place{4, 1}, place{5, 0}), num(4, 1, 1)}, // by Seq alone
		{vec(place{4, 2}, place{4, 2}), num(4, 2, 0)},              // alike but for Rep
		{vec(place{5, 0}, place{4, 2}, place{4, 2}, place{6, 6}), num(4, 2, 1)},
		{vec(place{9, 0}, place{8, 0}, place{7, 0}, place{6, 0}, place{5, 0}, place{4, 0}), num(4, 0, 5)},
		{vec(place{4, 0}, place{5, 0}, place{6, 0}, place{7, 0}, place{8, 0}, place{9, 0}), num(4, 0, 0)},
		{vec(last, last, last, last, last, last), num(maxTime, maxSeq, 0)},
		{vec(last, last, last, last, last, place{maxTime, maxSeq - 1}), num(maxTime, maxSeq-1, 5)},
		{vec(place{1, maxSeq}, place{1, maxSeq}, place{2, 0}), num(1, maxSeq, 0)},
	} {
		if got := vector.Least(c.v); got != c.want {
			t.Errorf("P11.1: Least of %v: %v; want %v", c.v, got, c.want)
		}
	}
	for _, v := range wrong() {
		if got := vector.Least(v); got != num(0, 0, 0) {
			t.Errorf("P11.1: Least of what isn't Is: %v", got)
		}
	}
}

func TestSame(t *testing.T) { // P11.1
	l := right()
	for i, a := range l {
		for k, b := range l {
			want := i == k || i < 3 && k < 3 // the first three are empty
			if vector.Same(a, b) != want {
				t.Errorf("P11.1: Same of %v, %v: %v", a, b, !want)
			}
		}
	}
	v := vec(place{5, 1}, place{7, 0}, place{0, 3})
	if !vector.Same(v, slices.Clone(v)) {
		t.Error("P11.1: a copy isn't the same")
	}
	for _, b := range []api.Vector{
		vec(place{5, 2}, place{7, 0}, place{0, 3}), vec(place{6, 1}, place{7, 0}, place{0, 3}), vec(place{5, 1}, place{7, 0}, place{0, 2}), vec(place{5, 1}, place{7, 1}, place{0, 3}),
		vec(place{5, 1}, place{7, 0}), vec(place{5, 1}, place{7, 0}, place{0, 3}, place{}), vec(place{5, 1}), vec(place{7, 0}, place{5, 1}, place{0, 3}),
	} {
		if vector.Same(v, b) || vector.Same(b, v) {
			t.Errorf("P11.1: %v and %v are the same", v, b)
		}
	}
}

// TestWrong: what isn't Is counts as New(0), in each call and on either side.
func TestWrong(t *testing.T) { // P11.1
	for i, w := range wrong() {
		for _, v := range right() {
			alike(t, "P11.1: Join", vector.Join(w, v), v)
			alike(t, "P11.1: Join", vector.Join(v, w), v)
			alike(t, "P11.1: Meet", vector.Meet(w, v), nil)
			alike(t, "P11.1: Meet", vector.Meet(v, w), nil)
			if !vector.Leq(w, v) {
				t.Errorf("P11.1: row %d isn't Leq %v", i, v)
			}
			if vector.Leq(v, w) != (len(v) == 0) {
				t.Errorf("P11.1: Leq of %v, row %d: %v", v, i, len(v) != 0)
			}
			if vector.Same(w, v) != (len(v) == 0) || vector.Same(v, w) != (len(v) == 0) {
				t.Errorf("P11.1: Same of %v, row %d", v, i)
			}
		}
		for _, c := range []api.CSN{num(0, 0, 0), num(0, 0, 1), num(0, 0, 6), num(5, 1, 0), num(5, 1, 1), num(-1, 0, 0), num(0, 0, -1), num(0, 0, 7)} {
			if vector.Covers(w, c) {
				t.Errorf("P11.1: row %d covers %v", i, c)
			}
		}
		for k, x := range wrong() {
			alike(t, "P11.1: Join of two", vector.Join(w, x), nil)
			alike(t, "P11.1: Meet of two", vector.Meet(w, x), nil)
			if !vector.Leq(w, x) || !vector.Same(w, x) {
				t.Errorf("P11.1: rows %d, %d aren't the same", i, k)
			}
		}
	}
}

// counted tells the places of v, each as one number; none of what isn't a vector.
func counted(v api.Vector) []int64 {
	var l []int64
	for i, c := range v {
		if i >= maxReps || c.Rep != i || c.Time < 0 || c.Time > maxTime || c.Seq < 0 || c.Seq > maxSeq {
			return nil
		}
		l = append(l, c.Time*(maxSeq+1)+int64(c.Seq))
	}
	return l
}

// told tells the vector of such places.
func told(l []int64) api.Vector {
	v := api.Vector{}
	for i, n := range l {
		v = append(v, num(n/(maxSeq+1), int(n%(maxSeq+1)), i))
	}
	return v
}

// raised, joined, met, leq, covers, least: the chapter's calls of such places.
func raised(l []int64, c api.CSN) []int64 {
	l = slices.Clone(l)
	one := make(api.Vector, c.Rep&7+1)
	for i := range one {
		one[i].Rep = i
	}
	one[c.Rep&7] = c // what isn't csn's Is makes it no vector
	if by := counted(one); by != nil && c.Rep < len(l) && by[c.Rep] > l[c.Rep] {
		l[c.Rep] = by[c.Rep]
	}
	return l
}

func joined(a, b []int64) []int64 {
	var l []int64
	for i := range max(len(a), len(b)) {
		n := int64(-1)
		if i < len(a) {
			n = a[i]
		}
		if i < len(b) && b[i] > n {
			n = b[i]
		}
		l = append(l, n)
	}
	return l
}

func met(a, b []int64) []int64 {
	var l []int64
	for i := 0; i < len(a) && i < len(b); i++ {
		l = append(l, min(a[i], b[i]))
	}
	return l
}

func leq(a, b []int64) bool {
	for i := range a {
		if i >= len(b) || a[i] > b[i] {
			return false
		}
	}
	return true
}

func covers(l []int64, c api.CSN) bool {
	return c.Rep >= 0 && c.Rep < len(l) && (c.Time < l[c.Rep]/(maxSeq+1) || c.Time == l[c.Rep]/(maxSeq+1) && int64(c.Seq) <= l[c.Rep]%(maxSeq+1))
}

func least(l []int64) api.CSN {
	if len(l) == 0 {
		return num(0, 0, 0)
	}
	n := slices.Min(l)
	return num(n/(maxSeq+1), int(n%(maxSeq+1)), slices.Index(l, n))
}

// pick tells one of these.
func pick[T any](r *rand.Rand, l ...T) T { return l[r.Intn(len(l))] }

// number tells a number of that Rep: mostly one that is, near to others, or at an edge.
func number(r *rand.Rand, rep int) api.CSN {
	if r.Intn(40) == 0 {
		rep = pick(r, -1, rep+1, rep-1, 6, 7, math.MaxInt, math.MinInt)
	}
	time := pick(r, 0, 1, 2, 2, 3, maxTime-1, maxTime, r.Int63n(maxTime))
	seq := pick(r, 0, 1, 2, 2, maxSeq-1, maxSeq, r.Intn(maxSeq))
	if r.Intn(40) == 0 {
		time = pick[int64](r, -1, maxTime+1, math.MaxInt64, math.MinInt64)
	}
	if r.Intn(40) == 0 {
		seq = pick(r, -1, maxSeq+1, math.MaxInt, math.MinInt)
	}
	return num(time, seq, rep)
}

// some tells a vector, now and then one that isn't, with spare room.
func some(r *rand.Rand) api.Vector {
	v := make(api.Vector, r.Intn(maxReps+2), 12)
	for i := range v {
		v[i] = number(r, i)
	}
	return v
}

// TestModel: all calls of vectors of all kinds, held against the model.
func TestModel(t *testing.T) { // P11.1
	r := rand.New(rand.NewSource(11))
	is, isnt := 0, 0
	for range 60000 {
		a, b, c := some(r), some(r), number(r, r.Intn(maxReps))
		x, y := counted(a), counted(b)
		if ok := len(a) == 0 || x != nil; vector.Is(a) != ok {
			t.Fatalf("P11.1: Is(%v): %v", a, !ok)
		} else if ok {
			is++
		} else {
			isnt++
		}
		alike(t, "P11.1: Raise", vector.Raise(a, c), told(raised(x, c)))
		alike(t, "P11.1: Join", vector.Join(a, b), told(joined(x, y)))
		alike(t, "P11.1: Meet", vector.Meet(a, b), told(met(x, y)))
		if vector.Leq(a, b) != leq(x, y) {
			t.Errorf("P11.1: Leq of %v, %v: %v", a, b, !leq(x, y))
		}
		if vector.Covers(a, c) != covers(x, c) {
			t.Errorf("P11.1: Covers of %v, %v: %v", a, c, !covers(x, c))
		}
		if vector.Least(a) != least(x) {
			t.Errorf("P11.1: Least of %v: %v; want %v", a, vector.Least(a), least(x))
		}
		if vector.Same(a, b) != slices.Equal(x, y) {
			t.Errorf("P11.1: Same of %v, %v: %v", a, b, !slices.Equal(x, y))
		}
		if t.Failed() {
			t.Fatalf("of %v, %v, %v", a, b, c)
		}
	}
	if is < 10000 || isnt < 10000 {
		t.Errorf("only %d vectors, %d others", is, isnt)
	}
}

// law asks that a and b are the same, word by word and by Same.
func law(t *testing.T, what string, a, b api.Vector) {
	t.Helper()
	alike(t, "P11.2: "+what, a, b)
	if !vector.Same(a, b) || !vector.Same(b, a) {
		t.Errorf("P11.2: %s: %v, %v aren't the same", what, a, b)
	}
}

// pairs asks what holds of two vectors in a lattice.
func pairs(t *testing.T, a, b api.Vector) {
	t.Helper()
	join, meet := vector.Join(a, b), vector.Meet(a, b)
	law(t, "Join turned", join, vector.Join(b, a))
	law(t, "Meet turned", meet, vector.Meet(b, a))
	if !vector.Leq(a, join) || !vector.Leq(b, join) || !vector.Leq(meet, a) || !vector.Leq(meet, b) {
		t.Errorf("P11.2: %v, %v: Join %v isn't above, or Meet %v not below", a, b, join, meet)
	}
	if !vector.Is(join) || !vector.Is(meet) {
		t.Errorf("P11.2: %v, %v: Join %v or Meet %v isn't Is", a, b, join, meet)
	}
	whole := vector.Join(a, nil) // a as it counts
	law(t, "Meet with the Join", vector.Meet(a, join), whole)
	law(t, "Join with the Meet", vector.Join(a, meet), whole)
	if both := vector.Leq(a, b) && vector.Leq(b, a); both != vector.Same(a, b) {
		t.Errorf("P11.2: %v, %v: Leq both ways: %v", a, b, both)
	}
	if below := vector.Leq(a, b); below != vector.Same(join, b) || below != vector.Same(meet, a) {
		t.Errorf("P11.2: %v, %v: Leq: %v", a, b, below)
	}
}

// threes asks what holds of three vectors in a lattice.
func threes(t *testing.T, a, b, c api.Vector) {
	t.Helper()
	law(t, "Join grouped", vector.Join(vector.Join(a, b), c), vector.Join(a, vector.Join(b, c)))
	law(t, "Meet grouped", vector.Meet(vector.Meet(a, b), c), vector.Meet(a, vector.Meet(b, c)))
	if vector.Leq(a, b) && vector.Leq(b, c) && !vector.Leq(a, c) {
		t.Errorf("P11.2: %v, %v, %v: Leq, but not over the middle one", a, b, c)
	}
	if vector.Leq(a, c) && vector.Leq(b, c) && !vector.Leq(vector.Join(a, b), c) {
		t.Errorf("P11.2: %v, %v: %v is above both, but not above the Join", a, b, c)
	}
	if vector.Leq(c, a) && vector.Leq(c, b) && !vector.Leq(c, vector.Meet(a, b)) {
		t.Errorf("P11.2: %v, %v: %v is below both, but not below the Meet", a, b, c)
	}
}

// small tells all vectors of up to two places of a few numbers, and some that count as none.
func small() []api.Vector {
	l := []api.Vector{nil, {num(0, 0, 1)}, {num(-1, 0, 0), num(0, 0, 1)}}
	few := []place{{0, 0}, {0, 1}, {1, 0}, last}
	for _, p := range few {
		l = append(l, vec(p))
		for _, q := range few {
			l = append(l, vec(p, q))
		}
	}
	return l
}

func TestLattice(t *testing.T) { // P11.2
	l := small()
	for _, a := range l {
		law(t, "Join with itself", vector.Join(a, a), vector.Join(a, nil))
		law(t, "Meet with itself", vector.Meet(a, a), vector.Join(a, nil))
		if !vector.Leq(a, a) || !vector.Same(a, a) {
			t.Errorf("P11.2: %v isn't Leq itself", a)
		}
		for _, b := range l {
			pairs(t, a, b)
			for _, c := range l {
				threes(t, a, b, c)
			}
		}
		if t.Failed() {
			return
		}
	}
}

func TestLatticeMany(t *testing.T) { // P11.2
	r := rand.New(rand.NewSource(12))
	for range 20000 {
		a, b, c := some(r), some(r), some(r)
		pairs(t, a, b)
		threes(t, a, b, c)
		threes(t, a, b, vector.Join(vector.Join(a, b), c)) // one that is above both
		threes(t, a, b, vector.Meet(vector.Meet(a, b), c)) // and one that is below
		if t.Failed() {
			return
		}
	}
}

// TestAll: whatever the order in which many are joined, met, raised, and however grouped, the same comes out.
func TestAll(t *testing.T) { // P11.2
	r := rand.New(rand.NewSource(13))
	for range 2000 {
		l := make([]api.Vector, 1+r.Intn(8))
		for i := range l {
			l[i] = some(r)
		}
		n := r.Intn(maxReps + 1)
		var numbers []api.CSN
		for range 1 + r.Intn(20) {
			numbers = append(numbers, number(r, r.Intn(maxReps)))
		}
		joins, meets, raises := fold(r, l, vector.Join), fold(r, l, vector.Meet), up(n, numbers)
		for range 4 {
			r.Shuffle(len(l), func(i, k int) { l[i], l[k] = l[k], l[i] })
			r.Shuffle(len(numbers), func(i, k int) { numbers[i], numbers[k] = numbers[k], numbers[i] })
			law(t, "Join of many", fold(r, l, vector.Join), joins)
			law(t, "Meet of many", fold(r, l, vector.Meet), meets)
			law(t, "Raise by many", up(n, numbers), raises)
		}
		if t.Failed() {
			return
		}
	}
}

// fold makes one of all, grouped at random.
func fold(r *rand.Rand, l []api.Vector, both func(a, b api.Vector) api.Vector) api.Vector {
	if len(l) == 1 {
		return vector.Join(l[0], nil)
	}
	at := 1 + r.Intn(len(l)-1)
	return both(fold(r, l[:at], both), fold(r, l[at:], both))
}

// up raises New(n) by all.
func up(n int, l []api.CSN) api.Vector {
	v := vector.New(n)
	for _, c := range l {
		v = vector.Raise(v, c)
	}
	return v
}

// TestRaiseCovers: what was raised covers that number, and no more than it did beside it.
func TestRaiseCovers(t *testing.T) { // P11.1, P11.2
	r := rand.New(rand.NewSource(14))
	for range 20000 {
		v, c, d := some(r), number(r, r.Intn(maxReps)), number(r, r.Intn(maxReps))
		w := vector.Raise(v, c)
		taken := csn.Is(c) && vector.Is(v) && c.Rep < len(v)
		if !vector.Leq(v, w) || taken && !vector.Covers(w, c) {
			t.Fatalf("P11.1: Raise of %v by %v: %v", v, c, w)
		}
		want := vector.Covers(v, d) || taken && d.Rep == c.Rep && csn.Cmp(d, c) <= 0
		if vector.Covers(w, d) != want {
			t.Fatalf("P11.1: Raise of %v by %v: %v covers %v: %v", v, c, w, d, !want)
		}
		join, meet := vector.Join(v, w), vector.Meet(v, w)
		law(t, "Join with what was raised", join, w)
		law(t, "Meet with what was raised", meet, vector.Join(v, nil))
		if vector.Covers(vector.Join(v, some(r)), d) != vector.Covers(v, d) && vector.Covers(v, d) {
			t.Fatalf("P11.2: a Join covers less than %v", v)
		}
	}
}

// room tells v in memory with something behind it, and all of that memory.
func room(v api.Vector) (api.Vector, api.Vector) {
	all := slices.Concat(v, api.Vector{num(77, 7, 0), num(78, 8, 1), num(79, 9, 2), num(80, 10, 3)})
	return all[:len(v)], all
}

// spoil writes over v and the room behind it.
func spoil(v api.Vector) {
	v = v[:cap(v)]
	for i := range v {
		v[i] = num(-99, -99, -99)
	}
}

// apart asks that a call changes nothing of a and b, and that what it tells shares memory with nothing.
func apart(t *testing.T, what string, a, b api.Vector, call func(a, b api.Vector) api.Vector) {
	t.Helper()
	a, allA := room(a)
	b, allB := room(b)
	oldA, oldB := slices.Clone(allA), slices.Clone(allB)
	first, second := call(a, b), call(a, b)
	want := slices.Clone(first)
	stays := func(when string) {
		t.Helper()
		if !slices.Equal(allA, oldA) || !slices.Equal(allB, oldB) {
			t.Fatalf("%s %s: %v, %v; were %v, %v", what, when, allA, allB, oldA, oldB)
		}
	}
	stays("changes what is handed in")
	alike(t, what+" told twice", second, want)
	spoil(first)
	stays("tells memory of what is handed in")
	alike(t, what+", with another answer spoilt", second, want)
	alike(t, what+", asked once more", call(a, b), want)
	spoil(allA)
	spoil(allB)
	alike(t, what+", with what was handed in spoilt", second, want)
}

// TestApart: what is handed in stays as it was, and shares no memory with what is answered, also where the answer is one of them.
func TestApart(t *testing.T) { // what holds everywhere
	l := append(right(), wrong()[:22]...)
	for _, a := range l {
		for _, c := range []api.CSN{num(0, 0, 0), num(8, 0, 0), num(8, 0, 1), num(maxTime, maxSeq, 5), num(9, 9, 6), num(9, 9, -1), num(-1, 0, 0)} {
			apart(t, "Raise", a, nil, func(a, _ api.Vector) api.Vector { return vector.Raise(a, c) })
		}
		for _, b := range l {
			apart(t, "Join", a, b, vector.Join)
			apart(t, "Meet", a, b, vector.Meet)
			apart(t, "the others", a, b, func(a, b api.Vector) api.Vector { // they tell no list
				vector.Is(a)
				vector.Leq(a, b)
				vector.Same(a, b)
				vector.Covers(a, num(8, 0, 1))
				return api.Vector{vector.Least(a), vector.Least(b)}
			})
		}
	}
	for n := range maxReps + 2 {
		apart(t, "New", nil, nil, func(_, _ api.Vector) api.Vector { return vector.New(n) })
	}
}

// TestItself: one vector handed in on both sides.
func TestItself(t *testing.T) { // P11.1, what holds everywhere
	for _, v := range right() {
		all := slices.Clone(v)
		join, meet := vector.Join(v, v), vector.Meet(v, v)
		spoil(join)
		alike(t, "Meet with itself", meet, all)
		spoil(meet)
		alike(t, "what was handed in", v, all)
		if len(v) == 0 {
			continue
		}
		again := vector.Join(v[:1], v) // they overlap
		alike(t, "Join with a piece", again, all)
		alike(t, "Meet with a piece", vector.Meet(v, v[:1]), all[:1])
		if vector.Same(v[:1], v) != (len(v) == 1) || !vector.Leq(v[:1], v) {
			t.Errorf("P11.1: a piece of %v", v)
		}
	}
}
