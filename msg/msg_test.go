package msg_test

import (
	"fmt"
	"math"
	"math/rand"
	"reflect"
	"slices"
	"strings"
	"testing"
	"unsafe"

	"prefect/api"
	"prefect/ber"
	"prefect/filter"
	"prefect/msg"
)

const most = 2147483647 // of an ID, a Size

// el tells the bytes of an element: its tag, its length in the fewest bytes, what is in it.
func el(tag byte, in ...string) string {
	s := strings.Join(in, "")
	n := len(s)
	switch {
	case n < 128:
		return string([]byte{tag, byte(n)}) + s
	case n < 256:
		return string([]byte{tag, 129, byte(n)}) + s
	}
	return string([]byte{tag, 130, byte(n >> 8), byte(n)}) + s
}

func by(l ...byte) string { return string(l) }

// num tells the bytes of a number that isn't below 0: one more ahead, if the highest bit would make it so.
func num(n int) string {
	var l []byte
	for {
		l = append([]byte{byte(n)}, l...)
		if n < 128 {
			return string(l)
		}
		n >>= 8
	}
}

func and(l ...api.Filter) api.Filter { return api.Filter{Kind: api.FAnd, Kids: l} }
func or(l ...api.Filter) api.Filter  { return api.Filter{Kind: api.FOr, Kids: l} }
func not(l ...api.Filter) api.Filter { return api.Filter{Kind: api.FNot, Kids: l} }

func equal(a, v string) api.Filter   { return api.Filter{Kind: api.FEqual, Attr: a, Value: v} }
func greater(a, v string) api.Filter { return api.Filter{Kind: api.FGreater, Attr: a, Value: v} }
func less(a, v string) api.Filter    { return api.Filter{Kind: api.FLess, Attr: a, Value: v} }
func present(a string) api.Filter    { return api.Filter{Kind: api.FPresent, Attr: a} }
func subs(a string, l ...string) api.Filter {
	return api.Filter{Kind: api.FSubs, Attr: a, Subs: l}
}

// within tells f in n FNots.
func within(n int, f api.Filter) api.Filter {
	for range n {
		f = not(f)
	}
	return f
}

func mod(kind int, attr string, values ...string) api.Mod {
	return api.Mod{Kind: kind, Attr: attr, Values: values}
}

// search makes an OSearch for f, with nothing else.
func search(f api.Filter) api.Msg { return api.Msg{Op: api.OSearch, Filter: f} }

// opOf makes a message of each Op.
func opOf(op int) api.Msg {
	switch op {
	case api.OBind:
		return api.Msg{ID: 7, Op: op, DN: "cn=a", Version: 3, Pass: "pw"}
	case api.OSearch:
		return api.Msg{ID: 7, Op: op, DN: "o=x", Scope: api.SSub, Size: 5, Filter: present("cn"), Wants: []string{"cn", "sn"}}
	case api.OModify:
		return api.Msg{ID: 7, Op: op, DN: "cn=a", Mods: []api.Mod{mod(api.MAdd, "cn", "b", "c"), mod(api.MDelete, "sn"), mod(api.MReplace, "l", "d")}}
	case api.OAdd, api.OEntry:
		return api.Msg{ID: 7, Op: op, DN: "cn=a", Mods: []api.Mod{mod(api.MAdd, "cn", "b", "c"), mod(api.MAdd, "sn")}}
	case api.ODelete:
		return api.Msg{ID: 7, Op: op, DN: "cn=a"}
	case api.OMove:
		return api.Msg{ID: 7, Op: op, DN: "cn=a", RDN: "cn=b", DelOld: true, HasSup: true, Sup: "o=x"}
	case api.OCompare:
		return api.Msg{ID: 7, Op: op, DN: "cn=a", Attr: "sn", Value: "v"}
	case api.OResult:
		return api.Msg{ID: 7, Op: op, Of: api.OBind, Code: api.NoObject, Matched: "o=x"}
	}
	return api.Msg{ID: 7, Op: op}
}

// ops tells all operations.
func ops() []int {
	var l []int
	for op := api.OBind; op <= api.OEntry; op++ {
		l = append(l, op)
	}
	return l
}

// hasDN tells whether messages of that Op have a DN.
func hasDN(op int) bool { return op != api.OUnbind && op != api.OResult }

// shape tells m by its parts. A list without anything is as good as none.
func shape(m api.Msg) string {
	return fmt.Sprintf("%d %d %d %q %d %q %d %d %s %q %s %q %v %v %q %q %q %d %q", m.ID, m.Op, m.Of, m.DN, m.Version, m.Pass, m.Scope, m.Size, filterShape(m.Filter), append([]string{}, m.Wants...), modShapes(m.Mods), m.RDN, m.DelOld, m.HasSup, m.Sup, m.Attr, m.Value, m.Code, m.Matched)
}

func filterShape(f api.Filter) string {
	s := fmt.Sprintf("{%d %q %q %q", f.Kind, f.Attr, f.Value, append([]string{}, f.Subs...))
	for _, kid := range f.Kids {
		s += filterShape(kid)
	}
	return s + "}"
}

func modShapes(l []api.Mod) string {
	s := ""
	for _, d := range l {
		s += fmt.Sprintf("[%d %q %q]", d.Kind, d.Attr, append([]string{}, d.Values...))
	}
	return s
}

// good asks for the bytes of a message, and whether it is read of them.
func good(t *testing.T, m api.Msg) string {
	t.Helper()
	if !msg.Is(m) {
		t.Errorf("P9.1: %.300s is no message", shape(m))
	}
	s, err := msg.Encode(m)
	if err != api.OK {
		t.Errorf("P9.2: %.300s: %v", shape(m), err)
		return ""
	}
	if back, err := msg.Decode(s); err != api.OK || shape(back) != shape(m) || !msg.Same(m, back) {
		t.Errorf("P9.3, P9.4: %.300s is read as %.300s, %v", shape(m), shape(back), err)
	}
	return s
}

// told asks whether m has just those bytes.
func told(t *testing.T, m api.Msg, want string) {
	t.Helper()
	if got := good(t, m); got != want {
		t.Errorf("P9.2: %.300s is told as\n%.200v; want\n%.200v", shape(m), []byte(got), []byte(want))
	}
}

// noMessage asks whether m is refused.
func noMessage(t *testing.T, m api.Msg, what string) {
	t.Helper()
	if msg.Is(m) {
		t.Errorf("P9.1: %s: %.300s is a message", what, shape(m))
	}
	if s, err := msg.Encode(m); err != api.ErrForm || s != "" {
		t.Errorf("P9.2: %s: %.300s: %d bytes, %v", what, shape(m), len(s), err)
	}
}

// refused asks whether s is read as no message, with that error.
func refused(t *testing.T, s string, want api.Errno, what string) {
	t.Helper()
	m, err := msg.Decode(s)
	if err != want {
		t.Errorf("P9.3: %s: %.100v: %v; want %v", what, []byte(s), err, want)
	}
	if !reflect.DeepEqual(m, api.Msg{}) {
		t.Errorf("P9.3: %s: %.300s beside %v", what, shape(m), err)
	}
}

// fault tells why m's bytes aren't told.
func fault(m api.Msg) api.Errno {
	_, err := msg.Encode(m)
	return err
}

func TestBytes(t *testing.T) { // P9.2, P9.3
	id := by(2, 1, 7)
	name := by(4, 4, 'c', 'n', '=', 'a')
	for _, c := range []struct {
		m    api.Msg
		want string
	}{
		{api.Msg{ID: 1, Op: api.OUnbind}, by(48, 5, 2, 1, 1, 66, 0)},
		{api.Msg{Op: api.OUnbind}, by(48, 5, 2, 1, 0, 66, 0)},
		{api.Msg{ID: 127, Op: api.OUnbind}, by(48, 5, 2, 1, 127, 66, 0)},
		{api.Msg{ID: 128, Op: api.OUnbind}, by(48, 6, 2, 2, 0, 128, 66, 0)},
		{api.Msg{ID: 65535, Op: api.OUnbind}, by(48, 7, 2, 3, 0, 255, 255, 66, 0)},
		{api.Msg{ID: most, Op: api.OUnbind}, by(48, 8, 2, 4, 127, 255, 255, 255, 66, 0)},
		{opOf(api.OBind), by(48, 18, 2, 1, 7, 96, 13, 2, 1, 3, 4, 4, 'c', 'n', '=', 'a', 128, 2, 'p', 'w')},
		{api.Msg{Op: api.OBind, Version: 1}, by(48, 12, 2, 1, 0, 96, 7, 2, 1, 1, 4, 0, 128, 0)},
		{opOf(api.OSearch), el(48, id, el(99, by(4, 3, 'o', '=', 'x', 10, 1, 2, 10, 1, 0, 2, 1, 5, 2, 1, 0, 1, 1, 0, 135, 2, 'c', 'n', 48, 8, 4, 2, 'c', 'n', 4, 2, 's', 'n')))},
		{api.Msg{Op: api.OSearch, Filter: and()}, by(48, 26, 2, 1, 0, 99, 21, 4, 0, 10, 1, 0, 10, 1, 0, 2, 1, 0, 2, 1, 0, 1, 1, 0, 160, 0, 48, 0)},
		{api.Msg{Op: api.OSearch, Size: most, Scope: api.SOne, Filter: or()}, by(48, 29, 2, 1, 0, 99, 24, 4, 0, 10, 1, 1, 10, 1, 0, 2, 4, 127, 255, 255, 255, 2, 1, 0, 1, 1, 0, 161, 0, 48, 0)},
		{opOf(api.OModify), el(48, id, el(102, name, el(48,
			by(48, 17, 10, 1, 0, 48, 12, 4, 2, 'c', 'n', 49, 6, 4, 1, 'b', 4, 1, 'c'),
			by(48, 11, 10, 1, 1, 48, 6, 4, 2, 's', 'n', 49, 0),
			by(48, 13, 10, 1, 2, 48, 8, 4, 1, 'l', 49, 3, 4, 1, 'd'))))},
		{api.Msg{Op: api.OModify}, by(48, 9, 2, 1, 0, 102, 4, 4, 0, 48, 0)},
		{api.Msg{Op: api.OModify, Mods: []api.Mod{{Kind: api.MReplace}}}, by(48, 20, 2, 1, 0, 102, 15, 4, 0, 48, 11, 48, 9, 10, 1, 2, 48, 4, 4, 0, 49, 0)},
		{opOf(api.OAdd), el(48, id, el(104, name, el(48, by(48, 12, 4, 2, 'c', 'n', 49, 6, 4, 1, 'b', 4, 1, 'c', 48, 6, 4, 2, 's', 'n', 49, 0))))},
		{api.Msg{Op: api.OAdd}, by(48, 9, 2, 1, 0, 104, 4, 4, 0, 48, 0)},
		{opOf(api.OEntry), el(48, id, el(100, name, el(48, by(48, 12, 4, 2, 'c', 'n', 49, 6, 4, 1, 'b', 4, 1, 'c', 48, 6, 4, 2, 's', 'n', 49, 0))))},
		{api.Msg{Op: api.OEntry, Mods: []api.Mod{{Kind: api.MAdd}}}, by(48, 15, 2, 1, 0, 100, 10, 4, 0, 48, 6, 48, 4, 4, 0, 49, 0)},
		{opOf(api.ODelete), by(48, 9, 2, 1, 7, 74, 4, 'c', 'n', '=', 'a')},
		{api.Msg{Op: api.ODelete}, by(48, 5, 2, 1, 0, 74, 0)},
		{opOf(api.OMove), el(48, id, el(108, name, by(4, 4, 'c', 'n', '=', 'b', 1, 1, 255, 128, 3, 'o', '=', 'x')))},
		{api.Msg{ID: 7, Op: api.OMove, DN: "cn=a", RDN: "b"}, by(48, 17, 2, 1, 7, 108, 12, 4, 4, 'c', 'n', '=', 'a', 4, 1, 'b', 1, 1, 0)},
		{api.Msg{Op: api.OMove, HasSup: true}, by(48, 14, 2, 1, 0, 108, 9, 4, 0, 4, 0, 1, 1, 0, 128, 0)},
		{api.Msg{Op: api.OMove, DelOld: true}, by(48, 12, 2, 1, 0, 108, 7, 4, 0, 4, 0, 1, 1, 255)},
		{opOf(api.OCompare), el(48, id, el(110, name, by(48, 7, 4, 2, 's', 'n', 4, 1, 'v')))},
		{api.Msg{Op: api.OCompare}, by(48, 13, 2, 1, 0, 110, 8, 4, 0, 48, 4, 4, 0, 4, 0)},
		{opOf(api.OResult), by(48, 15, 2, 1, 7, 97, 10, 10, 1, 32, 4, 3, 'o', '=', 'x', 4, 0)},
		{api.Msg{ID: 1, Op: api.OResult, Of: api.OAdd, Code: 127}, by(48, 12, 2, 1, 1, 105, 7, 10, 1, 127, 4, 0, 4, 0)},
	} {
		told(t, c.m, c.want)
	}
}

func TestResults(t *testing.T) { // P9.1, P9.2, P9.3
	tags := map[int]byte{api.OBind: 97, api.OSearch: 101, api.OModify: 103, api.OAdd: 105, api.ODelete: 107, api.OMove: 109, api.OCompare: 111}
	for of := -2; of < 20; of++ {
		for _, code := range []int{0, api.True, api.Access, 127} {
			m := api.Msg{ID: 2, Op: api.OResult, Of: of, Code: code, Matched: "m"}
			if tag, ok := tags[of]; ok {
				told(t, m, by(48, 13, 2, 1, 2, tag, 8, 10, 1, byte(code), 4, 1, 'm', 4, 0))
			} else {
				noMessage(t, m, "Of")
			}
		}
	}
	for _, of := range []int{math.MinInt, math.MaxInt, api.OBind + 1<<32, api.OBind - 1<<32} {
		noMessage(t, api.Msg{Op: api.OResult, Of: of}, "Of")
	}
}

// filters are filters with their elements.
var filters = []struct {
	f    api.Filter
	want string
}{
	{and(), by(160, 0)},
	{or(), by(161, 0)},
	{and(present("a")), by(160, 3, 135, 1, 'a')},
	{or(present("a"), present("b")), by(161, 6, 135, 1, 'a', 135, 1, 'b')},
	{not(and()), by(162, 2, 160, 0)},
	{not(not(present("a"))), by(162, 5, 162, 3, 135, 1, 'a')},
	{equal("cn", "v"), by(163, 7, 4, 2, 'c', 'n', 4, 1, 'v')},
	{equal("cn", ""), by(163, 6, 4, 2, 'c', 'n', 4, 0)},
	{greater("cn", "v"), by(165, 7, 4, 2, 'c', 'n', 4, 1, 'v')},
	{less("cn", "v"), by(166, 7, 4, 2, 'c', 'n', 4, 1, 'v')},
	{present("cn"), by(135, 2, 'c', 'n')},
	{subs("cn", "a", "b"), by(164, 12, 4, 2, 'c', 'n', 48, 6, 128, 1, 'a', 130, 1, 'b')},
	{subs("cn", "a", ""), by(164, 9, 4, 2, 'c', 'n', 48, 3, 128, 1, 'a')},
	{subs("cn", "", "b"), by(164, 9, 4, 2, 'c', 'n', 48, 3, 130, 1, 'b')},
	{subs("cn", "a", "b", "c"), by(164, 15, 4, 2, 'c', 'n', 48, 9, 128, 1, 'a', 129, 1, 'b', 130, 1, 'c')},
	{subs("cn", "", "b", ""), by(164, 9, 4, 2, 'c', 'n', 48, 3, 129, 1, 'b')},
	{subs("cn", "", "b", "c", ""), by(164, 12, 4, 2, 'c', 'n', 48, 6, 129, 1, 'b', 129, 1, 'c')},
	{subs("cn", "a", "b", ""), by(164, 12, 4, 2, 'c', 'n', 48, 6, 128, 1, 'a', 129, 1, 'b')},
	{subs("cn", "", "b", "c"), by(164, 12, 4, 2, 'c', 'n', 48, 6, 129, 1, 'b', 130, 1, 'c')},
	{subs("cn", "\x00*", "\xff\\"), by(164, 14, 4, 2, 'c', 'n', 48, 8, 128, 2, 0, '*', 130, 2, 255, '\\')},
	{and(equal("sn", "("), not(subs("cn", "a", "")), or()), el(160, by(163, 7, 4, 2, 's', 'n', 4, 1, '('), el(162, by(164, 9, 4, 2, 'c', 'n', 48, 3, 128, 1, 'a')), by(161, 0))},
}

func TestFilters(t *testing.T) { // P9.2, P9.3
	for _, c := range filters {
		told(t, search(c.f), el(48, by(2, 1, 0), el(99, by(4, 0, 10, 1, 0, 10, 1, 0, 2, 1, 0, 2, 1, 0, 1, 1, 0), c.want, by(48, 0))))
	}
	long := strings.Repeat("v", api.MaxValue)
	for _, f := range []api.Filter{
		equal("abcdefghijklmnop", long), greater("a", long), less("a-1", long), subs("cn", long, long, long),
		subs("cn", append(slices.Repeat([]string{"v"}, api.MaxNodes-1), "")...), and(slices.Repeat([]api.Filter{or()}, api.MaxNodes-1)...),
	} {
		good(t, search(f))
	}
	for _, f := range []api.Filter{
		{}, {Kind: -1}, {Kind: 9}, not(), not(and(), and()), {Kind: api.FPresent}, present("CN"), present("a b"), equal("", "v"), equal("cn", long+"v"),
		subs("cn"), subs("cn", "a"), subs("cn", "", ""), subs("cn", "a", "", "b"), subs("cn", append(slices.Repeat([]string{"v"}, api.MaxNodes), "")...),
		and(slices.Repeat([]api.Filter{or()}, api.MaxNodes)...), within(api.MaxNodes, and()), within(1<<15, and()),
		{Kind: api.FPresent, Attr: "cn", Value: "v"}, {Kind: api.FAnd, Attr: "cn"}, {Kind: api.FEqual, Attr: "cn", Subs: []string{""}}, and(not(and(api.Filter{}))),
	} {
		noMessage(t, search(f), "a filter")
	}
}

// change tells m with one part of it changed.
func change(m api.Msg, do func(m *api.Msg)) api.Msg {
	do(&m)
	return m
}

// parts are the parts of a message, and which Ops have them.
var parts = []struct {
	name string
	ops  []int
	set  func(m *api.Msg)
}{
	{"Of", []int{api.OResult}, func(m *api.Msg) { m.Of = api.OSearch }},
	{"DN", []int{api.OBind, api.OSearch, api.OModify, api.OAdd, api.ODelete, api.OMove, api.OCompare, api.OEntry}, func(m *api.Msg) { m.DN = "o=q" }},
	{"Version", []int{api.OBind}, func(m *api.Msg) { m.Version = 2 }},
	{"Pass", []int{api.OBind}, func(m *api.Msg) { m.Pass = "q" }},
	{"Scope", []int{api.OSearch}, func(m *api.Msg) { m.Scope = api.SOne }},
	{"Size", []int{api.OSearch}, func(m *api.Msg) { m.Size = 1 }},
	{"Filter", []int{api.OSearch}, func(m *api.Msg) { m.Filter = equal("q", "q") }},
	{"Wants", []int{api.OSearch}, func(m *api.Msg) { m.Wants = []string{"q"} }},
	{"Wants of one empty", []int{api.OSearch}, func(m *api.Msg) { m.Wants = []string{""} }},
	{"Mods", []int{api.OModify, api.OAdd, api.OEntry}, func(m *api.Msg) { m.Mods = []api.Mod{mod(api.MAdd, "q", "q")} }},
	{"RDN", []int{api.OMove}, func(m *api.Msg) { m.RDN = "q=q" }},
	{"DelOld", []int{api.OMove}, func(m *api.Msg) { m.DelOld = true }},
	{"HasSup", []int{api.OMove}, func(m *api.Msg) { m.HasSup = true }},
	{"Sup", []int{api.OMove}, func(m *api.Msg) { m.HasSup, m.Sup = true, "q" }},
	{"Attr", []int{api.OCompare}, func(m *api.Msg) { m.Attr = "q" }},
	{"Value", []int{api.OCompare}, func(m *api.Msg) { m.Value = "q" }},
	{"Code", []int{api.OResult}, func(m *api.Msg) { m.Code = 1 }},
	{"Matched", []int{api.OResult}, func(m *api.Msg) { m.Matched = "q" }},
}

func TestParts(t *testing.T) { // P9.1
	for _, op := range ops() {
		m := opOf(op)
		good(t, m)
		for _, part := range parts {
			changed := change(m, part.set)
			if slices.Contains(part.ops, op) {
				good(t, changed)
			} else {
				noMessage(t, changed, part.name)
			}
		}
		for _, f := range []api.Filter{{Kind: -1}, {Kind: api.FAnd}, {Attr: "a"}, {Value: "v"}, {Subs: []string{""}}, {Kids: make([]api.Filter, 1)}} {
			if op != api.OSearch {
				noMessage(t, change(m, func(m *api.Msg) { m.Filter = f }), "a part of a filter")
			}
		}
		if op != api.OMove {
			noMessage(t, change(m, func(m *api.Msg) { m.Sup = "q" }), "Sup")
		}
		empty := change(m, func(m *api.Msg) { m.Filter.Subs, m.Filter.Kids = []string{}, []api.Filter{} })
		if m.Wants == nil {
			empty.Wants = []string{}
		}
		if m.Mods == nil {
			empty.Mods = make([]api.Mod, 0, 3)
		}
		if s, _ := msg.Encode(m); good(t, empty) != s { // a list without anything is as good as none
			t.Errorf("P9.2: %s: lists without anything", shape(empty))
		}
	}
	for _, op := range []int{0, -1, api.OEntry + 1, 77, math.MaxInt, math.MinInt, api.OUnbind + 1<<32, -api.OUnbind, 66} {
		noMessage(t, api.Msg{Op: op}, "no Op")
		noMessage(t, api.Msg{Op: op, DN: "cn=a"}, "no Op")
		noMessage(t, api.Msg{Op: op, Of: api.OBind}, "no Op")
	}
	noMessage(t, api.Msg{}, "no Op")
	noMessage(t, api.Msg{Op: api.OMove, Sup: "o=x"}, "Sup without HasSup")
	noMessage(t, api.Msg{Op: api.OMove, DN: "cn=a", RDN: "cn=b", DelOld: true, Sup: " "}, "Sup without HasSup")
	noMessage(t, api.Msg{Op: api.OSearch}, "no filter")
	noMessage(t, api.Msg{Op: api.OBind}, "no Version")
	noMessage(t, api.Msg{Op: api.OResult}, "no Of")
}

func TestNumbers(t *testing.T) { // P9.1, P9.2
	beyond := []int{math.MinInt, math.MinInt + 1, -1 << 32, -1 << 31, -129, -128, -127, -1, most + 1, 1<<32 - 1, 1 << 32, 1<<32 + 1, math.MaxInt - 1, math.MaxInt}
	for _, c := range []struct {
		name string
		op   int
		set  func(m *api.Msg, n int)
		low  int
		high int
	}{
		{"ID", api.OUnbind, func(m *api.Msg, n int) { m.ID = n }, 0, most},
		{"ID", api.OBind, func(m *api.Msg, n int) { m.ID = n }, 0, most},
		{"ID", api.OSearch, func(m *api.Msg, n int) { m.ID = n }, 0, most},
		{"ID", api.OResult, func(m *api.Msg, n int) { m.ID = n }, 0, most},
		{"Version", api.OBind, func(m *api.Msg, n int) { m.Version = n }, 1, 127},
		{"Scope", api.OSearch, func(m *api.Msg, n int) { m.Scope = n }, 0, 2},
		{"Size", api.OSearch, func(m *api.Msg, n int) { m.Size = n }, 0, most},
		{"Code", api.OResult, func(m *api.Msg, n int) { m.Code = n }, 0, 127},
	} {
		numbers := append([]int{0, 1, 2, 3, 4, 126, 127, 128, 129, 255, 256, 257, 32767, 32768, 65535, 65536, 1<<24 - 1, 1 << 24, most - 1, most}, beyond...)
		for _, n := range numbers {
			m := change(opOf(c.op), func(m *api.Msg) { c.set(m, n) })
			if c.low <= n && n <= c.high {
				if s := good(t, m); !strings.Contains(s, num(n)) {
					t.Errorf("P9.2: %s %d isn't in %v", c.name, n, []byte(s))
				}
			} else {
				noMessage(t, m, c.name)
			}
		}
	}
	for _, kind := range append([]int{0, 1, 2, 3, 4, 5}, beyond...) {
		for _, op := range []int{api.OModify, api.OAdd, api.OEntry} {
			m := api.Msg{Op: op, Mods: []api.Mod{mod(api.MAdd, "a"), mod(kind, "b", "c"), mod(api.MAdd, "d")}}
			if kind == api.MAdd || op == api.OModify && 1 <= kind && kind <= 3 {
				good(t, m)
			} else {
				noMessage(t, m, "a Mod's Kind")
			}
		}
	}
}

// places are where texts stand.
var places = []struct {
	name string
	op   int
	set  func(m *api.Msg, s string)
}{
	{"DN", api.OBind, func(m *api.Msg, s string) { m.DN = s }},
	{"DN", api.OSearch, func(m *api.Msg, s string) { m.DN = s }},
	{"DN", api.OModify, func(m *api.Msg, s string) { m.DN = s }},
	{"DN", api.OAdd, func(m *api.Msg, s string) { m.DN = s }},
	{"DN", api.ODelete, func(m *api.Msg, s string) { m.DN = s }},
	{"DN", api.OMove, func(m *api.Msg, s string) { m.DN = s }},
	{"DN", api.OCompare, func(m *api.Msg, s string) { m.DN = s }},
	{"DN", api.OEntry, func(m *api.Msg, s string) { m.DN = s }},
	{"Pass", api.OBind, func(m *api.Msg, s string) { m.Pass = s }},
	{"the first of Wants", api.OSearch, func(m *api.Msg, s string) { m.Wants = []string{s, "cn"} }},
	{"the last of Wants", api.OSearch, func(m *api.Msg, s string) { m.Wants = []string{"cn", s} }},
	{"a Mod's Attr", api.OModify, func(m *api.Msg, s string) { m.Mods = []api.Mod{mod(api.MDelete, s, "v"), mod(api.MReplace, "b")} }},
	{"a Mod's Attr", api.OAdd, func(m *api.Msg, s string) { m.Mods = []api.Mod{mod(api.MAdd, s, "v"), mod(api.MAdd, "b")} }},
	{"a Mod's Attr", api.OEntry, func(m *api.Msg, s string) { m.Mods = []api.Mod{mod(api.MAdd, "b"), mod(api.MAdd, s, "v")} }},
	{"a Mod's value", api.OModify, func(m *api.Msg, s string) { m.Mods = []api.Mod{mod(api.MDelete, "b", "v", s)} }},
	{"a Mod's value", api.OAdd, func(m *api.Msg, s string) { m.Mods = []api.Mod{mod(api.MAdd, "b", s, "v"), mod(api.MAdd, "b")} }},
	{"a Mod's value", api.OEntry, func(m *api.Msg, s string) { m.Mods = []api.Mod{mod(api.MAdd, "b"), mod(api.MAdd, "a", s)} }},
	{"RDN", api.OMove, func(m *api.Msg, s string) { m.RDN = s }},
	{"Sup", api.OMove, func(m *api.Msg, s string) { m.Sup = s }},
	{"Attr", api.OCompare, func(m *api.Msg, s string) { m.Attr = s }},
	{"Value", api.OCompare, func(m *api.Msg, s string) { m.Value = s }},
	{"Matched", api.OResult, func(m *api.Msg, s string) { m.Matched = s }},
}

func TestTexts(t *testing.T) { // P9.1, P9.2
	whole := make([]byte, 256)
	for i := range whole {
		whole[i] = byte(i)
	}
	for _, c := range places {
		for _, n := range []int{0, 1, 126, 127, 128, 255, 256, 399, 400, 401, 402, 4000, 1 << 16} {
			m := change(opOf(c.op), func(m *api.Msg) { c.set(m, strings.Repeat("x", n)) })
			if n <= 400 {
				good(t, m)
			} else {
				noMessage(t, m, c.name)
			}
		}
		for _, s := range []string{string(whole), "\x00", "\xff\xfe", " ", "*", "ä", "\U0001f600"} { // any bytes
			if told := good(t, change(opOf(c.op), func(m *api.Msg) { c.set(m, s) })); !strings.Contains(told, s) {
				t.Errorf("P9.2: %s of %q isn't in %q", c.name, s, told)
			}
		}
	}
}

func TestLists(t *testing.T) { // P9.1
	for _, n := range []int{0, 1, 11, 12, 13, 14, 1000} {
		wants := slices.Repeat([]string{"a"}, n)
		values := slices.Repeat([]string{"v"}, n)
		mods := slices.Repeat([]api.Mod{mod(api.MAdd, "a", "v")}, n)
		for _, m := range []api.Msg{
			{Op: api.OSearch, Filter: and(), Wants: wants},
			{Op: api.OModify, Mods: mods},
			{Op: api.OAdd, Mods: mods},
			{Op: api.OEntry, Mods: mods},
			{Op: api.OModify, Mods: []api.Mod{mod(api.MAdd, "b"), mod(api.MReplace, "a", values...)}},
			{Op: api.OAdd, Mods: []api.Mod{mod(api.MAdd, "a", values...), mod(api.MAdd, "b", values...)}},
			{Op: api.OEntry, Mods: []api.Mod{mod(api.MAdd, "b"), mod(api.MAdd, "a", values...)}},
		} {
			if n <= 12 {
				good(t, m)
			} else {
				noMessage(t, m, fmt.Sprintf("%d of a list", n))
			}
		}
	}
	full := api.Msg{ID: most, Op: api.OModify, DN: "o=x", Mods: slices.Repeat([]api.Mod{mod(api.MReplace, "description", slices.Repeat([]string{"value"}, 12)...)}, 12)}
	good(t, full)
	empty := api.Msg{Op: api.OModify, Mods: slices.Repeat([]api.Mod{mod(api.MDelete, "", slices.Repeat([]string{""}, 12)...)}, 12)}
	good(t, empty)
}

// sized makes messages of each kind of n bytes in all.
func sized(n int) []api.Msg {
	var l []api.Msg
	pad := func(make func(texts []string) api.Msg) {
		texts := slices.Repeat([]string{""}, 12)
		for i := range texts { // a text more at a time, until they are enough
			for size := 400; size >= 0; size-- {
				texts[i] = strings.Repeat("x", size)
				s, err := ber.Write(element(make(texts)))
				if err == api.OK && len(s) == n {
					l = append(l, make(slices.Clone(texts)))
					return
				}
				if size == 400 && err == api.OK && len(s) < n {
					break
				}
			}
		}
	}
	pad(func(texts []string) api.Msg { return api.Msg{Op: api.OSearch, Filter: present("cn"), Wants: texts} })
	pad(func(texts []string) api.Msg { // lengths at which a byte of length is added
		for i, n := range []int{127, 128, 255, 256} {
			texts[8+i] = strings.Repeat("y", n)
		}
		return api.Msg{Op: api.OSearch, Filter: present("cn"), Wants: texts}
	})
	pad(func(texts []string) api.Msg {
		return api.Msg{ID: 300, Op: api.OModify, DN: "o=x", Mods: []api.Mod{mod(api.MReplace, "a", texts...)}}
	})
	pad(func(texts []string) api.Msg {
		return api.Msg{ID: 1, Op: api.OAdd, Mods: []api.Mod{mod(api.MAdd, "a", texts[:6]...), mod(api.MAdd, "b", texts[6:]...)}}
	})
	pad(func(texts []string) api.Msg {
		return api.Msg{ID: most, Op: api.OEntry, DN: "cn=a", Mods: []api.Mod{mod(api.MAdd, "a"), mod(api.MAdd, "b", texts...)}}
	})
	return l
}

// element tells the element of an OSearch for an FPresent, an OModify, an OAdd, an OEntry.
func element(m api.Msg) api.Element {
	text := func(tag byte, s string) api.Element { return api.Element{Tag: tag, Body: s} }
	list := func(tag byte, l ...api.Element) api.Element { return api.Element{Tag: tag, Kids: l} }
	texts := func(tag byte, l []string) api.Element {
		e := list(tag)
		for _, s := range l {
			e.Kids = append(e.Kids, text(4, s))
		}
		return e
	}
	o := list(99, text(4, m.DN))
	if m.Op == api.OSearch {
		o.Kids = append(o.Kids, text(10, num(m.Scope)), text(10, "\x00"), text(2, num(m.Size)), text(2, "\x00"), text(1, "\x00"), text(135, m.Filter.Attr), texts(48, m.Wants))
	} else {
		o.Tag = map[int]byte{api.OModify: 102, api.OAdd: 104, api.OEntry: 100}[m.Op]
		mods := list(48)
		for _, d := range m.Mods {
			e := list(48, text(4, d.Attr), texts(49, d.Values))
			if m.Op == api.OModify {
				e = list(48, text(10, num(d.Kind-1)), e)
			}
			mods.Kids = append(mods.Kids, e)
		}
		o.Kids = append(o.Kids, mods)
	}
	return list(48, text(2, num(m.ID)), o)
}

func TestSize(t *testing.T) { // P9.2, P9.3
	for _, n := range []int{1100, 2500, api.MaxSize - 2, api.MaxSize - 1, api.MaxSize, api.MaxSize + 1, api.MaxSize + 2, api.MaxSize + 3, api.MaxSize + 4} {
		l := sized(n)
		if len(l) != 5 {
			t.Fatalf("%d messages of %d bytes", len(l), n)
		}
		for _, m := range l {
			s, werr := ber.Write(element(m))
			if werr != api.OK || len(s) != n {
				t.Fatalf("%d bytes, %v", len(s), werr)
			}
			if n <= api.MaxSize {
				told(t, m, s)
				continue
			}
			if !msg.Is(m) {
				t.Errorf("P9.1: one of %d bytes is no message", n)
			}
			if got, err := msg.Encode(m); err != api.ErrLarge || got != "" {
				t.Errorf("P9.2: one of %d bytes: %d bytes, %v", n, len(got), err)
			}
			refused(t, s, api.ErrForm, "too long a message") // ber's Read takes it
		}
	}
	long := strings.Repeat("x", 400)
	for _, m := range []api.Msg{
		{Op: api.OSearch, Filter: and(), Wants: slices.Repeat([]string{long}, 12)},
		{Op: api.OModify, Mods: slices.Repeat([]api.Mod{mod(api.MReplace, long, slices.Repeat([]string{long}, 12)...)}, 12)},
		{Op: api.OAdd, DN: long, Mods: slices.Repeat([]api.Mod{mod(api.MAdd, long, slices.Repeat([]string{long}, 12)...)}, 12)},
		{Op: api.OEntry, Mods: []api.Mod{mod(api.MAdd, "a", slices.Repeat([]string{long}, 12)...)}},
	} {
		if s, err := msg.Encode(m); !msg.Is(m) || err != api.ErrLarge || s != "" {
			t.Errorf("P9.2: large: %v, %d bytes, %v", msg.Is(m), len(s), err)
		}
		noMessage(t, change(m, func(m *api.Msg) { m.ID = -1 }), "ErrForm comes ahead of ErrLarge")
		noMessage(t, change(m, func(m *api.Msg) { m.DN = long + "x" }), "ErrForm comes ahead of ErrLarge")
		noMessage(t, change(m, func(m *api.Msg) { m.Code = 1 }), "ErrForm comes ahead of ErrLarge")
	}
}

func TestDeep(t *testing.T) { // P9.2, P9.3
	long := slices.Repeat([]string{strings.Repeat("x", 400)}, 12)
	for _, c := range []struct {
		f     api.Filter
		depth int // of f's element
	}{{present("a"), 1}, {and(), 1}, {or(), 1}, {equal("a", "b"), 2}, {greater("a", ""), 2}, {less("a", "b"), 2}, {or(present("a")), 2}, {subs("a", "b", ""), 3}, {subs("a", "", "b", "c"), 3}} {
		for n := range api.MaxNodes - filter.Count(c.f) + 1 {
			m := search(within(n, c.f))
			if n+c.depth+2 <= api.MaxDepth { // in the message's and the operation's
				good(t, m)
			} else if s, err := msg.Encode(m); !msg.Is(m) || err != api.ErrDeep || s != "" {
				t.Errorf("P9.2: %s in %d: %v, %d bytes, %v", filter.Print(c.f), n, msg.Is(m), len(s), err)
			}
			m.Wants = long
			if got := fault(m); got != api.ErrLarge { // it comes ahead of what Write tells
				t.Errorf("P9.2: long, %s in %d: %v", filter.Print(c.f), n, got)
			}
			m.Version = 1
			noMessage(t, m, "ErrForm comes ahead of ErrDeep")
		}
	}
}

// TestDeepEdge: of one that is too deep, too, ErrLarge is told just if it is longer than MaxSize.
func TestDeepEdge(t *testing.T) { // P9.2
	f := within(18, present("a"))
	bytes := by(135, 1, 'a')
	for range 18 {
		bytes = el(162, bytes)
	}
	wants := slices.Repeat([]string{strings.Repeat("x", 400)}, 10)
	asked := map[api.Errno]int{}
	for n := range 401 {
		wants[9] = strings.Repeat("x", n)
		texts := ""
		for _, s := range wants {
			texts += el(4, s)
		}
		size := len(el(48, by(2, 1, 0), el(99, by(4, 0, 10, 1, 0, 10, 1, 0, 2, 1, 0, 2, 1, 0, 1, 1, 0), bytes, el(48, texts))))
		want := api.ErrDeep
		if size > api.MaxSize {
			want = api.ErrLarge
		}
		asked[want]++
		m := search(f)
		m.Wants = wants
		if got := fault(m); got != want {
			t.Errorf("P9.2: %d bytes: %v; want %v", size, got, want)
		}
	}
	if asked[api.ErrDeep] == 0 || asked[api.ErrLarge] == 0 {
		t.Errorf("of one kind alone: %v", asked)
	}
}

// whole are messages for their bytes to be spoilt.
func whole() []api.Msg {
	l := []api.Msg{{Op: api.OUnbind, ID: 128}, {Op: api.OUnbind, ID: most}, {Op: api.OMove, DN: "a", RDN: "b"}, {Op: api.OMove, HasSup: true}, {Op: api.ODelete}, {Op: api.OAdd}, {Op: api.OBind, Version: 127}}
	for _, op := range ops() {
		l = append(l, opOf(op))
	}
	for of := api.OSearch; of <= api.OCompare; of++ {
		l = append(l, api.Msg{Op: api.OResult, Of: of, Code: of, Matched: strings.Repeat("x", of*40)})
	}
	for _, c := range filters {
		l = append(l, search(c.f))
	}
	return append(l, api.Msg{Op: api.OSearch, Size: 1 << 20, DN: strings.Repeat("x", 130), Filter: within(15, equal("a", strings.Repeat("v", 60))), Wants: slices.Repeat([]string{strings.Repeat("w", 140)}, 3)})
}

// judged asks whether what Decode tells of s is as Encode and ber's Read say.
func judged(t *testing.T, s, what string) {
	t.Helper()
	m, err := msg.Decode(s)
	if err == api.OK {
		if told, err := msg.Encode(m); told != s || err != api.OK {
			t.Errorf("P9.3: %s: %.100v is read as %.300s", what, []byte(s), shape(m))
		}
		return
	}
	_, _, _, want := ber.Read(s)
	if want == api.OK {
		want = api.ErrForm
	}
	refused(t, s, want, what)
}

func TestSpoilt(t *testing.T) { // P9.3
	for _, m := range whole() {
		s, err := msg.Encode(m)
		if err != api.OK || !msg.Is(m) {
			t.Fatalf("P9.2: %s: %v", shape(m), err)
		}
		for n := range s {
			refused(t, s[:n], api.ErrShort, "cut off")
		}
		for c := range 256 {
			refused(t, s+by(byte(c)), api.ErrForm, "one more behind")
		}
		refused(t, s+s, api.ErrForm, "twice")
		refused(t, s+strings.Repeat("\x00", 5000), api.ErrForm, "much behind")
		for i := range s {
			for c := range 256 {
				if turned := byte(c) ^ s[i]; len(s) < 80 || turned&(turned-1) == 0 { // of a long message, a bit alone
					judged(t, s[:i]+by(byte(c))+s[i+1:], "one byte turned")
				}
			}
			judged(t, s[:i]+s[i+1:], "a byte less")
			judged(t, s[:i]+by(s[i], s[i])+s[i+1:], "a byte doubled")
			judged(t, s[:i]+by(0)+s[i:], "a byte more")
		}
	}
}

// TestReadErrors: what ber's Read tells is told, whatever else is wrong.
func TestReadErrors(t *testing.T) { // P9.3
	deep := by(5, 0)
	for range api.MaxDepth {
		deep = el(48, deep)
	}
	for _, c := range []struct {
		s    string
		want api.Errno
	}{
		{"", api.ErrShort},
		{by(48), api.ErrShort},
		{by(48, 5, 2, 1, 1, 66), api.ErrShort},
		{by(48, 130, 1), api.ErrShort},
		{by(31, 0), api.ErrForm},
		{by(48, 128, 2, 1, 1, 66, 0, 0, 0), api.ErrLength},
		{by(48, 133, 0, 0, 0, 0, 5, 2, 1, 1, 66, 0), api.ErrLength},
		{by(48, 5, 2, 1, 1, 66, 1), api.ErrLength},
		{by(48, 5, 2, 1, 1, 66, 1, 0), api.ErrLength},
		{by(48, 4, 2, 1, 1, 66, 0), api.ErrLength},
		{by(48, 130, 15, 161), api.ErrLarge},
		{by(48, 132, 127, 255, 255, 255, 2, 1, 1), api.ErrLarge},
		{by(48, 132, 255, 255, 255, 255), api.ErrLarge},
		{by(48, 5, 2, 1, 1, 63, 0), api.ErrForm},
		{deep, api.ErrDeep},
		{el(48, by(2, 1, 1), deep), api.ErrDeep},
	} {
		refused(t, c.s, c.want, "Read's error")
	}
}

// TestOtherwise: bytes that say what a message says, but not as Encode does.
func TestOtherwise(t *testing.T) { // P9.3
	id := by(2, 1, 7)
	name := by(4, 4, 'c', 'n', '=', 'a')
	bind := func(l ...string) string { return el(48, id, el(96, l...)) }
	find := func(l ...string) string { return el(48, id, el(99, l...)) }
	head := by(4, 0, 10, 1, 0, 10, 1, 0, 2, 1, 0, 2, 1, 0, 1, 1, 0)
	if m, err := msg.Decode(bind(by(2, 1, 3), name, by(128, 0))); err != api.OK || m.Version != 3 {
		t.Fatalf("P9.3: %v", err)
	}
	if m, err := msg.Decode(find(head, by(135, 1, 'a', 48, 0))); err != api.OK || m.Filter.Kind != api.FPresent {
		t.Fatalf("P9.3: %v", err)
	}
	for what, s := range map[string]string{
		"a longer length":                by(48, 129, 5, 2, 1, 1, 66, 0),
		"a longer length of four bytes":  by(48, 132, 0, 0, 0, 5, 2, 1, 1, 66, 0),
		"a longer length within":         by(48, 6, 2, 129, 1, 1, 66, 0),
		"a longer length of nothing":     by(48, 6, 2, 1, 1, 66, 129, 0),
		"an ID with a byte more":         by(48, 6, 2, 2, 0, 1, 66, 0),
		"an ID with two bytes more":      by(48, 7, 2, 3, 0, 0, 1, 66, 0),
		"an ID of no byte":               by(48, 4, 2, 0, 66, 0),
		"an ID below 0":                  by(48, 5, 2, 1, 255, 66, 0),
		"an ID of 2147483648":            by(48, 9, 2, 5, 0, 128, 0, 0, 0, 66, 0),
		"an ID of 2 to the 32, and 1":    by(48, 9, 2, 5, 1, 0, 0, 0, 1, 66, 0),
		"an ID of 2 to the 64, and 1":    by(48, 13, 2, 9, 1, 0, 0, 0, 0, 0, 0, 0, 1, 66, 0),
		"an ID that is a text":           by(48, 5, 4, 1, 1, 66, 0),
		"an ID that is enumerated":       by(48, 5, 10, 1, 1, 66, 0),
		"a set":                          by(49, 5, 2, 1, 1, 66, 0),
		"a text":                         by(4, 5, 2, 1, 1, 66, 0),
		"another class":                  by(112, 5, 2, 1, 1, 66, 0),
		"an operation of another class":  by(48, 5, 2, 1, 1, 2, 0),
		"an operation that holds others": by(48, 5, 2, 1, 1, 98, 0),
		"another tag":                    by(48, 5, 2, 1, 1, 67, 0),
		"a tag of 0":                     by(48, 5, 2, 1, 1, 0, 0),
		"an OUnbind with a body":         by(48, 6, 2, 1, 1, 66, 1, 0),
		"nothing":                        by(48, 0),
		"no operation":                   by(48, 3, 2, 1, 1),
		"no ID":                          by(48, 2, 66, 0),
		"the operation first":            by(48, 5, 66, 0, 2, 1, 1),
		"two operations":                 by(48, 7, 2, 1, 1, 66, 0, 66, 0),
		"something behind it":            by(48, 7, 2, 1, 1, 66, 0, 160, 0),
		"an element that isn't one":      by(66, 0),

		"a DN first":               bind(name, by(2, 1, 3), by(128, 0)),
		"a Pass ahead of the DN":   bind(by(2, 1, 3), by(128, 0), name),
		"a Pass of another class":  bind(by(2, 1, 3), name, by(4, 0)),
		"a Pass that holds others": bind(by(2, 1, 3), name, by(160, 0)),
		"another way to bind":      bind(by(2, 1, 3), name, by(163, 2, 4, 0)),
		"no Pass":                  bind(by(2, 1, 3), name),
		"two Passes":               bind(by(2, 1, 3), name, by(128, 0), by(128, 0)),
		"a Version of 0":           bind(by(2, 1, 0), name, by(128, 0)),
		"a Version of 128":         bind(by(2, 2, 0, 128), name, by(128, 0)),
		"a Version below 0":        bind(by(2, 1, 253), name, by(128, 0)),
		"a DN of 401 bytes":        bind(by(2, 1, 3), el(4, strings.Repeat("x", 401)), by(128, 0)),
		"a Version with more":      bind(by(2, 2, 0, 3), name, by(128, 0)),

		"aliases":                   find(by(4, 0, 10, 1, 0, 10, 1, 3, 2, 1, 0, 2, 1, 0, 1, 1, 0, 135, 1, 'a', 48, 0)),
		"a time":                    find(by(4, 0, 10, 1, 0, 10, 1, 0, 2, 1, 0, 2, 1, 5, 1, 1, 0, 135, 1, 'a', 48, 0)),
		"types only":                find(by(4, 0, 10, 1, 0, 10, 1, 0, 2, 1, 0, 2, 1, 0, 1, 1, 255, 135, 1, 'a', 48, 0)),
		"a Scope of 3":              find(by(4, 0, 10, 1, 3, 10, 1, 0, 2, 1, 0, 2, 1, 0, 1, 1, 0, 135, 1, 'a', 48, 0)),
		"a Size below 0":            find(by(4, 0, 10, 1, 0, 10, 1, 0, 2, 1, 255, 2, 1, 0, 1, 1, 0, 135, 1, 'a', 48, 0)),
		"a Size of 2147483648":      find(by(4, 0, 10, 1, 0, 10, 1, 0, 2, 5, 0, 128, 0, 0, 0, 2, 1, 0, 1, 1, 0, 135, 1, 'a', 48, 0)),
		"a Scope that is a number":  find(by(4, 0, 2, 1, 0, 10, 1, 0, 2, 1, 0, 2, 1, 0, 1, 1, 0, 135, 1, 'a', 48, 0)),
		"a Size that is enumerated": find(by(4, 0, 10, 1, 0, 10, 1, 0, 10, 1, 0, 2, 1, 0, 1, 1, 0, 135, 1, 'a', 48, 0)),
		"a flag of two bytes":       find(by(4, 0, 10, 1, 0, 10, 1, 0, 2, 1, 0, 2, 1, 0, 1, 2, 0, 0, 135, 1, 'a', 48, 0)),
		"a flag of none":            find(by(4, 0, 10, 1, 0, 10, 1, 0, 2, 1, 0, 2, 1, 0, 1, 0, 135, 1, 'a', 48, 0)),
		"no Wants":                  find(head, by(135, 1, 'a')),
		"Wants ahead of the filter": find(head, by(48, 0, 135, 1, 'a')),
		"Wants in a set":            find(head, by(135, 1, 'a', 49, 0)),
		"Wants of another tag":      find(head, by(135, 1, 'a', 48, 3, 128, 1, 'a')),
		"Wants in Wants":            find(head, by(135, 1, 'a', 48, 2, 48, 0)),
		"13 Wants":                  find(head, by(135, 1, 'a'), el(48, strings.Repeat(by(4, 0), 13))),
		"something behind Wants":    find(head, by(135, 1, 'a', 48, 0, 4, 0)),
		"no filter":                 find(head, by(48, 0)),

		"a filter's tag that is none":      find(head, by(167, 0, 48, 0)),
		"a filter's tag that is a text's":  find(head, by(4, 1, 'a', 48, 0)),
		"a filter's tag that has no kids":  find(head, by(128, 0, 48, 0)),
		"an FPresent with a list":          find(head, by(167, 3, 4, 1, 'a', 48, 0)),
		"an FPresent without Attr":         find(head, by(135, 0, 48, 0)),
		"an FPresent of CN":                find(head, by(135, 2, 'C', 'N', 48, 0)),
		"an FNot of none":                  find(head, by(162, 0, 48, 0)),
		"an FNot of two":                   find(head, by(162, 4, 160, 0, 160, 0, 48, 0)),
		"an FEqual without Value":          find(head, by(163, 3, 4, 1, 'a', 48, 0)),
		"an FEqual with more":              find(head, by(163, 8, 4, 1, 'a', 4, 1, 'b', 4, 0, 48, 0)),
		"an FEqual of another tag":         find(head, by(163, 6, 4, 1, 'a', 2, 1, 'b', 48, 0)),
		"an FEqual of too long a Value":    find(head, el(163, by(4, 1, 'a'), el(4, strings.Repeat("v", 61))), by(48, 0)),
		"an FSubs without parts":           find(head, by(164, 5, 4, 1, 'a', 48, 0, 48, 0)),
		"an FSubs without a list":          find(head, by(164, 3, 4, 1, 'a', 48, 0)),
		"an FSubs with an empty first":     find(head, by(164, 10, 4, 1, 'a', 48, 5, 128, 0, 130, 1, 'b', 48, 0)),
		"an FSubs with an empty last":      find(head, by(164, 10, 4, 1, 'a', 48, 5, 128, 1, 'b', 130, 0, 48, 0)),
		"an FSubs with an empty between":   find(head, by(164, 10, 4, 1, 'a', 48, 5, 128, 1, 'b', 129, 0, 48, 0)),
		"an FSubs of empty ones":           find(head, by(164, 9, 4, 1, 'a', 48, 4, 128, 0, 130, 0, 48, 0)),
		"an FSubs with the last first":     find(head, by(164, 11, 4, 1, 'a', 48, 6, 130, 1, 'b', 128, 1, 'c', 48, 0)),
		"an FSubs with the first between":  find(head, by(164, 11, 4, 1, 'a', 48, 6, 129, 1, 'b', 128, 1, 'c', 48, 0)),
		"an FSubs with two first ones":     find(head, by(164, 11, 4, 1, 'a', 48, 6, 128, 1, 'b', 128, 1, 'c', 48, 0)),
		"an FSubs with two last ones":      find(head, by(164, 11, 4, 1, 'a', 48, 6, 130, 1, 'b', 130, 1, 'c', 48, 0)),
		"an FSubs with a part of no place": find(head, by(164, 11, 4, 1, 'a', 48, 6, 128, 1, 'b', 131, 1, 'c', 48, 0)),
		"an FSubs in a set":                find(head, by(164, 8, 4, 1, 'a', 49, 3, 128, 1, 'b', 48, 0)),
		"a filter in many":                 find(head, el(160, strings.Repeat(by(160, 0), 20)), by(48, 0)),
		"a filter within that is none":     find(head, by(160, 2, 167, 0, 48, 0)),

		"a Mod of Kind 3":              el(48, id, el(102, name, by(48, 11, 48, 9, 10, 1, 3, 48, 4, 4, 0, 49, 0))),
		"a Mod of Kind -1":             el(48, id, el(102, name, by(48, 11, 48, 9, 10, 1, 255, 48, 4, 4, 0, 49, 0))),
		"a Mod of the greatest Kind":   el(48, id, el(102, name, el(48, el(48, by(10, 8, 127, 255, 255, 255, 255, 255, 255, 255, 48, 4, 4, 0, 49, 0))))),
		"a Mod's Kind that is none":    el(48, id, el(102, name, by(48, 11, 48, 9, 2, 1, 0, 48, 4, 4, 0, 49, 0))),
		"a Mod without Kind":           el(48, id, el(102, name, by(48, 8, 48, 6, 48, 4, 4, 0, 49, 0))),
		"a Mod's Kind last":            el(48, id, el(102, name, by(48, 11, 48, 9, 48, 4, 4, 0, 49, 0, 10, 1, 0))),
		"a Mod's Values in a sequence": el(48, id, el(102, name, by(48, 11, 48, 9, 10, 1, 0, 48, 4, 4, 0, 48, 0))),
		"a Mod without Values":         el(48, id, el(102, name, by(48, 9, 48, 7, 10, 1, 0, 48, 2, 4, 0))),
		"a Mod's Values first":         el(48, id, el(102, name, by(48, 11, 48, 9, 10, 1, 0, 48, 4, 49, 0, 4, 0))),
		"Mods in a set":                el(48, id, el(102, name, by(49, 0))),
		"no Mods":                      el(48, id, el(102, name)),
		"Mods ahead of the DN":         el(48, id, el(102, by(48, 0), name)),
		"13 Mods":                      el(48, id, el(102, name, el(48, strings.Repeat(by(48, 9, 10, 1, 0, 48, 4, 4, 0, 49, 0), 13)))),
		"13 Values":                    el(48, id, el(102, name, el(48, el(48, by(10, 1, 0), el(48, by(4, 0), el(49, strings.Repeat(by(4, 0), 13))))))),
		"an OAdd's Kind":               el(48, id, el(104, name, by(48, 11, 48, 9, 10, 1, 0, 48, 4, 4, 0, 49, 0))),
		"an OAdd's Values in none":     el(48, id, el(104, name, by(48, 4, 48, 2, 4, 0))),
		"13 Mods of an OEntry":         el(48, id, el(100, name, el(48, strings.Repeat(by(48, 4, 4, 0, 49, 0), 13)))),
		"an OEntry without Mods":       el(48, id, el(100, name)),

		"an ODelete that holds others": el(48, id, el(106, name)),
		"an ODelete of 401 bytes":      el(48, id, el(74, strings.Repeat("x", 401))),

		"a flag of 1":           el(48, id, el(108, name, by(4, 0, 1, 1, 1))),
		"a flag of 254":         el(48, id, el(108, name, by(4, 0, 1, 1, 254, 128, 0))),
		"an OMove's empty flag": el(48, id, el(108, name, by(4, 0, 1, 0))),
		"an OMove without flag": el(48, id, el(108, name, by(4, 0))),
		"a Sup of another tag":  el(48, id, el(108, name, by(4, 0, 1, 1, 0, 4, 0))),
		"two Sups":              el(48, id, el(108, name, by(4, 0, 1, 1, 0, 128, 0, 128, 0))),
		"a Sup first":           el(48, id, el(108, by(128, 0), name, by(4, 0, 1, 1, 0))),

		"an OCompare without a sequence": el(48, id, el(110, name, by(4, 0, 4, 0))),
		"an OCompare in a set":           el(48, id, el(110, name, by(49, 4, 4, 0, 4, 0))),
		"an OCompare without Value":      el(48, id, el(110, name, by(48, 2, 4, 0))),
		"an OCompare with more":          el(48, id, el(110, name, by(48, 6, 4, 0, 4, 0, 4, 0))),

		"a Code of 128":             el(48, id, el(97, by(10, 2, 0, 128, 4, 0, 4, 0))),
		"a Code below 0":            el(48, id, el(97, by(10, 1, 128, 4, 0, 4, 0))),
		"a Code that is a number":   el(48, id, el(97, by(2, 1, 0, 4, 0, 4, 0))),
		"what it says":              el(48, id, el(97, by(10, 1, 0, 4, 0, 4, 1, 'x'))),
		"a result that says less":   el(48, id, el(97, by(10, 1, 0, 4, 0))),
		"a result that says more":   el(48, id, el(97, by(10, 1, 0, 4, 0, 4, 0, 163, 0))),
		"a result of OUnbind":       el(48, id, el(98, by(10, 1, 0, 4, 0, 4, 0))),
		"a result that is no list":  el(48, id, el(65, by(10, 1, 0, 4, 0, 4, 0))),
		"a result of what isn't":    el(48, id, el(113, by(10, 1, 0, 4, 0, 4, 0))),
		"a search's other result":   el(48, id, el(115, by(4, 0))),
		"a Matched of 401 bytes":    el(48, id, el(97, by(10, 1, 0), el(4, strings.Repeat("x", 401)), by(4, 0))),
		"a Matched of another tag":  el(48, id, el(97, by(10, 1, 0, 128, 0, 4, 0))),
		"a result's text of a Pass": el(48, id, el(97, by(10, 1, 0, 4, 0, 128, 0))),
	} {
		refused(t, s, api.ErrForm, what)
	}
}

// TestNoOperation: tags of no operation, with all that operations have.
func TestNoOperation(t *testing.T) { // P9.3
	tags := map[byte]int{96: api.OBind, 66: api.OUnbind, 99: api.OSearch, 102: api.OModify, 104: api.OAdd, 74: api.ODelete, 108: api.OMove, 110: api.OCompare, 100: api.OEntry}
	for _, tag := range []byte{97, 101, 103, 105, 107, 109, 111} {
		tags[tag] = api.OResult
	}
	for _, op := range ops() {
		s, _ := msg.Encode(opOf(op))
		at := 5 // behind the message's head and the ID's element
		for c := range 256 {
			turned := s[:at] + by(byte(c)) + s[at+1:]
			m, err := msg.Decode(turned)
			like := op == api.OAdd || op == api.OEntry
			switch {
			case byte(c) == s[at]:
				if err != api.OK || m.Op != op {
					t.Errorf("P9.3: tag %d: %d, %v", c, m.Op, err)
				}
			case op == api.OResult && tags[byte(c)] == api.OResult, like && (c == 104 || c == 100), c == 74: // of an ODelete's bytes none are wrong
				if err != api.OK || m.Op != tags[byte(c)] {
					t.Errorf("P9.3: tag %d for %d: %d, %v", c, s[at], m.Op, err)
				}
			default:
				if err == api.OK {
					t.Errorf("P9.3: tag %d for %d is read as %s", c, s[at], shape(m))
				}
			}
		}
	}
}

// others tells messages that differ from m in one part each.
func others(m api.Msg) []api.Msg {
	var l []api.Msg
	for _, n := range []func(m *api.Msg) *int{
		func(m *api.Msg) *int { return &m.ID }, func(m *api.Msg) *int { return &m.Op }, func(m *api.Msg) *int { return &m.Of }, func(m *api.Msg) *int { return &m.Version },
		func(m *api.Msg) *int { return &m.Scope }, func(m *api.Msg) *int { return &m.Size }, func(m *api.Msg) *int { return &m.Code }, func(m *api.Msg) *int { return &m.Filter.Kind },
	} {
		l = append(l, change(m, func(m *api.Msg) { *n(m)++ }), change(m, func(m *api.Msg) { *n(m) -= 1 << 32 }), change(m, func(m *api.Msg) { *n(m) = -1 - *n(m) }))
	}
	for _, s := range []func(m *api.Msg) *string{
		func(m *api.Msg) *string { return &m.DN }, func(m *api.Msg) *string { return &m.Pass }, func(m *api.Msg) *string { return &m.RDN }, func(m *api.Msg) *string { return &m.Sup },
		func(m *api.Msg) *string { return &m.Attr }, func(m *api.Msg) *string { return &m.Value }, func(m *api.Msg) *string { return &m.Matched },
		func(m *api.Msg) *string { return &m.Filter.Attr }, func(m *api.Msg) *string { return &m.Filter.Value },
	} {
		l = append(l, change(m, func(m *api.Msg) { *s(m) += "x" }), change(m, func(m *api.Msg) { *s(m) = "\x00" + *s(m) }))
	}
	l = append(l,
		change(m, func(m *api.Msg) { m.DelOld = !m.DelOld }), change(m, func(m *api.Msg) { m.HasSup = !m.HasSup }),
		change(m, func(m *api.Msg) { m.Filter.Subs = append(slices.Clone(m.Filter.Subs), "") }),
		change(m, func(m *api.Msg) { m.Filter.Kids = append(slices.Clone(m.Filter.Kids), api.Filter{}) }),
		change(m, func(m *api.Msg) { m.Wants = append(slices.Clone(m.Wants), "") }),
		change(m, func(m *api.Msg) { m.Wants = append([]string{"x"}, m.Wants...) }),
		change(m, func(m *api.Msg) { m.Mods = append(slices.Clone(m.Mods), api.Mod{}) }),
		change(m, func(m *api.Msg) { m.Mods = append([]api.Mod{mod(1, "a")}, m.Mods...) }))
	for i := range m.Wants {
		l = append(l, change(m, func(m *api.Msg) { m.Wants = slices.Delete(slices.Clone(m.Wants), i, i+1) }))
		l = append(l, change(m, func(m *api.Msg) { m.Wants = slices.Clone(m.Wants); m.Wants[i] += " " }))
	}
	for i := range m.Mods {
		other := func(do func(d *api.Mod)) {
			l = append(l, change(m, func(m *api.Msg) {
				m.Mods = slices.Clone(m.Mods)
				m.Mods[i].Values = slices.Clone(m.Mods[i].Values)
				do(&m.Mods[i])
			}))
		}
		l = append(l, change(m, func(m *api.Msg) { m.Mods = slices.Delete(slices.Clone(m.Mods), i, i+1) }))
		other(func(d *api.Mod) { d.Kind++ })
		other(func(d *api.Mod) { d.Attr += "x" })
		other(func(d *api.Mod) { d.Values = append(d.Values, "") })
		for j := range m.Mods[i].Values {
			other(func(d *api.Mod) { d.Values[j] += "x" })
			other(func(d *api.Mod) { d.Values = slices.Delete(d.Values, j, j+1) })
		}
	}
	return l
}

func TestSame(t *testing.T) { // P9.3
	full := api.Msg{ID: 1, Op: 2, Of: 3, DN: "a", Version: 4, Pass: "b", Scope: 5, Size: 6, Filter: and(equal("c", "d"), subs("e", "f", "")), Wants: []string{"g", "h"}, Mods: []api.Mod{mod(1, "i", "j", "k"), mod(2, "l")}, RDN: "m", DelOld: true, HasSup: true, Sup: "n", Attr: "o", Value: "p", Code: 7, Matched: "q"}
	l := []api.Msg{{}, full, search(within(3, subs("a", "b", "c")))} // such as are no messages, too
	for _, op := range ops() {
		l = append(l, opOf(op))
	}
	for i, m := range l {
		empty := change(m, func(m *api.Msg) {
			m.Wants = append(make([]string, 0, 3), m.Wants...)
			m.Mods = append(make([]api.Mod, 0, 3), m.Mods...)
			m.Filter.Subs = append(make([]string, 0, 3), m.Filter.Subs...)
			m.Filter.Kids = append(make([]api.Filter, 0, 3), m.Filter.Kids...)
			for i := range m.Mods {
				m.Mods[i].Values = append(make([]string, 0, 3), m.Mods[i].Values...)
			}
		})
		if !msg.Same(m, m) || !msg.Same(m, empty) || !msg.Same(empty, m) {
			t.Errorf("P9.3: %s isn't the same as itself", shape(m))
		}
		for _, other := range others(m) {
			if shape(other) == shape(m) {
				t.Fatalf("%s doesn't differ", shape(m))
			}
			if msg.Same(m, other) || msg.Same(other, m) {
				t.Errorf("P9.3: %s is the same as %s", shape(m), shape(other))
			}
		}
		for j, other := range l {
			if msg.Same(m, other) != (i == j) {
				t.Errorf("P9.3: %s, %s", shape(m), shape(other))
			}
		}
	}
	for i, c := range [][2]api.Msg{
		{{DN: "cn=a"}, {DN: "CN=A"}},
		{{DN: "a"}, {Pass: "a"}},
		{{Attr: "a"}, {Value: "a"}},
		{{RDN: "a"}, {Sup: "a"}},
		{{Attr: "ab"}, {Attr: "a", Value: "b"}},
		{{ID: 1}, {Op: 1}},
		{{Version: 1}, {Scope: 1}},
		{{Size: 1}, {Code: 1}},
		{{DelOld: true}, {HasSup: true}},
		{{Wants: []string{"a", "b"}}, {Wants: []string{"b", "a"}}},
		{{Wants: []string{"ab"}}, {Wants: []string{"a", "b"}}},
		{{Wants: []string{""}}, {}},
		{{Mods: make([]api.Mod, 1)}, {}},
		{{Mods: []api.Mod{mod(1, "a"), mod(1, "b")}}, {Mods: []api.Mod{mod(1, "b"), mod(1, "a")}}},
		{{Mods: []api.Mod{mod(1, "a", "b"), mod(1, "a")}}, {Mods: []api.Mod{mod(1, "a"), mod(1, "a", "b")}}},
		{{Mods: []api.Mod{mod(1, "a", "b", "c")}}, {Mods: []api.Mod{mod(1, "a", "c", "b")}}},
		{search(within(1<<16-1, present("a"))), search(within(1<<16-1, present("b")))},
	} {
		if msg.Same(c[0], c[1]) || msg.Same(c[1], c[0]) {
			t.Errorf("P9.3: row %d is the same", i)
		}
	}
}

// dice makes messages by chance, the same at each run.
type dice struct {
	*rand.Rand
	rare int // of so many texts one may be long
}

// text makes a text of at most so many bytes: mostly a short one.
func (r dice) text(most int) string {
	n := r.Intn(6)
	if r.Intn(r.rare) == 0 {
		n = r.Intn(most + 1)
	}
	b := make([]byte, n)
	for i := range b {
		b[i] = byte(r.Intn(256))
	}
	return string(b)
}

func (r dice) texts(most int) []string {
	var l []string
	for range r.Intn(most + 1) {
		l = append(l, r.text(400))
	}
	return l
}

func (r dice) attr() string { return "abcdefghijklmnop"[:1+r.Intn(16)] }

// filter makes a filter of at most n nodes.
func (r dice) filter(n int) api.Filter {
	kind := api.FAnd + r.Intn(8)
	switch {
	case kind == api.FNot && n > 1:
		return not(r.filter(n - 1))
	case kind == api.FAnd || kind == api.FOr || kind == api.FNot:
		f := api.Filter{Kind: min(kind, api.FOr)}
		for n > 1 && r.Intn(3) > 0 {
			kid := r.filter(min(n-1, 6))
			n -= filter.Count(kid)
			f.Kids = append(f.Kids, kid)
		}
		return f
	case kind == api.FPresent:
		return present(r.attr())
	case kind == api.FSubs:
		l := []string{r.text(60)}
		for range r.Intn(4) {
			l = append(l, "x"+r.text(59))
		}
		l = append(l, r.text(60))
		if strings.Join(l, "") == "" {
			l[0] = "x"
		}
		return subs(r.attr(), l...)
	}
	return api.Filter{Kind: kind, Attr: r.attr(), Value: r.text(60)}
}

func (r dice) mods(kinds int) []api.Mod {
	var l []api.Mod
	for range r.Intn(13) {
		l = append(l, mod(1+r.Intn(kinds), r.text(400), r.texts(1+r.Intn(12))...))
	}
	return l
}

func (r dice) msg() api.Msg {
	m := api.Msg{ID: r.Intn(1 << r.Intn(32)), Op: api.OBind + r.Intn(10)}
	if hasDN(m.Op) {
		m.DN = r.text(400)
	}
	switch m.Op {
	case api.OBind:
		m.Version, m.Pass = 1+r.Intn(127), r.text(400)
	case api.OSearch:
		m.Scope, m.Size, m.Filter, m.Wants = r.Intn(3), r.Intn(1<<r.Intn(32)), r.filter(20), r.texts(12)
	case api.OModify:
		m.Mods = r.mods(3)
	case api.OAdd, api.OEntry:
		m.Mods = r.mods(1)
	case api.OMove:
		m.RDN, m.DelOld, m.HasSup = r.text(400), r.Intn(2) == 0, r.Intn(2) == 0
		if m.HasSup {
			m.Sup = r.text(400)
		}
	case api.OCompare:
		m.Attr, m.Value = r.text(400), r.text(400)
	case api.OResult:
		m.Of = []int{api.OBind, api.OSearch, api.OModify, api.OAdd, api.ODelete, api.OMove, api.OCompare}[r.Intn(7)]
		m.Code, m.Matched = r.Intn(128), r.text(400)
	}
	return m
}

func TestChance(t *testing.T) { // P9.4
	r := dice{rand.New(rand.NewSource(9)), 10}
	of := map[string]string{}
	kinds := map[api.Errno]int{}
	for i := range 20000 {
		r.rare = 10 - 8*(i%10/9) // each tenth message has many long ones
		m := r.msg()
		s, err := msg.Encode(m)
		kinds[err]++
		if !msg.Is(m) || err != api.OK && err != api.ErrLarge && err != api.ErrDeep || (s == "") != (err != api.OK) {
			t.Fatalf("P9.2: %s: %v", shape(m), err)
		}
		if err != api.OK {
			continue
		}
		good(t, m)
		if e, n, _, err := ber.Read(s); err != api.OK || n != len(s) || len(s) > api.MaxSize || len(e.Kids) != 2 {
			t.Fatalf("P9.2: %s: %d bytes of %d, %v", shape(m), n, len(s), err)
		}
		if other, ok := of[s]; ok && other != shape(m) {
			t.Fatalf("P9.4: %s and %s are told alike", shape(m), other)
		}
		of[s] = shape(m)
		if r.Intn(4) > 0 {
			continue
		}
		spoilt := []byte(s)
		for range 1 + r.Intn(3) {
			spoilt[r.Intn(len(s))] = byte(r.Intn(256))
		}
		judged(t, string(spoilt), "spoilt by chance")
	}
	if kinds[api.OK] < 10000 || kinds[api.ErrLarge] < 100 {
		t.Errorf("too few of a kind: %v", kinds)
	}
}

// TestWrongByChance: whatever is handed in, each call comes back, and what isn't a message isn't told.
func TestWrongByChance(t *testing.T) { // P9.1, P9.2, P9.3
	r := dice{rand.New(rand.NewSource(10)), 12}
	for range 600 {
		for _, m := range others(r.msg()) {
			s, err := msg.Encode(m)
			if msg.Is(m) == (err == api.ErrForm) || (err == api.OK) != (s != "") {
				t.Fatalf("P9.1, P9.2: %s: %v, %v", shape(m), msg.Is(m), err)
			}
			if err != api.OK {
				continue
			}
			if back, err := msg.Decode(s); err != api.OK || !msg.Same(m, back) {
				t.Fatalf("P9.4: %s is read as %s", shape(m), shape(back))
			}
		}
		b := make([]byte, r.Intn(40))
		for i := range b {
			b[i] = []byte{0, 1, 2, 4, 10, 48, 49, 66, 74, 96, 99, 128, 135, 160}[r.Intn(14)]
		}
		judged(t, string(b), "bytes by chance")
	}
}

// inside tells whether p lies in s.
func inside(p, s string) bool {
	at := uintptr(unsafe.Pointer(unsafe.StringData(p)))
	begin := uintptr(unsafe.Pointer(unsafe.StringData(s)))
	return p != "" && at >= begin && at < begin+uintptr(len(s))
}

// lists tells the lists of m: of texts, of Mods, of filters.
func lists(m api.Msg) ([][]string, [][]api.Mod, [][]api.Filter) {
	texts, mods, kids := [][]string{m.Wants}, [][]api.Mod{m.Mods}, [][]api.Filter{}
	for _, d := range m.Mods {
		texts = append(texts, d.Values)
	}
	var walk func(f api.Filter)
	walk = func(f api.Filter) {
		texts, kids = append(texts, f.Subs), append(kids, f.Kids)
		for _, kid := range f.Kids {
			walk(kid)
		}
	}
	walk(m.Filter)
	return texts, mods, kids
}

// TestOwnMemory: what Decode and Encode tell is theirs to whom it is told, spare room and all.
func TestOwnMemory(t *testing.T) { // what holds everywhere
	v := strings.Repeat("v", 40)
	for _, m := range []api.Msg{
		{Op: api.OModify, DN: v, Mods: []api.Mod{mod(api.MAdd, v, v, v, "w"), mod(api.MReplace, "b", v), mod(api.MDelete, "c", "d", "e", v)}},
		{Op: api.OAdd, DN: v, Mods: []api.Mod{mod(api.MAdd, v, v, v, "w"), mod(api.MAdd, "b", v), mod(api.MAdd, "c")}},
		{Op: api.OSearch, DN: v, Wants: []string{v, v, v}, Filter: and(equal("a", v), subs("b", v, v, ""), or(and(present("abcdefghijklmnop"), less("c", v)), not(subs("d", "", v)), and()))},
		{Op: api.OMove, DN: v, RDN: v, HasSup: true, Sup: v}, {Op: api.OBind, Version: 1, DN: v, Pass: v}, {Op: api.OCompare, DN: v, Attr: v, Value: v},
		{Op: api.OResult, Of: api.OBind, Matched: v}, {Op: api.ODelete, DN: v},
	} {
		s := good(t, m)
		for _, p := range append(allTexts(m), v) {
			if inside(p, s) {
				t.Error("Encode keeps what was handed in")
			}
		}
		first, _ := msg.Decode(s)
		second, _ := msg.Decode(s)
		third, _ := msg.Decode(s)
		want := shape(third)
		for _, p := range slices.Concat(allTexts(first), allTexts(second)) {
			if inside(p, s) {
				t.Errorf("%q keeps what was handed in", p)
			}
		}
		n := 0
		for round := range 2 { // first all are marked, then it is asked whether the marks are still there
			n = 0
			for _, m := range []api.Msg{first, second} {
				texts, mods, kids := lists(m)
				for _, l := range texts {
					n++
					for i := range l[:cap(l)] {
						if p := &l[:cap(l)][i]; round == 0 {
							*p = fmt.Sprint(n)
						} else if *p != fmt.Sprint(n) {
							t.Errorf("texts %d and %s share memory", n, *p)
						}
					}
				}
				for _, l := range mods {
					n++
					for i := range l[:cap(l)] {
						if p := &l[:cap(l)][i]; round == 0 {
							p.Kind = n
						} else if p.Kind != n {
							t.Errorf("mods %d and %d share memory", n, p.Kind)
						}
					}
				}
				for _, l := range kids {
					n++
					for i := range l[:cap(l)] {
						if p := &l[:cap(l)][i]; round == 0 {
							p.Value = fmt.Sprint(n)
						} else if p.Value != fmt.Sprint(n) {
							t.Errorf("kids %d and %s share memory", n, p.Value)
						}
					}
				}
			}
		}
		if shape(third) != want {
			t.Errorf("is %s, was %s", shape(third), want)
		}
		if fourth, err := msg.Decode(s); shape(fourth) != want || err != api.OK {
			t.Errorf("told otherwise: %s", shape(fourth))
		}
	}
}

// allTexts tells all texts of m.
func allTexts(m api.Msg) []string {
	l := []string{m.DN, m.Pass, m.RDN, m.Sup, m.Attr, m.Value, m.Matched}
	texts, mods, _ := lists(m)
	l = append(l, slices.Concat(texts...)...)
	for _, d := range slices.Concat(mods...) {
		l = append(l, d.Attr)
	}
	var walk func(f api.Filter)
	walk = func(f api.Filter) {
		l = append(l, f.Attr, f.Value)
		for _, kid := range f.Kids {
			walk(kid)
		}
	}
	walk(m.Filter)
	return l
}

// TestNotChanged: what is handed in stays as it was, spare room and all.
func TestNotChanged(t *testing.T) { // what holds everywhere
	wants := append(make([]string, 0, 5), "a", "", "c")
	values := append(make([]string, 0, 5), "", "e", "f")
	parts := append(make([]string, 0, 5), "", "b*", "")
	kids := append(make([]api.Filter, 0, 5), subs("cn"), not(less("sn", "\x00")))
	kids[0].Subs = parts
	mods := append(make([]api.Mod, 0, 5), mod(api.MAdd, "g"), mod(api.MReplace, "h"))
	mods[1].Values = values
	for _, l := range [][]string{wants, values, parts} {
		l[:5][3], l[:5][4] = "spare", "room"
	}
	kids[:5][2], mods[:5][2] = present("spare"), mod(9, "spare", "room")
	find := api.Msg{Op: api.OSearch, Filter: api.Filter{Kind: api.FOr, Kids: kids}, Wants: wants}
	modify := api.Msg{Op: api.OModify, Mods: mods}
	wrong := api.Msg{Op: api.OAdd, Mods: mods, Wants: wants}
	all := func() string {
		return shape(find) + shape(modify) + shape(wrong) + fmt.Sprintf("%q %q %q", wants[:5], values[:5], parts[:5]) + filterShape(and(kids[:5]...)) + modShapes(mods[:5])
	}
	before := all()
	for range 2 {
		good(t, find)
		good(t, modify)
		noMessage(t, wrong, "Wants")
		if msg.Same(find, modify) || !msg.Same(wrong, wrong) {
			t.Error("P9.3: another answer")
		}
	}
	if now := all(); now != before {
		t.Errorf("was %s, is %s", before, now)
	}
}
