package change_test

import (
	"fmt"
	"math"
	"math/rand"
	"reflect"
	"slices"
	"strconv"
	"strings"
	"testing"
	"unsafe"

	"prefect/api"
	"prefect/ber"
	"prefect/change"
	"prefect/dn"
	"prefect/schema"
)

// The limits that the document names, by their numbers.
const (
	maxSize   = 4000
	maxValue  = 60
	maxValues = 12
	maxMods   = 8
	maxAVAs   = 4
	maxTime   = 1099511627776
	maxSeq    = 65535
	maxReps   = 6
)

// names are all types, rising.
var names = []string{"aci", "c", "cn", "dc", "description", "entryid", "mail", "member", "o", "ou", "sn", "title", "uid", "uidnumber", "userpassword"}

// noTypes are no types of schema's, as it tells them.
var noTypes = []string{"", " ", "x", "cnn", "cn ", " cn", "c-n", "objectclass", "members", "CN", "Cn", "cN", "uidNumber", "userPassword", "ENTRYID", "entryID", "cn;lang-en", "\xff", "cn\x00", "ſn", strings.Repeat("cn", 1<<12)}

var kinds = []int{api.KAdd, api.KDelete, api.KModify, api.KMove}

func num(time int64, seq, rep int) api.CSN { return api.CSN{Time: time, Seq: seq, Rep: rep} }

func mod(kind int, attr string, values ...string) api.Mod {
	return api.Mod{Kind: kind, Attr: attr, Values: values}
}

// rdn makes a part of a name of types and values by turns.
func rdn(l ...string) api.RDN {
	var r api.RDN
	for i := 0; i < len(l); i += 2 {
		r = append(r, api.AVA{Attr: l[i], Value: l[i+1]})
	}
	return r
}

// numbered makes n values: v001, v002 ..
func numbered(n int) []string {
	var l []string
	for i := range n {
		l = append(l, fmt.Sprintf("v%03d", i+1))
	}
	return l
}

// valueFor tells a value that can be one of that type.
func valueFor(name string) string {
	switch name {
	case "member":
		return "cn=a"
	case "uidnumber":
		return "7"
	}
	return "a"
}

// ofKind makes a change of each Kind.
func ofKind(kind int) api.Change {
	c := api.Change{CSN: num(9, 3, 2), Kind: kind, ID: num(5, 1, 1)}
	switch kind {
	case api.KAdd:
		c.ID, c.Parent, c.RDN = c.CSN, num(4, 0, 5), rdn("cn", "Ann", "sn", "b,c")
		c.Mods = []api.Mod{mod(api.MAdd, "mail", "x@y", "Z"), mod(api.MAdd, "uidnumber", "-12")}
	case api.KModify:
		c.Mods = []api.Mod{mod(api.MAdd, "mail", "x@y"), mod(api.MDelete, "sn"), mod(api.MReplace, "userpassword", "\x00\xff", "b")}
	case api.KMove:
		c.Parent, c.RDN, c.DelOld = num(4, 0, 5), rdn("ou", "#x"), true
	}
	return c
}

// with tells c as do changes it, on its own.
func with(c api.Change, do func(c *api.Change)) api.Change {
	c.RDN = slices.Clone(c.RDN)
	c.Mods = slices.Clone(c.Mods)
	for i := range c.Mods {
		c.Mods[i].Values = slices.Clone(c.Mods[i].Values)
	}
	do(&c)
	return c
}

// told tells c so that two that differ differ; no list and an empty one don't.
func told(c api.Change) string {
	var b strings.Builder
	fmt.Fprintf(&b, "%v %d %v %v %v", c.CSN, c.Kind, c.ID, c.Parent, c.DelOld)
	for _, a := range c.RDN {
		fmt.Fprintf(&b, " %q=%q", a.Attr, a.Value)
	}
	for _, m := range c.Mods {
		fmt.Fprintf(&b, "; %d %q", m.Kind, m.Attr)
		for _, v := range m.Values {
			fmt.Fprintf(&b, " %q", v)
		}
	}
	return b.String()
}

// short is told of what may be long.
func short(c api.Change) string { return fmt.Sprintf("%.300s", told(c)) }

// el tells the bytes of an element: its tag, its length in the fewest bytes, what is in it.
func el(tag byte, in ...string) string {
	s := strings.Join(in, "")
	n := len(s)
	switch {
	case n < 128:
		return string([]byte{tag, byte(n)}) + s
	case n < 256:
		return string([]byte{tag, 129, byte(n)}) + s
	}
	return string([]byte{tag, 130, byte(n >> 8), byte(n)}) + s
}

func csnText(c api.CSN) string { return fmt.Sprintf("%d.%d.%d", c.Time, c.Seq, c.Rep) }

// rdnText tells r as dn does, but whatever r is.
func rdnText(r api.RDN) string {
	var l []string
	for _, a := range r {
		var b strings.Builder
		for i, c := range []byte(a.Value) {
			edge := i == 0 && (c == '#' || c == ' ') || i > 0 && i == len(a.Value)-1 && c == ' '
			switch {
			case c < 32 || c > 126:
				fmt.Fprintf(&b, "\\%02x", c)
			case edge || strings.IndexByte(`,+"\<>;`, c) >= 0:
				b.WriteString("\\" + string(rune(c)))
			default:
				b.WriteByte(c)
			}
		}
		l = append(l, a.Attr+"="+b.String())
	}
	return strings.Join(l, "+")
}

func kindBytes(n int) string {
	s := []byte{byte(n)}
	for n < -128 || n > 127 {
		n >>= 8
		s = append([]byte{byte(n)}, s...)
	}
	return el(2, string(s))
}

func flagBytes(b bool) string {
	if b {
		return el(1, "\xff")
	}
	return el(1, "\x00")
}

func modBytes(m api.Mod) string {
	var values []string
	for _, v := range m.Values {
		values = append(values, el(4, v))
	}
	return el(48, kindBytes(m.Kind), el(4, m.Attr), el(48, values...))
}

// partsOf tells the bytes of each part of c, whatever c is.
func partsOf(c api.Change) []string {
	var mods []string
	for _, m := range c.Mods {
		mods = append(mods, modBytes(m))
	}
	return []string{kindBytes(c.Kind), el(4, csnText(c.CSN)), el(4, csnText(c.ID)), el(4, csnText(c.Parent)), el(4, rdnText(c.RDN)), flagBytes(c.DelOld), el(48, mods...)}
}

// bytesOf tells the bytes of c, whatever c is.
func bytesOf(c api.Change) string { return el(48, partsOf(c)...) }

// isChange asks that c is a change, is written and read.
func isChange(t *testing.T, c api.Change, what string) {
	t.Helper()
	was := told(c)
	if !change.Is(c) {
		t.Errorf("P13.1: %s: isn't Is: %s", what, short(c))
	}
	s, err := change.Bytes(c)
	if err != api.OK || s != bytesOf(c) {
		t.Errorf("P13.2: %s: Bytes of %s: %.200q, %v", what, short(c), s, err)
	}
	got, err := change.Read(s)
	if err != api.OK || told(got) != was {
		t.Errorf("P13.3: %s: %s is read as %s, %v", what, short(c), short(got), err)
	}
	if !change.Same(got, c) || !change.Same(c, got) || !change.Same(c, c) {
		t.Errorf("P13.1: %s: what was read isn't the Same: %s", what, short(c))
	}
	if got = change.Copy(c); told(got) != was || !change.Same(got, c) {
		t.Errorf("P13.1: %s: Copy of %s: %s", what, short(c), short(got))
	}
	if told(c) != was {
		t.Errorf("P13.1: %s: it was changed: %s", what, short(c))
	}
}

// isNone asks that c is no change, and that its bytes, told nevertheless, aren't read.
func isNone(t *testing.T, c api.Change, what string) {
	t.Helper()
	was := told(c)
	if change.Is(c) {
		t.Errorf("P13.1: %s: is Is: %s", what, short(c))
	}
	if s, err := change.Bytes(c); s != "" || err != api.ErrForm {
		t.Errorf("P13.2: %s: Bytes of %s: %.200q, %v", what, short(c), s, err)
	}
	refused(t, bytesOf(c), what)
	if got := change.Copy(c); told(got) != was || !change.Same(got, c) {
		t.Errorf("P13.1: %s: Copy of %s: %s", what, short(c), short(got))
	}
	if told(c) != was {
		t.Errorf("P13.1: %s: it was changed: %s", what, short(c))
	}
}

// refused asks that s is nobody's bytes.
func refused(t *testing.T, s, what string) {
	t.Helper()
	if c, err := change.Read(s); err != api.ErrForm || !reflect.DeepEqual(c, api.Change{}) {
		t.Errorf("P13.2: %s: Read of %.200q: %s, %v", what, s, short(c), err)
	}
}

// judged asks that s is nobody's bytes, or just those of what is read.
func judged(t *testing.T, s, what string) {
	t.Helper()
	c, err := change.Read(s)
	if err != api.OK {
		refused(t, s, what)
		return
	}
	if got, err := change.Bytes(c); got != s || err != api.OK {
		t.Errorf("P13.2: %s: Read of %.200q tells %s, whose bytes are %.200q, %v", what, s, short(c), got, err)
	}
}

func TestLimits(t *testing.T) { // P13.1, P13.2
	if api.MaxSize != maxSize || api.MaxValue != maxValue || api.MaxValues != maxValues || api.MaxMods != maxMods || api.MaxAVAs != maxAVAs {
		t.Fatal("the document's limits are others")
	}
	if api.MaxTime != maxTime || api.MaxSeq != maxSeq || api.MaxReps != maxReps {
		t.Fatal("the document's limits are others")
	}
	var all []string
	for _, a := range schema.All() {
		all = append(all, a.Name)
	}
	if !slices.Equal(all, names) {
		t.Fatal("schema has other types")
	}
}

func TestExample(t *testing.T) { // P13.1, P13.2, P13.3
	c := api.Change{CSN: num(2, 0, 0), Kind: api.KDelete, ID: num(1, 0, 0)}
	isChange(t, c, "a KDelete of 1.0.0 by 2.0.0")
	s, err := change.Bytes(c)
	if want := "\x30\x1f\x02\x01\x02\x04\x052.0.0\x04\x051.0.0\x04\x050.0.0\x04\x00\x01\x01\x00\x30\x00"; s != want || err != api.OK {
		t.Errorf("P13.2: %q, %v; want %q", s, err, want)
	}
}

// right tells changes that are Is.
func right() []api.Change {
	l := []api.Change{
		{CSN: num(2, 0, 0), Kind: api.KDelete, ID: num(1, 0, 0)},
		{CSN: num(maxTime, maxSeq, maxReps-1), Kind: api.KDelete, ID: num(maxTime, maxSeq, maxReps-2)},
		{CSN: num(0, 0, 2), Kind: api.KDelete, ID: num(0, 0, 1)},
		{CSN: num(0, 0, 1), Kind: api.KAdd, ID: num(0, 0, 1), RDN: rdn("cn", "a")},
		{CSN: num(maxTime, maxSeq, maxReps-1), Kind: api.KAdd, ID: num(maxTime, maxSeq, maxReps-1), Parent: num(maxTime, maxSeq, maxReps-2), RDN: rdn("o", "x")},
		{CSN: num(1, 0, 0), Kind: api.KAdd, ID: num(1, 0, 0), RDN: rdn("userpassword", "\x00\xff+,\\", "member", "cn=a\\,b,ou=c", "uidnumber", "-7")},
		{CSN: num(1, 0, 0), Kind: api.KAdd, ID: num(1, 0, 0), RDN: rdn("cn", " a "), Mods: []api.Mod{mod(api.MAdd, "sn", " ")}[:0]},
		{CSN: num(0, 1, 0), Kind: api.KModify, Mods: []api.Mod{mod(api.MDelete, "aci")}},
		{CSN: num(3, 0, 0), Kind: api.KModify, ID: num(2, 5, 1), Mods: []api.Mod{mod(api.MReplace, "title", "a", "b")}},
		{CSN: num(3, 0, 0), Kind: api.KModify, ID: num(2, 5, 1), Mods: []api.Mod{mod(api.MAdd, "cn", "a", "a", "A"), mod(api.MAdd, "cn", "a")}}, // twice the same
		{CSN: num(3, 0, 0), Kind: api.KMove, ID: num(2, 0, 0), RDN: rdn("cn", "a")},
		{CSN: num(3, 0, 0), Kind: api.KMove, ID: num(2, 0, 0), RDN: rdn("cn", "a"), DelOld: true},
		{CSN: num(3, 0, 0), Kind: api.KMove, ID: num(2, 0, 0), Parent: num(2, 0, 0), RDN: rdn("cn", "a")}, // beneath itself: the tree will pass it over
		{CSN: num(3, 0, 0), Kind: api.KMove, ID: num(1, 0, 0), Parent: num(2, 0, 0), RDN: rdn("c", "de", "dc", "x", "ou", "="), DelOld: true},
	}
	for _, kind := range kinds {
		l = append(l, ofKind(kind))
	}
	return l
}

func TestRight(t *testing.T) { // P13.1, P13.2, P13.3
	for i, c := range right() {
		isChange(t, c, "row "+strconv.Itoa(i))
	}
}

// TestBytes: the bytes of a change of each Kind, written out.
func TestBytes(t *testing.T) { // P13.2
	n := "\x04\x059.3.2"
	id := "\x04\x055.1.1"
	parent := "\x04\x054.0.5"
	none := "\x04\x050.0.0"
	for kind, want := range map[int]string{
		api.KAdd: "\x30\x59\x02\x01\x01" + n + n + parent + "\x04\x0ecn=Ann+sn=b\\,c\x01\x01\x00" +
			"\x30\x2c" + "\x30\x13\x02\x01\x01\x04\x04mail\x30\x08\x04\x03x@y\x04\x01Z" + "\x30\x15\x02\x01\x01\x04\x09uidnumber\x30\x05\x04\x03-12",
		api.KDelete: "\x30\x1f\x02\x01\x02" + n + id + none + "\x04\x00\x01\x01\x00\x30\x00",
		api.KModify: "\x30\x58\x02\x01\x03" + n + id + none + "\x04\x00\x01\x01\x00" +
			"\x30\x39" + "\x30\x10\x02\x01\x01\x04\x04mail\x30\x05\x04\x03x@y" + "\x30\x09\x02\x01\x02\x04\x02sn\x30\x00" + "\x30\x1a\x02\x01\x03\x04\x0cuserpassword\x30\x07\x04\x02\x00\xff\x04\x01b",
		api.KMove: "\x30\x25\x02\x01\x04" + n + id + parent + "\x04\x06ou=\\#x\x01\x01\xff\x30\x00",
	} {
		if s, err := change.Bytes(ofKind(kind)); s != want || err != api.OK {
			t.Errorf("P13.2: of kind %d: %q, %v; want %q", kind, s, err, want)
		}
	}
}

// numbers are such as lie about one another's edges, and about those of what is a number; the first ones are none.
func numbers() []api.CSN {
	return []api.CSN{
		num(-1, 0, 0), num(0, -1, 0), num(0, 0, -1), num(maxTime+1, 0, 0), num(5, maxSeq+1, 0), num(5, 0, maxReps), num(math.MaxInt64, 0, 0), num(math.MinInt64, 0, 0), num(5, math.MaxInt, 0), num(5, 0, math.MinInt),
		num(0, 0, 0), num(0, 0, 1), num(0, 0, maxReps-1), num(0, 1, 0), num(0, maxSeq, 0), num(1, 0, 0),
		num(5, 2, 2), num(5, 2, 3), num(5, 2, 4), num(5, 1, maxReps-1), num(5, 1, 0), num(5, 3, 0), num(4, maxSeq, maxReps-1), num(6, 0, 0),
		num(maxTime, 0, 0), num(maxTime, maxSeq, 0), num(maxTime, maxSeq, maxReps-2), num(maxTime, maxSeq, maxReps-1),
	}
}

// isNumber tells whether c is csn's Is.
func isNumber(c api.CSN) bool {
	return 0 <= c.Time && c.Time <= maxTime && 0 <= c.Seq && c.Seq <= maxSeq && 0 <= c.Rep && c.Rep < maxReps
}

func isBelow(a, b api.CSN) bool {
	switch {
	case a.Time != b.Time:
		return a.Time < b.Time
	case a.Seq != b.Seq:
		return a.Seq < b.Seq
	}
	return a.Rep < b.Rep
}

// TestNumbers: each CSN with each ID and each Parent.
func TestNumbers(t *testing.T) { // P13.1, P13.2, P13.3
	zero := api.CSN{}
	for _, kind := range kinds {
		for _, own := range numbers() {
			for _, id := range numbers() {
				for _, parent := range numbers() {
					want := isNumber(own) && own != zero && isNumber(id) && isNumber(parent)
					switch kind {
					case api.KAdd:
						want = want && id == own && isBelow(parent, own)
					case api.KDelete:
						want = want && id != zero && isBelow(id, own) && parent == zero
					case api.KModify:
						want = want && isBelow(id, own) && parent == zero
					case api.KMove:
						want = want && id != zero && isBelow(id, own) && isBelow(parent, own)
					}
					c := ofKind(kind)
					c.CSN, c.ID, c.Parent = own, id, parent
					if change.Is(c) != want {
						t.Fatalf("P13.1: not %v: %s", want, short(c))
					}
					if want {
						isChange(t, c, "numbers")
					}
				}
			}
		}
	}
}

// TestBesideCSN: ID and Parent at CSN, just below it, just above.
func TestBesideCSN(t *testing.T) { // P13.1
	at := num(7, 4, 3)
	below := []api.CSN{num(7, 4, 2), num(7, 3, 5), num(6, maxSeq, 5), num(7, 0, 0)}
	above := []api.CSN{num(7, 4, 4), num(7, 5, 0), num(8, 0, 0)}
	for _, kind := range kinds {
		c := ofKind(kind)
		c.CSN = at
		if kind == api.KAdd {
			c.ID = at
		}
		isChange(t, c, "as it was")
		for _, n := range append(above, at, num(0, 0, 0)) {
			if kind == api.KAdd && n == at || kind == api.KModify && n == (api.CSN{}) {
				continue
			}
			isNone(t, with(c, func(c *api.Change) { c.ID = n }), "an ID of no place")
		}
		for _, n := range below {
			d := with(c, func(c *api.Change) { c.ID = n })
			if kind == api.KAdd {
				isNone(t, d, "an ID below that of a KAdd")
			} else {
				isChange(t, d, "an ID below")
			}
		}
		for _, n := range append(above, at) {
			isNone(t, with(c, func(c *api.Change) { c.Parent = n }), "a Parent of no place")
		}
		for _, n := range append(below, num(0, 0, 1)) {
			d := with(c, func(c *api.Change) { c.Parent = n })
			if kind == api.KAdd || kind == api.KMove {
				isChange(t, d, "a Parent below")
			} else {
				isNone(t, d, "a Parent where there is none")
			}
		}
		isChange(t, with(c, func(c *api.Change) { c.Parent = api.CSN{} }), "without a Parent")
	}
	isChange(t, with(ofKind(api.KModify), func(c *api.Change) { c.ID = api.CSN{} }), "a KModify of the root")
	isNone(t, with(ofKind(api.KDelete), func(c *api.Change) { c.ID = api.CSN{} }), "a KDelete of the root")
	isNone(t, with(ofKind(api.KMove), func(c *api.Change) { c.ID = api.CSN{} }), "a KMove of the root")
	for _, kind := range kinds {
		isNone(t, with(ofKind(kind), func(c *api.Change) { c.CSN = api.CSN{} }), "no CSN")
		isNone(t, with(ofKind(kind), func(c *api.Change) { c.CSN, c.ID, c.Parent = api.CSN{}, api.CSN{}, api.CSN{} }), "no numbers")
	}
}

func TestKinds(t *testing.T) { // P13.1
	for _, kind := range kinds {
		for _, other := range []int{math.MinInt, -1, 0, 5, 6, 127, 128, 256 + kind, 1<<32 + kind, math.MaxInt} {
			isNone(t, with(ofKind(kind), func(c *api.Change) { c.Kind = other }), "no Kind")
		}
		for _, other := range kinds {
			if other != kind {
				isNone(t, with(ofKind(kind), func(c *api.Change) { c.Kind = other }), "another Kind's parts")
			}
		}
	}
	isNone(t, api.Change{}, "nothing")
	isNone(t, api.Change{CSN: num(1, 0, 0)}, "a CSN alone")
	for _, kind := range kinds {
		isNone(t, api.Change{Kind: kind}, "a Kind alone")
		isNone(t, api.Change{CSN: num(1, 0, 0), Kind: kind}, "a CSN and a Kind")
	}
}

// TestForeign: for each Kind each part that it doesn't have; beside it, each that it does.
func TestForeign(t *testing.T) { // P13.1
	parts := []struct {
		what string
		of   []int
		do   func(c *api.Change)
	}{
		{"Parent", []int{api.KAdd, api.KMove}, func(c *api.Change) { c.Parent = num(1, 0, 0) }},
		{"RDN", []int{api.KAdd, api.KMove}, func(c *api.Change) { c.RDN = rdn("cn", "z") }},
		{"DelOld", []int{api.KMove}, func(c *api.Change) { c.DelOld = true }},
		{"Mods", []int{api.KAdd, api.KModify}, func(c *api.Change) { c.Mods = []api.Mod{mod(api.MAdd, "cn", "z")} }},
	}
	for _, kind := range kinds {
		for _, p := range parts {
			c := with(ofKind(kind), p.do)
			if slices.Contains(p.of, kind) {
				isChange(t, c, "with "+p.what)
			} else {
				isNone(t, c, "with "+p.what)
			}
		}
	}
	for _, none := range []api.RDN{{{}}, rdn("cn", ""), rdn("x", "a")} { // what is no part of a name is something, too
		isNone(t, with(ofKind(api.KDelete), func(c *api.Change) { c.RDN = none }), "with an RDN")
		isNone(t, with(ofKind(api.KModify), func(c *api.Change) { c.RDN = none }), "with an RDN")
	}
	isNone(t, with(ofKind(api.KDelete), func(c *api.Change) { c.Mods = make([]api.Mod, 1) }), "with a Mod")
	isNone(t, with(ofKind(api.KMove), func(c *api.Change) { c.Mods = make([]api.Mod, 1) }), "with a Mod")
	isNone(t, with(ofKind(api.KDelete), func(c *api.Change) { c.Parent = c.ID }), "with a Parent")
	isNone(t, with(ofKind(api.KAdd), func(c *api.Change) { c.Parent, c.ID = c.ID, c.Parent }), "Parent and ID")
}

func TestDelOld(t *testing.T) { // P13.1, P13.2, P13.3
	for _, delOld := range []bool{false, true} {
		c := with(ofKind(api.KMove), func(c *api.Change) { c.DelOld = delOld })
		isChange(t, c, "DelOld")
		s, _ := change.Bytes(c)
		if got, err := change.Read(s); err != api.OK || got.DelOld != delOld {
			t.Errorf("P13.3: DelOld %v is read as %v, %v", delOld, got.DelOld, err)
		}
	}
}

// TestNoLists: no list beside an empty one.
func TestNoLists(t *testing.T) { // P13.1, P13.2, P13.3
	for _, kind := range kinds {
		c := ofKind(kind)
		d := with(c, func(c *api.Change) {
			if len(c.RDN) == 0 {
				c.RDN = make(api.RDN, 0, 3)
			}
			if kind != api.KModify {
				c.Mods = make([]api.Mod, 0, 3)
			}
			for i := range c.Mods {
				if len(c.Mods[i].Values) == 0 {
					c.Mods[i].Values = []string{}
				}
			}
		})
		if kind == api.KAdd {
			c.Mods = nil
		}
		isChange(t, c, "no lists")
		isChange(t, d, "empty lists")
		a, _ := change.Bytes(c)
		b, _ := change.Bytes(d)
		if a != b || !change.Same(c, d) || !change.Same(d, c) {
			t.Errorf("P13.1: no list and an empty one aren't the Same: %s", short(c))
		}
	}
}

// TestRDN: what may be in an RDN, of a KAdd and of a KMove.
func TestRDN(t *testing.T) { // P13.1, P13.2, P13.3
	long := strings.Repeat("a", maxValue)
	for _, kind := range []int{api.KAdd, api.KMove} {
		for _, r := range []api.RDN{
			rdn("cn", "a"), rdn("cn", "a", "sn", "b"), rdn("sn", "b", "cn", "a"), rdn("cn", "a", "sn", "a", "o", "a"), // MaxAVAs - 1
			rdn("cn", long), rdn("cn", long, "mail", long, "userpassword", strings.Repeat("\x00", maxValue)),
			rdn("cn", " a"), rdn("cn", "a "), rdn("cn", "#"), rdn("cn", `,+"\<>;=`), rdn("mail", " "), rdn("mail", "  "), rdn("userpassword", " "),
			rdn("uidnumber", "0"), rdn("uidnumber", "-999999999999999"), rdn("member", "cn=a"), rdn("member", `CN=a\,b+sn=c,o=d`), rdn("aci", "~"), rdn("title", "a", "c", "b"),
		} {
			isChange(t, with(ofKind(kind), func(c *api.Change) { c.RDN = r }), "an RDN")
		}
		for _, r := range []api.RDN{
			nil, {},
			rdn("cn", "a", "sn", "a", "o", "a", "ou", "a"),             // MaxAVAs
			rdn("cn", "a", "sn", "a", "o", "a", "ou", "a", "uid", "a"), // and one more
			rdn("cn", ""), rdn("", "a"), {{}}, rdn("cn", "a", "cn", "b"), rdn("cn", "a", "sn", "a", "cn", "a"), rdn("cn", "a", "", ""),
			rdn("cn", long+"a"), rdn("userpassword", long+"a"), rdn("mail", "a", "cn", long+"a"),
			rdn("cn", " "), rdn("cn", "   "), rdn("cn", "a\x1f"), rdn("cn", "\x7f"), rdn("mail", "\x00"), rdn("cn", "a", "sn", "\xff"), rdn("cn", "ä"),
			rdn("uidnumber", "07"), rdn("uidnumber", "-0"), rdn("uidnumber", "1000000000000000"), rdn("uidnumber", "a"), rdn("member", "cn"), rdn("member", "cn=a,"),
			rdn("entryid", "1.0.0"), rdn("cn", "a", "entryid", "1.0.0"), rdn("entryid", "a", "cn", "a"), rdn("cn", "a", "entryid", csnText(ofKind(kind).ID)),
			rdn("CN", "a"), rdn("cN", "a"), rdn("x", "a"), rdn("nosuch", "a"), rdn("cn", "a", "objectclass", "b"), rdn("cn ", "a"), rdn("-", "a"), rdn("ENTRYID", "a"), rdn("abcdefghijklmnopq", "a"),
		} {
			isNone(t, with(ofKind(kind), func(c *api.Change) { c.RDN = r }), "no RDN")
		}
		for _, name := range append(noTypes, names...) {
			for _, one := range []bool{true, false} { // alone, and behind another one
				r := rdn(name, valueFor(name))
				if !one && name != "cn" {
					r = append(rdn("cn", "b"), r...)
				}
				c := with(ofKind(kind), func(c *api.Change) { c.RDN = r })
				if slices.Contains(names, name) && name != "entryid" {
					isChange(t, c, "an AVA of a type")
				} else {
					isNone(t, c, "an AVA of no type")
				}
			}
		}
	}
}

// TestMods: how many Mods, of which Kinds.
func TestMods(t *testing.T) { // P13.1, P13.2, P13.3
	list := func(kind, n int) []api.Mod {
		var l []api.Mod
		for i := range n {
			l = append(l, mod(kind, "cn", strconv.Itoa(i)))
		}
		return l
	}
	for _, n := range []int{0, 1, 2, maxMods - 1, maxMods, maxMods + 1, maxMods + 2, 100} {
		c := with(ofKind(api.KAdd), func(c *api.Change) { c.Mods = list(api.MAdd, n) })
		if n <= maxMods {
			isChange(t, c, "Mods of a KAdd")
		} else {
			isNone(t, c, "Mods of a KAdd")
		}
		for kind := api.MAdd; kind <= api.MReplace; kind++ {
			c := with(ofKind(api.KModify), func(c *api.Change) { c.Mods = list(kind, n) })
			if 0 < n && n <= maxMods {
				isChange(t, c, "Mods of a KModify")
			} else {
				isNone(t, c, "Mods of a KModify")
			}
		}
	}
	for kind := api.MAdd; kind <= api.MReplace; kind++ {
		for i := range 3 { // at each place
			c := ofKind(api.KAdd)
			c.Mods = slices.Insert(c.Mods, min(i, 2), mod(kind, "cn", "z"))
			if kind == api.MAdd {
				isChange(t, c, "a KAdd's MAdd")
			} else {
				isNone(t, c, "a KAdd's other Mod")
			}
			isChange(t, with(ofKind(api.KModify), func(c *api.Change) { c.Mods = slices.Insert(c.Mods, i, mod(kind, "cn", "z")) }), "a Mod")
		}
	}
	for _, kind := range []int{math.MinInt, -1, 0, 4, 5, 256 + api.MAdd, 1<<32 + api.MDelete, math.MaxInt} {
		for _, m := range []api.Mod{mod(kind, "cn", "z"), mod(kind, "cn")} {
			for i := range 3 {
				isNone(t, with(ofKind(api.KModify), func(c *api.Change) { c.Mods = slices.Insert(c.Mods, i, m) }), "no Mod's kind")
				isNone(t, with(ofKind(api.KAdd), func(c *api.Change) { c.Mods = slices.Insert(c.Mods, min(i, 2), m) }), "no Mod's kind")
			}
		}
	}
	isNone(t, with(ofKind(api.KModify), func(c *api.Change) { c.Mods = make([]api.Mod, 1) }), "an empty Mod")
	isNone(t, with(ofKind(api.KAdd), func(c *api.Change) { c.Mods = make([]api.Mod, 1) }), "an empty Mod")
}

// modified tells changes that have m among their Mods: of a KModify, and of a KAdd, if m is its.
func modified(m api.Mod) []api.Change {
	l := []api.Change{
		{CSN: num(2, 0, 0), Kind: api.KModify, ID: num(1, 0, 0), Mods: []api.Mod{m}},
		{CSN: num(2, 0, 0), Kind: api.KModify, ID: num(1, 0, 0), Mods: []api.Mod{mod(api.MReplace, "cn", "a"), m, mod(api.MDelete, "sn", "b")}},
	}
	if m.Kind == api.MAdd {
		l = append(l,
			api.Change{CSN: num(2, 0, 0), Kind: api.KAdd, ID: num(2, 0, 0), RDN: rdn("cn", "a"), Mods: []api.Mod{m}},
			api.Change{CSN: num(2, 0, 0), Kind: api.KAdd, ID: num(2, 0, 0), RDN: rdn("cn", "a"), Mods: []api.Mod{mod(api.MAdd, "sn", "a", "b"), m}})
	}
	return l
}

// TestValues: how many Values, and which.
func TestValues(t *testing.T) { // P13.1, P13.2, P13.3
	for kind := api.MAdd; kind <= api.MReplace; kind++ {
		for _, n := range []int{0, 1, 2, maxValues - 1, maxValues, maxValues + 1, maxValues + 2, 200} {
			for _, attr := range []string{"cn", "title"} { // what attrs would make of them plays no part
				for _, c := range modified(mod(kind, attr, numbered(n)...)) {
					if n <= maxValues && (n > 0 || kind != api.MAdd) {
						isChange(t, c, "Values")
					} else {
						isNone(t, c, "Values")
					}
				}
			}
		}
	}
}

// valuesOf tells for each type values that can be, and such as can't.
func valuesOf(name string) (can, not []string) {
	long := strings.Repeat("a", maxValue)
	not = []string{"", long + "a", strings.Repeat("a", 1<<10)}
	switch name {
	case "userpassword":
		return []string{"a", long, "\x00", " ", "\xff", "\x1f\x7f\x80", strings.Repeat("\xff", maxValue)}, append(not, strings.Repeat("\xff", maxValue+1))
	case "uidnumber":
		return []string{"0", "7", "-7", "999999999999999", "-999999999999999"}, append(not, "07", "-0", "-", "+7", " 7", "7 ", "7a", "1000000000000000", long)
	case "member":
		return []string{"cn=a", "CN=A+sn=b,o=c", `x=\00`, "cn=" + strings.Repeat("a", maxValue-3)}, append(not, "a", "cn", "cn=", "cn=a,", "cn= a", "cn="+strings.Repeat("a", maxValue-2), long)
	case "aci", "mail", "entryid":
		return []string{"a", "~", " ", "   ", "A b", long}, append(not, "\x1f", "\x7f", "a\x00", "\xff", "ä")
	}
	return []string{"a", "~", " a ", "A b", "#", ",", long, strings.Repeat(" ", maxValue-1) + "a"}, append(not, " ", "   ", "\x1f", "\x7f", "a\x00", "\xff", "ä")
}

// TestEachType: values of each type, alone, and at each place among others.
func TestEachType(t *testing.T) { // P13.1, P13.2, P13.3
	for _, name := range names {
		can, not := valuesOf(name)
		for kind := api.MAdd; kind <= api.MReplace; kind++ {
			for _, v := range can {
				for _, c := range append(modified(mod(kind, name, v)), modified(mod(kind, name, can[0], v, can[0]))...) {
					if name == "entryid" {
						isNone(t, c, "entryid")
					} else {
						isChange(t, c, "a value")
					}
				}
			}
			for _, v := range not {
				for i := range 3 {
					l := []string{can[0], can[0]}
					for _, c := range modified(mod(kind, name, slices.Insert(l, i, v)...)) {
						isNone(t, c, "a value that can't be")
					}
				}
				for _, c := range modified(mod(kind, name, v)) {
					isNone(t, c, "a value that can't be")
				}
			}
		}
		for _, v := range can {
			c := with(ofKind(api.KMove), func(c *api.Change) { c.RDN = rdn(name, v) })
			if name == "entryid" {
				isNone(t, c, "entryid")
			} else {
				isChange(t, c, "a value in RDN")
			}
		}
		for _, v := range not {
			isNone(t, with(ofKind(api.KMove), func(c *api.Change) { c.RDN = rdn(name, v) }), "a value in RDN that can't be")
			isNone(t, with(ofKind(api.KAdd), func(c *api.Change) { c.RDN = append(rdn("c", "b"), rdn(name, v)...) }), "a value in RDN that can't be")
		}
	}
}

// TestNoType: a Mod of a name that isn't one of schema's, as it tells them.
func TestNoType(t *testing.T) { // P13.1
	for kind := api.MAdd; kind <= api.MReplace; kind++ {
		for _, name := range append(noTypes, "entryid") {
			for _, m := range []api.Mod{mod(kind, name), mod(kind, name, "a"), mod(kind, name, "7")} {
				for _, c := range modified(m) {
					isNone(t, c, "no type")
				}
			}
		}
		for _, name := range names {
			for _, other := range []string{strings.ToUpper(name), strings.ToUpper(name[:1]) + name[1:], name + " ", " " + name, name + "\x00", name + name} {
				if slices.Contains(names, other) {
					continue
				}
				for _, c := range modified(mod(kind, other, valueFor(name))) {
					isNone(t, c, "another name")
				}
			}
		}
	}
}

// fillers tells Mods that are long, so many of them, all but the first one with values of as many bytes as may be; and one more, of which the last of n values is a short one.
func fillers(mods, size, n, last int) []api.Mod {
	full := func(n, size int) []string { return slices.Repeat([]string{strings.Repeat("a", size)}, n) }
	l := slices.Repeat([]api.Mod{mod(api.MAdd, "cn", full(maxValues, maxValue)...)}, mods)
	l[0].Values = full(maxValues, size)
	return append(l, mod(api.MAdd, "o", append(full(n-1, maxValue), strings.Repeat("b", last))...))
}

// filled tells c with so many Mods that it takes n bytes. A value more is three bytes at least, a longer length one: so not each way comes to n.
func filled(c api.Change, n int) api.Change {
	for mods := 5; mods > 3; mods-- {
		for size := maxValue; size > maxValue-4; size-- {
			for values := 1; values <= maxValues; values++ {
				c.Mods = fillers(mods, size, values, 1)
				lack := n - len(bytesOf(c))
				for last := max(1, lack-3); last <= min(lack+1, maxValue); last++ {
					c.Mods = fillers(mods, size, values, last)
					if len(bytesOf(c)) == n {
						return c
					}
				}
			}
		}
	}
	panic("there is no change of " + strconv.Itoa(n) + " bytes")
}

// sized tells changes of that many bytes, whether or not that is too many.
func sized(n int) []api.Change {
	var l []api.Change
	for _, c := range []api.Change{
		{CSN: num(2, 0, 0), Kind: api.KModify, ID: num(1, 0, 0)},
		{CSN: num(2, 0, 0), Kind: api.KAdd, ID: num(2, 0, 0), RDN: rdn("cn", "x")},
		{CSN: num(maxTime, maxSeq, 5), Kind: api.KModify, ID: num(maxTime, maxSeq, 4)},
		{CSN: num(maxTime, maxSeq, 5), Kind: api.KAdd, ID: num(maxTime, maxSeq, 5), Parent: num(maxTime, maxSeq, 4), RDN: rdn("userpassword", strings.Repeat("\xff", maxValue))},
	} {
		l = append(l, filled(c, n))
	}
	return l
}

// TestSize: bytes as many as may be, and more.
func TestSize(t *testing.T) { // P13.2, P13.3
	for n := maxSize - 8; n <= maxSize+24; n++ {
		for _, c := range sized(n) {
			if n <= maxSize {
				isChange(t, c, strconv.Itoa(n)+" bytes")
				continue
			}
			if !change.Is(c) {
				t.Errorf("P13.1: %d bytes: isn't Is: %s", n, short(c))
			}
			if s, err := change.Bytes(c); s != "" || err != api.ErrLarge {
				t.Errorf("P13.2: %d bytes: %.99q, %v", n, s, err)
			}
			refused(t, bytesOf(c), strconv.Itoa(n)+" bytes")
			if d := change.Copy(c); !change.Same(c, d) || told(c) != told(d) {
				t.Errorf("P13.1: %d bytes: Copy of %s: %s", n, short(c), short(d))
			}
		}
	}
}

// TestLarge: as many Mods and Values as may be, and a change that is none beside it.
func TestLarge(t *testing.T) { // P13.1, P13.2
	values := slices.Repeat([]string{strings.Repeat("\xff", maxValue)}, maxValues)
	for _, kind := range []int{api.KAdd, api.KModify} {
		c := with(ofKind(kind), func(c *api.Change) {
			c.Mods = slices.Repeat([]api.Mod{mod(api.MAdd, "userpassword", values...)}, maxMods)
		})
		if s, err := change.Bytes(c); !change.Is(c) || s != "" || err != api.ErrLarge {
			t.Errorf("P13.2: %d Mods of %d Values: %.99q, %v", maxMods, maxValues, s, err)
		}
		refused(t, bytesOf(c), "a large one")
		c.Mods = c.Mods[:5]
		isChange(t, c, "5 Mods of as many Values as may be")
		c.Mods = slices.Repeat(c.Mods[:1], maxMods+1)
		isNone(t, c, "a Mod more")
		c.Mods = c.Mods[:maxMods]
		c.Mods[maxMods-1].Attr = "x" // ErrForm, too large or not
		isNone(t, c, "a large one that is none")
	}
}

// TestSpoilt: a change's bytes cut off at each place, with more behind, with each byte turned, taken out, put in twice.
func TestSpoilt(t *testing.T) { // P13.2
	refused(t, "", "no bytes")
	for _, c := range right() {
		s := bytesOf(c)
		for i := range len(s) {
			refused(t, s[:i], "cut off")
			refused(t, s[i+1:], "cut off ahead")
			for b := range 256 {
				if byte(b) != s[i] {
					judged(t, s[:i]+string([]byte{byte(b)})+s[i+1:], "a byte turned")
				}
			}
			judged(t, s[:i]+s[i+1:], "a byte less")
			judged(t, s[:i]+s[i:i+1]+s[i:], "a byte twice")
		}
		for b := range 256 {
			refused(t, s+string([]byte{byte(b)}), "one byte more")
			refused(t, string([]byte{byte(b)})+s, "one byte ahead")
		}
		refused(t, s+s, "twice")
	}
}

// TestTurnedIsAnother: where turned bytes are just those of another change, that one is read.
func TestTurnedIsAnother(t *testing.T) { // P13.2
	c := api.Change{CSN: num(2, 0, 0), Kind: api.KDelete, ID: num(1, 0, 0)}
	s, _ := change.Bytes(c)
	for from, to := range map[string]struct {
		bytes string
		want  api.Change
	}{
		"2.0.0": {"3.0.0", api.Change{CSN: num(3, 0, 0), Kind: api.KDelete, ID: num(1, 0, 0)}},
		"1.0.0": {"1.9.5", api.Change{CSN: num(2, 0, 0), Kind: api.KDelete, ID: num(1, 9, 5)}},
	} {
		got, err := change.Read(strings.Replace(s, from, to.bytes, 1))
		if err != api.OK || told(got) != told(to.want) {
			t.Errorf("P13.2: %s, %v; want %s", short(got), err, short(to.want))
		}
	}
	for _, bytes := range []string{"0.0.0", "1.0.6", "2.0.0", "2.0.1", "-.0.0", "1,0.0", "1.0. "} {
		refused(t, strings.Replace(s, "1.0.0", bytes, 1), "an ID of a KDelete")
	}
}

// TestOtherwise: other bytes that say the same.
func TestOtherwise(t *testing.T) { // P13.2
	long := func(s string) string { return s[:1] + "\x81" + s[1:] }          // the length in a byte more
	longer := func(s string) string { return s[:1] + "\x82\x00" + s[1:] }    // in two more
	ahead := func(s string) string { return el(s[0], "\x00"+s[2:]) }         // a nought ahead
	within := func(s string) string { return el(48, s) }                     // in another element
	behind := func(s string) string { return s + el(4, "") }                 // something behind it
	tag := func(s string) string { return string([]byte{s[0] ^ 1}) + s[1:] } // another tag
	class := func(s string) string { return string([]byte{s[0] ^ 128}) + s[1:] }
	for _, c := range right() {
		s := bytesOf(c)
		for what, f := range map[string]func(string) string{"long": long, "longer": longer, "within": within, "behind": behind, "tag": tag, "class": class} {
			if len(s) < 130 || what != "long" && what != "longer" {
				refused(t, f(s), what)
			}
		}
		parts := partsOf(c)
		if el(48, parts...) != s {
			t.Fatalf("the parts of %s", short(c))
		}
		for i := range parts {
			for what, f := range map[string]func(string) string{"long": long, "longer": longer, "ahead": ahead, "within": within, "behind": behind, "tag": tag, "class": class} {
				other := slices.Clone(parts)
				other[i] = f(parts[i])
				refused(t, el(48, other...), "part "+strconv.Itoa(i)+" "+what)
			}
			refused(t, el(48, slices.Delete(slices.Clone(parts), i, i+1)...), "a part less")
			refused(t, el(48, slices.Insert(slices.Clone(parts), i, parts[i])...), "a part twice")
			refused(t, el(48, slices.Insert(slices.Clone(parts), i, el(4, ""))...), "a part more")
			refused(t, el(48, parts[:i]...), "parts cut off")
		}
		refused(t, el(48, append(slices.Clone(parts), el(48))...), "a part behind all")
		refused(t, el(48, append(slices.Clone(parts), "\x05\x00")...), "a part behind all")
	}
	otherwise(t, ofKind(api.KMove), 5, "\x01\x01\x01", "\x01\x01\x7f", "\x01\x00", "\x01\x02\xff\xff", "\x02\x01\xff")
	otherwise(t, ofKind(api.KDelete), 5, "\x01\x01\x80", "\x01\x00", "\x01\x02\x00\x00", "\x01\x01\xff")
	otherwise(t, ofKind(api.KDelete), 0, "\x02\x00", "\x02\x02\x00\x02", "\x02\x09\x00\x00\x00\x00\x00\x00\x00\x00\x02", "\x02\x08\x01\x00\x00\x00\x00\x00\x00\x02", "\x02\x05\x01\x00\x00\x00\x02", "\x04\x012", "\x02\x01\x82")
	for _, i := range []int{1, 2} {
		otherwise(t, ofKind(api.KDelete), i, el(4, ""), el(4, "05.1.1"), el(4, "5.01.1"), el(4, "5.1.01"), el(4, "+5.1.1"), el(4, "5.1.1 "), el(4, " 5.1.1"), el(4, "5.1"), el(4, "5.1.1.0"), el(4, "5.1.1."), el(4, "9.3.2."), el(4, "-5.1.1"), el(4, "5.-1.1"), el(4, "0x5.1.1"))
	}
	otherwise(t, ofKind(api.KDelete), 3, el(4, ""), el(4, "0"), el(4, "0.0"), el(4, "0.0.00"), el(4, "-0.0.0"))
	otherwise(t, ofKind(api.KDelete), 4, el(4, "="), el(4, " "), el(4, "cn="), el(4, "cn=a"), el(4, "+"))
	otherwise(t, ofKind(api.KMove), 4, el(4, "ou=#x"), el(4, `ou=\23x`), el(4, `ou=\#\x`), el(4, `OU=\#x`), el(4, `Ou=\#x`), el(4, `ou=\#\78`), el(4, `ou=\#x,`), el(4, `ou=\#x+`), el(4, ` ou=\#x`), el(4, ""))
	otherwise(t, ofKind(api.KAdd), 4, el(4, `cn=Ann+sn=b,c`), el(4, `cn=Ann+sn=b\2cc`), el(4, `cn=Ann+sn=b\2Cc`), el(4, `cn=Ann,sn=b\,c`), el(4, `cn=Ann+sn=b\,c,o=x`), el(4, `cn=A\6en+sn=b\,c`))
	otherwise(t, ofKind(api.KDelete), 6, el(48, el(48)), el(48, el(4, "")), el(48, el(48, kindBytes(0), el(4, ""), el(48))), "\x30\x81\x00", "\x31\x00", "\x10\x00")
}

// otherwise asks that the bytes of c with others at that part are nobody's.
func otherwise(t *testing.T, c api.Change, part int, bytes ...string) {
	t.Helper()
	for _, b := range bytes {
		parts := partsOf(c)
		parts[part] = b
		refused(t, el(48, parts...), "part "+strconv.Itoa(part)+" otherwise")
	}
}

// TestModsOtherwise: other bytes that say the same of a Mod, or nothing.
func TestModsOtherwise(t *testing.T) { // P13.2
	c := ofKind(api.KModify)
	one, attr, values := kindBytes(api.MAdd), el(4, "mail"), el(48, el(4, "x@y"))
	for _, m := range []string{
		"", el(48), el(48, one), el(48, one, attr), el(48, attr, values), el(48, one, values), el(48, one, values, attr), el(48, attr, one, values),
		el(48, one, attr, values, el(4, "")), el(48, one, attr, values, values), el(48, one, attr, el(4, "x@y")), el(48, one, attr, el(48, el(48, el(4, "x@y")))),
		el(48, one, attr, el(49, el(4, "x@y"))), el(48, one, attr, el(48, el(12, "x@y"))), el(48, one, attr, el(48, "\x04\x81\x03x@y")), el(48, one, attr, el(48)),
		el(48, one, attr, el(48, el(4, ""))), el(48, one, attr, el(48, el(4, "x@y"), el(4, ""))), el(48, one, attr, el(48, el(36, el(4, "x@y")))),
		el(48, el(2, "\x00\x01"), attr, values), el(48, el(2), attr, values), el(48, el(10, "\x01"), attr, values), el(48, el(2, "\x00"), attr, values), el(48, el(2, "\x04"), attr, values), el(48, el(2, "\x01\x00\x00\x00\x00\x00\x00\x00\x01"), attr, values), el(48, el(2, "\xff"), attr, values),
		el(48, one, el(4, "Mail"), values), el(48, one, el(4, ""), values), el(48, one, el(12, "mail"), values), el(48, one, el(4, "mail "), values),
		el(49, one, attr, values), el(16, one, attr, values), "\x30\x81" + el(48, one, attr, values)[1:],
	} {
		for _, l := range [][]string{{m}, {m, modBytes(c.Mods[0])}, {modBytes(c.Mods[0]), m}} {
			if m != "" || len(l) == 1 {
				otherwise(t, c, 6, el(48, l...))
			}
		}
	}
	whole := partsOf(c)[6]
	otherwise(t, c, 6, el(49, whole[2:]), whole[2:], el(48, whole), "\x30\x81"+whole[1:])
}

// TestPrefix: no change's bytes begin another one's.
func TestPrefix(t *testing.T) { // P13.2
	l := right()
	for n := maxSize - 2; n <= maxSize; n++ {
		l = append(l, sized(n)...)
	}
	r := rand.New(rand.NewSource(13))
	for range 300 {
		l = append(l, someChange(r))
	}
	var all []string
	owners := map[string]string{}
	for _, c := range l {
		s, err := change.Bytes(c)
		if err != api.OK {
			t.Fatalf("P13.2: %v of %s", err, short(c))
		}
		if owner, ok := owners[s]; ok && owner != told(c) {
			t.Errorf("P13.2: one's bytes are another one's: %.300s and %s", owner, short(c))
		}
		owners[s] = told(c)
		all = append(all, s)
	}
	for i, a := range all {
		for j, b := range all {
			if a != b && strings.HasPrefix(b, a) {
				t.Errorf("P13.2: the bytes of %s begin those of %s", short(l[i]), short(l[j]))
			}
		}
	}
}

// differing tells changes that differ from c, and from one another, in one part alone, each part in its turn.
func differing(c api.Change) []api.Change {
	var l []api.Change
	add := func(do func(c *api.Change)) { l = append(l, with(c, do)) }
	for _, at := range []func(c *api.Change) *api.CSN{
		func(c *api.Change) *api.CSN { return &c.CSN },
		func(c *api.Change) *api.CSN { return &c.ID },
		func(c *api.Change) *api.CSN { return &c.Parent },
	} {
		add(func(c *api.Change) { at(c).Time++ })
		add(func(c *api.Change) { at(c).Time += 1 << 32 })
		add(func(c *api.Change) { at(c).Seq++ })
		add(func(c *api.Change) { at(c).Seq = -1 })
		add(func(c *api.Change) { at(c).Rep++ })
		add(func(c *api.Change) { at(c).Rep += 256 })
	}
	for _, kind := range []int{-1, 0, 1, 2, 3, 4, 5, 256 + c.Kind} {
		if kind != c.Kind {
			add(func(c *api.Change) { c.Kind = kind })
		}
	}
	add(func(c *api.Change) { c.DelOld = !c.DelOld })
	add(func(c *api.Change) { c.RDN = append(c.RDN, api.AVA{}) })
	add(func(c *api.Change) { c.RDN = append(c.RDN, api.AVA{Attr: "o", Value: "q"}) })
	add(func(c *api.Change) { c.RDN = append(rdn("o", "q"), c.RDN...) })
	if len(c.RDN) > 0 {
		add(func(c *api.Change) { c.RDN = nil })
	}
	if len(c.RDN) > 1 {
		add(func(c *api.Change) { c.RDN = c.RDN[1:] })
		add(func(c *api.Change) { c.RDN = c.RDN[:len(c.RDN)-1] })
		add(func(c *api.Change) { slices.Reverse(c.RDN) })
	}
	for i, a := range c.RDN {
		add(func(c *api.Change) { c.RDN[i].Attr = strings.ToUpper(a.Attr) })
		add(func(c *api.Change) { c.RDN[i].Attr += "x" })
		add(func(c *api.Change) { c.RDN[i].Attr = "" })
		add(func(c *api.Change) { c.RDN[i].Value += " " })
		add(func(c *api.Change) { c.RDN[i].Value = strings.ToUpper(a.Value) + "X" })
		add(func(c *api.Change) { c.RDN[i].Value = "" })
	}
	add(func(c *api.Change) { c.Mods = append(c.Mods, api.Mod{}) })
	add(func(c *api.Change) { c.Mods = append(c.Mods, mod(api.MAdd, "o", "q")) })
	add(func(c *api.Change) { c.Mods = append([]api.Mod{mod(api.MAdd, "o", "q")}, c.Mods...) })
	if len(c.Mods) > 0 {
		add(func(c *api.Change) { c.Mods = nil })
	}
	if len(c.Mods) > 1 {
		add(func(c *api.Change) { c.Mods = c.Mods[1:] })
		add(func(c *api.Change) { c.Mods = c.Mods[:len(c.Mods)-1] })
		add(func(c *api.Change) { slices.Reverse(c.Mods) })
	}
	for i, m := range c.Mods {
		for _, kind := range []int{-1, 0, 1, 2, 3, 4} {
			if kind != m.Kind {
				add(func(c *api.Change) { c.Mods[i].Kind = kind })
			}
		}
		add(func(c *api.Change) { c.Mods[i].Attr = strings.ToUpper(m.Attr) })
		add(func(c *api.Change) { c.Mods[i].Attr += "x" })
		add(func(c *api.Change) { c.Mods[i].Values = append(c.Mods[i].Values, "") })
		add(func(c *api.Change) { c.Mods[i].Values = append(c.Mods[i].Values, "q") })
		add(func(c *api.Change) { c.Mods[i].Values = append([]string{"q"}, c.Mods[i].Values...) })
		if len(m.Values) > 0 {
			add(func(c *api.Change) { c.Mods[i].Values = nil })
		}
		if len(m.Values) > 1 {
			add(func(c *api.Change) { c.Mods[i].Values = c.Mods[i].Values[1:] })
			add(func(c *api.Change) { slices.Reverse(c.Mods[i].Values) })
		}
		for j := range m.Values {
			add(func(c *api.Change) { c.Mods[i].Values[j] += " " })
			add(func(c *api.Change) { c.Mods[i].Values[j] = "\x00" + c.Mods[i].Values[j] })
		}
	}
	return l
}

func TestSame(t *testing.T) { // P13.1
	for _, kind := range kinds {
		c := ofKind(kind)
		l := append(differing(c), c)
		for i, a := range l {
			for j, b := range l {
				if want := i == j || told(a) == told(b); change.Same(a, b) != want {
					t.Errorf("P13.1: not %v: Same of %s, %s", want, short(a), short(b))
				}
			}
			if !change.Same(a, with(a, func(*api.Change) {})) {
				t.Errorf("P13.1: not the Same: %s", short(a))
			}
			if d := change.Copy(a); told(d) != told(a) || !change.Same(a, d) {
				t.Errorf("P13.1: Copy of %s: %s", short(a), short(d))
			}
		}
		for i, a := range l[:len(l)-1] {
			if told(a) == told(c) {
				t.Fatalf("%d doesn't differ: %s", i, short(a))
			}
		}
	}
	all := right()
	for i, a := range all {
		for j, b := range all {
			if change.Same(a, b) != (told(a) == told(b)) || i == j && !change.Same(a, b) {
				t.Errorf("P13.1: Same of %s, %s", short(a), short(b))
			}
		}
	}
	if !change.Same(api.Change{}, api.Change{RDN: api.RDN{}, Mods: []api.Mod{}}) || change.Same(api.Change{}, api.Change{RDN: api.RDN{{}}}) || change.Same(api.Change{}, api.Change{Mods: make([]api.Mod, 1)}) {
		t.Error("P13.1: Same of nothing")
	}
	if got := change.Copy(api.Change{}); !change.Same(got, api.Change{}) || told(got) != told(api.Change{}) {
		t.Errorf("P13.1: Copy of nothing: %s", short(got))
	}
}

// TestSplit: bytes that lie otherwise in lists make another change.
func TestSplit(t *testing.T) { // P13.1, P13.2
	base := api.Change{CSN: num(2, 0, 0), Kind: api.KModify, ID: num(1, 0, 0)}
	var l []api.Change
	for _, mods := range [][]api.Mod{
		{mod(api.MReplace, "cn", "a", "b")},
		{mod(api.MReplace, "cn", "b", "a")},
		{mod(api.MReplace, "cn", "ab")},
		{mod(api.MReplace, "cn", "a"), mod(api.MReplace, "cn", "b")},
		{mod(api.MReplace, "cn", "a", "b"), mod(api.MReplace, "cn")},
		{mod(api.MReplace, "cn"), mod(api.MReplace, "cn", "a", "b")},
		{mod(api.MDelete, "cn", "a", "b")},
		{mod(api.MAdd, "cn", "a", "b")},
		{mod(api.MReplace, "c", "na", "b")},
		{mod(api.MReplace, "cn")},
		{mod(api.MReplace, "cn"), mod(api.MReplace, "cn")},
	} {
		l = append(l, with(base, func(c *api.Change) { c.Mods = mods }))
	}
	for i, a := range l {
		isChange(t, a, "split")
		for j, b := range l {
			x, _ := change.Bytes(a)
			y, _ := change.Bytes(b)
			if (i == j) != (x == y) || (i == j) != change.Same(a, b) {
				t.Errorf("P13.1: %s and %s", short(a), short(b))
			}
		}
	}
}

func pick[T any](r *rand.Rand, l ...T) T { return l[r.Intn(len(l))] }

// someNumber tells a number; often one of few, so that two meet.
func someNumber(r *rand.Rand) api.CSN {
	switch r.Intn(3) {
	case 0:
		return num(r.Int63n(maxTime+1), r.Intn(maxSeq+1), r.Intn(maxReps))
	case 1:
		return num(r.Int63n(4), r.Intn(3), r.Intn(maxReps))
	}
	return num(5, r.Intn(3), r.Intn(3))
}

// someBelow tells a number below c, if there is one.
func someBelow(r *rand.Rand, c api.CSN) api.CSN {
	for range 20 {
		if n := someNumber(r); isBelow(n, c) {
			return n
		}
	}
	return api.CSN{}
}

// someValue tells a value that can be one of that type.
func someValue(r *rand.Rand, name string) string {
	if r.Intn(3) == 0 {
		can, _ := valuesOf(name)
		return pick(r, can...)
	}
	switch name {
	case "uidnumber":
		return strconv.Itoa(r.Intn(2001) - 1000)
	case "member":
		return "cn=" + strings.Repeat("b", 1+r.Intn(5))
	}
	b := make([]byte, 1+r.Intn(9))
	for i := range b {
		b[i] = byte(32 + r.Intn(95))
		if name == "userpassword" {
			b[i] = byte(r.Intn(256))
		}
	}
	b[r.Intn(len(b))] = 'v'
	return string(b)
}

// someName tells a type that a change may have.
func someName(r *rand.Rand) string {
	name := pick(r, names...)
	if name == "entryid" {
		return "cn"
	}
	return name
}

func someRDN(r *rand.Rand) api.RDN {
	var l api.RDN
	for range 1 + r.Intn(maxAVAs-1) {
		name := someName(r)
		if !slices.ContainsFunc(l, func(a api.AVA) bool { return a.Attr == name }) {
			l = append(l, api.AVA{Attr: name, Value: someValue(r, name)})
		}
	}
	return l
}

// someMods tells at least least Mods.
func someMods(r *rand.Rand, least int, kinds ...int) []api.Mod {
	var l []api.Mod
	for range least + r.Intn(maxMods+1-least) {
		m := api.Mod{Kind: pick(r, kinds...), Attr: someName(r)}
		for range r.Intn(5) {
			m.Values = append(m.Values, someValue(r, m.Attr))
		}
		if m.Kind == api.MAdd && len(m.Values) == 0 {
			m.Values = []string{someValue(r, m.Attr)}
		}
		l = append(l, m)
	}
	return l
}

// someChange tells a change that is Is, and not too large.
func someChange(r *rand.Rand) api.Change {
	c := api.Change{Kind: pick(r, kinds...)}
	for c.CSN.Time == 0 && c.CSN.Seq == 0 {
		c.CSN = someNumber(r)
	}
	c.ID = someBelow(r, c.CSN)
	if c.ID == (api.CSN{}) && c.Kind != api.KModify {
		c.ID = num(0, 0, 1)
	}
	switch c.Kind {
	case api.KAdd:
		c.ID, c.Parent, c.RDN, c.Mods = c.CSN, someBelow(r, c.CSN), someRDN(r), someMods(r, 0, api.MAdd)
	case api.KModify:
		c.Mods = someMods(r, 1, api.MAdd, api.MDelete, api.MReplace)
	case api.KMove:
		c.Parent, c.RDN, c.DelOld = someBelow(r, c.CSN), someRDN(r), r.Intn(2) == 0
	}
	return c
}

// canBe tells whether v can be a value of that type, told anew from the document.
func canBe(name, v string) bool {
	if v == "" || len(v) > maxValue || !slices.Contains(names, name) {
		return false
	}
	plain := !strings.ContainsFunc(v, func(c rune) bool { return c < 32 || c > 126 })
	switch name {
	case "userpassword":
		return true
	case "member":
		_, err := dn.Parse(v)
		return err == api.OK
	case "uidnumber":
		n, err := strconv.ParseInt(v, 10, 64)
		return err == nil && strconv.FormatInt(n, 10) == v && -1000000000000000 < n && n < 1000000000000000
	case "aci", "mail", "entryid":
		return plain
	}
	return plain && strings.Trim(v, " ") != ""
}

// modelIs is Is, told anew from the document.
func modelIs(c api.Change) bool {
	zero := api.CSN{}
	if !isNumber(c.CSN) || c.CSN == zero || !isNumber(c.ID) || !isNumber(c.Parent) {
		return false
	}
	place := isBelow(c.Parent, c.CSN) && 0 < len(c.RDN) && len(c.RDN) < maxAVAs
	seen := map[string]bool{}
	for _, a := range c.RDN {
		place = place && a.Attr != "entryid" && canBe(a.Attr, a.Value) && !seen[a.Attr]
		seen[a.Attr] = true
	}
	noPlace := c.Parent == zero && len(c.RDN) == 0
	mods, adds := len(c.Mods) <= maxMods, true
	for _, m := range c.Mods {
		adds = adds && m.Kind == api.MAdd
		mods = mods && 1 <= m.Kind && m.Kind <= 3 && m.Attr != "entryid" && slices.Contains(names, m.Attr) && len(m.Values) <= maxValues && (len(m.Values) > 0 || m.Kind != api.MAdd)
		for _, v := range m.Values {
			mods = mods && canBe(m.Attr, v)
		}
	}
	switch c.Kind {
	case 1:
		return c.ID == c.CSN && place && !c.DelOld && mods && adds
	case 2:
		return c.ID != zero && isBelow(c.ID, c.CSN) && noPlace && !c.DelOld && len(c.Mods) == 0
	case 3:
		return isBelow(c.ID, c.CSN) && noPlace && !c.DelOld && mods && len(c.Mods) > 0
	case 4:
		return c.ID != zero && isBelow(c.ID, c.CSN) && place && len(c.Mods) == 0
	}
	return false
}

// spoil turns one thing of c, which may be one still behind it.
func spoil(r *rand.Rand, c *api.Change) {
	switch r.Intn(9) {
	case 0:
		*pick(r, &c.CSN, &c.ID, &c.Parent) = pick(r, numbers()...)
	case 1:
		*pick(r, &c.CSN, &c.ID, &c.Parent) = pick(r, c.CSN, c.ID, c.Parent)
	case 2:
		c.Kind = pick(r, 0, 1, 2, 3, 4, 5)
	case 3:
		c.DelOld = !c.DelOld
	case 4:
		c.RDN = append(c.RDN, api.AVA{Attr: pick(r, "cn", "o", "entryid", "CN", "x"), Value: someValue(r, "cn")})
	case 5:
		c.RDN = nil
	case 6:
		for range 1 + r.Intn(3) {
			c.Mods = append(c.Mods, mod(r.Intn(5), pick(r, "cn", "o", "entryid", "CN", "x"), pick(r, nil, numbered(1), numbered(maxValues), numbered(maxValues+1))...))
		}
	case 7:
		c.Mods = nil
	case 8:
		name := pick(r, names...)
		can, not := valuesOf(name)
		v := pick(r, pick(r, can, not)...)
		if len(c.RDN) > 0 && r.Intn(2) == 0 {
			c.RDN[r.Intn(len(c.RDN))] = api.AVA{Attr: name, Value: v}
		} else if len(c.Mods) > 0 {
			c.Mods[r.Intn(len(c.Mods))] = mod(1+r.Intn(3), name, v)
		}
	}
}

// TestModel: changes by chance, and such as aren't any.
func TestModel(t *testing.T) { // P13.1, P13.2, P13.3
	r := rand.New(rand.NewSource(1))
	var are, arent int
	for range 6000 {
		c := someChange(r)
		isChange(t, c, "by chance")
		for range 1 + r.Intn(3) {
			c = with(c, func(c *api.Change) { spoil(r, c) })
			if modelIs(c) {
				are++
				isChange(t, c, "turned by chance")
			} else {
				arent++
				isNone(t, c, "turned by chance")
			}
		}
		if t.Failed() {
			return
		}
	}
	if are < 1000 || arent < 1000 {
		t.Errorf("too few of one sort: %d, %d", are, arent)
	}
}

// TestWrongByChance: bytes of changes, turned in several places.
func TestWrongByChance(t *testing.T) { // P13.2
	r := rand.New(rand.NewSource(2))
	for range 4000 {
		s := []byte(bytesOf(someChange(r)))
		for range 1 + r.Intn(3) {
			s[r.Intn(len(s))] = pick(r, byte(r.Intn(256)), '0', '1', '.', 1, 2, 4, 48, 0)
		}
		judged(t, string(s), "turned by chance")
		at, size := r.Intn(len(s)), r.Intn(9)
		judged(t, string(slices.Delete(s, at, min(at+size, len(s)))), "taken out by chance")
	}
	for range 4000 {
		s := make([]byte, r.Intn(60))
		for i := range s {
			s[i] = pick(r, byte(r.Intn(256)), 48, 4, 5, 2, 1, 0)
		}
		judged(t, string(s), "by chance")
	}
}

// TestAgain: what is told hangs on nothing but what is asked.
func TestAgain(t *testing.T) { // what holds everywhere
	r := rand.New(rand.NewSource(3))
	var l []api.Change
	var all []string
	for range 50 {
		c := someChange(r)
		s, _ := change.Bytes(c)
		l, all = append(l, c), append(all, s)
	}
	for range 200 {
		i := r.Intn(len(l))
		s, err := change.Bytes(change.Copy(l[i]))
		got, bad := change.Read(all[i])
		if s != all[i] || err != api.OK || told(got) != told(l[i]) || bad != api.OK {
			t.Errorf("%s: another time it is told otherwise", short(l[i]))
		}
	}
}

// TestLong: long inputs are answered, and at once.
func TestLong(t *testing.T) { // P13.1, P13.2
	text := strings.Repeat("a", 1<<20)
	for _, kind := range kinds {
		for _, do := range []func(c *api.Change){
			func(c *api.Change) { c.RDN = rdn("cn", text) },
			func(c *api.Change) { c.RDN = rdn(text, "a") },
			func(c *api.Change) { c.RDN = slices.Repeat(rdn("cn", "a"), 1<<18) },
			func(c *api.Change) { c.RDN = make(api.RDN, 1<<18) },
			func(c *api.Change) { c.Mods = []api.Mod{mod(api.MAdd, text, "a")} },
			func(c *api.Change) { c.Mods = []api.Mod{mod(api.MAdd, "cn", text)} },
			func(c *api.Change) { c.Mods = []api.Mod{mod(api.MAdd, "cn", slices.Repeat([]string{"a"}, 1<<20)...)} },
			func(c *api.Change) { c.Mods = slices.Repeat([]api.Mod{mod(api.MAdd, "cn", "a")}, 1<<18) },
			func(c *api.Change) { c.Mods = make([]api.Mod, 1<<18) },
		} {
			c := ofKind(kind)
			do(&c)
			if s, err := change.Bytes(c); change.Is(c) || s != "" || err != api.ErrForm {
				t.Errorf("P13.2: a long one: %.99q, %v", s, err)
			}
			if d := change.Copy(c); !change.Same(c, d) || !change.Same(d, c) {
				t.Error("P13.1: a long one: Copy isn't the Same")
			}
		}
	}
	for _, s := range []string{
		text, strings.Repeat("0", 1<<20), strings.Repeat("\x30\x80", 1<<20), strings.Repeat("\x30\x82\x0f\xa0", 1<<20), "\x30\x84\xff\xff\xff\xff" + text, "\x30\x84\x7f\xff\xff\xff" + text,
		bytesOf(ofKind(api.KAdd)) + text, "\x30\x82\x0f\xa0" + strings.Repeat("\x30\x00", 2000), "\x30\x82\x0f\xa0" + strings.Repeat("\x04\x00", 2000), "\x30\x82\x0f\xa0" + strings.Repeat("0\x02", 2000), strings.Repeat("\x00", 1<<20),
	} {
		refused(t, s, "a long one")
	}
	parts := partsOf(ofKind(api.KModify))
	for _, many := range []string{strings.Repeat(modBytes(mod(api.MAdd, "c", "a")), 100), strings.Repeat(el(48), 1800), strings.Repeat(el(4, ""), 1800)} {
		parts[6] = el(48, many)
		refused(t, el(48, parts...), "many Mods")
	}
	parts[6] = el(48, el(48, kindBytes(1), el(4, "cn"), el(48, strings.Repeat(el(4, "a"), 1200))))
	refused(t, el(48, parts...), "many Values")
	for _, i := range []int{1, 2, 3, 4} {
		for _, text := range []string{strings.Repeat("0", 3800), strings.Repeat("1.", 1900), "cn=" + strings.Repeat("a", 3800), strings.Repeat("cn=a+", 700) + "cn=a", strings.Repeat("cn=a,", 700) + "cn=a"} {
			parts := partsOf(ofKind(api.KMove))
			parts[i] = el(4, text)
			refused(t, el(48, parts...), "a long part")
		}
	}
}

// room tells c with room behind each of its lists, and a function that tells all that lies there and in them.
func room(c api.Change) (api.Change, func() string) {
	lists := [][]string{}
	rdn := append(slices.Clone(c.RDN), api.AVA{Attr: "cn", Value: "room"}, api.AVA{Attr: "sn", Value: "room"})
	mods := append(slices.Clone(c.Mods), mod(api.MAdd, "cn", "room"), mod(api.MDelete, "sn", "room"))
	for i := range mods {
		l := append(slices.Clone(mods[i].Values), "room", "more")
		lists = append(lists, l)
		mods[i].Values = l[:len(l)-2]
	}
	c.RDN, c.Mods = rdn[:len(c.RDN)], mods[:len(c.Mods)]
	return c, func() string {
		all := c
		all.RDN, all.Mods = rdn, mods
		return fmt.Sprintf("%s %q", told(all), lists)
	}
}

// scribble writes over all of c, and over the room behind its lists.
func scribble(c api.Change) {
	for i := range c.RDN[:cap(c.RDN)] {
		c.RDN[:cap(c.RDN)][i] = api.AVA{Attr: "o", Value: "scribbled"}
	}
	for _, m := range c.Mods[:cap(c.Mods)] {
		for i := range m.Values[:cap(m.Values)] {
			m.Values[:cap(m.Values)][i] = "scribbled"
		}
	}
	for i := range c.Mods[:cap(c.Mods)] {
		c.Mods[:cap(c.Mods)][i] = mod(-7, "o", "scribbled")
	}
}

// TestApart: what is handed in stays, the room behind it too; what is answered shares no list with it.
func TestApart(t *testing.T) { // what holds everywhere
	l := append(right(), api.Change{}, api.Change{RDN: api.RDN{}, Mods: []api.Mod{{Values: []string{}}, {}}})
	r := rand.New(rand.NewSource(4))
	for range 100 {
		c := someChange(r)
		l = append(l, c, with(c, func(c *api.Change) { spoil(r, c) }))
	}
	for _, c := range l {
		c, all := room(c)
		was, alone := all(), told(c)
		change.Is(c)
		s, _ := change.Bytes(c)
		change.Same(c, c)
		d, e := change.Copy(c), change.Copy(c)
		if all() != was {
			t.Fatalf("it was changed: %s, %s", was, all())
		}
		scribble(d)
		if all() != was || told(e) != alone {
			t.Errorf("Copy shares memory: %s, %s", was, all())
		}
		scribble(c)
		if told(e) != alone {
			t.Errorf("Copy shares memory: %s", alone)
		}
		if s == "" {
			continue
		}
		a, _ := change.Read(s)
		b, _ := change.Read(s)
		scribble(a)
		if told(b) != alone || s != bytesOf(b) {
			t.Errorf("Read shares memory: %s, %s", alone, short(b))
		}
	}
}

// TestListsApart: no two lists of one answer share memory, also not what lies behind them.
func TestListsApart(t *testing.T) { // what holds everywhere
	c := ofKind(api.KModify)
	c.Mods = nil
	for range maxMods {
		c.Mods = append(c.Mods, mod(api.MReplace, "cn", "a", "b", "c"))
	}
	shared := []string{"a", "b", "c"}
	same := c
	same.Mods = nil
	for range maxMods {
		same.Mods = append(same.Mods, mod(api.MReplace, "cn", shared...)) // what is handed in may share
	}
	s, _ := change.Bytes(c)
	read, _ := change.Read(s)
	for _, d := range []api.Change{change.Copy(c), change.Copy(same), read} {
		for i := range d.Mods {
			if cap(d.Mods[i].Values) == 0 {
				continue
			}
			for j := range d.Mods[i].Values[:cap(d.Mods[i].Values)] {
				d.Mods[i].Values[:cap(d.Mods[i].Values)][j] = "of " + strconv.Itoa(i)
			}
		}
		for i, m := range d.Mods {
			for _, v := range m.Values {
				if v != "of "+strconv.Itoa(i) {
					t.Fatalf("two lists share memory: %s", short(d))
				}
			}
		}
	}
}

// inside tells whether some byte of p is one of s in memory.
func inside(p, s string) bool {
	if p == "" || s == "" {
		return false
	}
	begin, at := uintptr(unsafe.Pointer(unsafe.StringData(s))), uintptr(unsafe.Pointer(unsafe.StringData(p)))
	return at < begin+uintptr(len(s)) && begin < at+uintptr(len(p))
}

// texts tells all texts of c.
func texts(c api.Change) []string {
	var l []string
	for _, a := range c.RDN {
		l = append(l, a.Attr, a.Value)
	}
	for _, m := range c.Mods {
		l = append(append(l, m.Attr), m.Values...)
	}
	return l
}

// TestTextsApart: no text that is answered lies in one that was handed in, which would be kept by it.
func TestTextsApart(t *testing.T) { // what holds everywhere
	for _, c := range right() {
		s, _ := change.Bytes(c)
		own := change.Copy(c)
		read, _ := change.Read(s)
		for _, a := range texts(own) {
			for _, b := range texts(c) {
				if len(a) > 1 && inside(a, b) { // of texts of one byte there is one for all
					t.Errorf("Copy: %q lies in what was handed in", a)
				}
			}
		}
		for _, a := range texts(read) {
			if len(a) > 1 && inside(a, s) {
				t.Errorf("Read: %q lies in what was handed in", a)
			}
		}
		for _, b := range texts(c) {
			if len(b) > 1 && inside(s, b) {
				t.Errorf("Bytes lie in what was handed in: %q", b)
			}
		}
	}
}

// TestWritable: what Bytes tells is one element, the same that ber reads.
func TestWritable(t *testing.T) { // P13.2
	for _, c := range right() {
		s, _ := change.Bytes(c)
		if _, n, _, err := ber.Read(s); err != api.OK || n != len(s) || len(s) > maxSize {
			t.Errorf("P13.2: %s: %d of %d bytes, %v", short(c), n, len(s), err)
		}
	}
}
