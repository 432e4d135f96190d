package change

import (
	"prefect/api"
	"prefect/csn"
	"prefect/dn"
	"prefect/value"
)

const (
	tagFlag   = 1
	tagNumber = 2
	tagText   = 4
	tagList   = 48
)

// Places of a change's parts in its element. They are there whatever its Kind, so that a place alone says what is there.
const (
	atKind = iota
	atCSN
	atID
	atParent
	atRDN
	atDelOld
	atMods
	allParts
)

// Places of a Mod's parts in its element.
const (
	atHow = iota
	atAttr
	atValues
	allOfMod
)

// element tells the element of c, which is a change.
func element(c api.Change) api.Element {
	l := [allParts]api.Element{
		atKind:   number(c.Kind),
		atCSN:    text(csn.Text(c.CSN)),
		atID:     text(csn.Text(c.ID)),
		atParent: text(csn.Text(c.Parent)),
		atRDN:    text(dn.PrintRDN(c.RDN)),
		atDelOld: value.Text(tagFlag, value.Bool(c.DelOld)),
		atMods:   list(each(c.Mods, modElement)),
	}
	return list(l[:])
}

func modElement(m api.Mod) api.Element {
	l := [allOfMod]api.Element{
		atHow:    number(m.Kind),
		atAttr:   text(m.Attr),
		atValues: list(each(m.Values, text)),
	}
	return list(l[:])
}

func number(n int) api.Element {
	return value.Number(tagNumber, int64(n))
}

func text(s string) api.Element {
	return value.Text(tagText, s)
}

func list(l []api.Element) api.Element {
	return value.List(tagList, l)
}

// readElement tells the change of e. It takes elements of which no change is made, too: of what isn't there, or can't be read, it tells what is zero.
func readElement(e api.Element) api.Change {
	return api.Change{
		Kind:   numberAt(e, atKind),
		CSN:    csnAt(e, atCSN),
		ID:     csnAt(e, atID),
		Parent: csnAt(e, atParent),
		RDN:    rdnAt(e, atRDN),
		DelOld: flagAt(e, atDelOld),
		Mods:   each(kid(e, atMods).Kids, readMod),
	}
}

func readMod(e api.Element) api.Mod {
	return api.Mod{Kind: numberAt(e, atHow), Attr: textAt(e, atAttr), Values: each(kid(e, atValues).Kids, body)}
}

// kid tells the element at place i in e; an empty one, if there is none.
func kid(e api.Element, i int) api.Element {
	if i < len(e.Kids) {
		return e.Kids[i]
	}
	return api.Element{}
}

func body(e api.Element) string {
	return e.Body
}

func textAt(e api.Element, i int) string {
	return kid(e, i).Body
}

func numberAt(e api.Element, i int) int {
	n, _ := value.ReadInt(textAt(e, i))
	return int(n)
}

func flagAt(e api.Element, i int) bool {
	b, _ := value.ReadBool(textAt(e, i))
	return b
}

func csnAt(e api.Element, i int) api.CSN {
	c, _ := csn.Parse(textAt(e, i))
	return c
}

func rdnAt(e api.Element, i int) api.RDN {
	r, _ := dn.ParseRDN(textAt(e, i))
	return r
}

// each tells what f tells of each of l.
func each[A, B any](l []A, f func(A) B) []B {
	var told []B
	for _, a := range l {
		told = append(told, f(a))
	}
	return told
}
