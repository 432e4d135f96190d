package msg

import (
	"prefect/api"
	"prefect/value"
)

// readMessage tells the message of e. It takes elements of which no message is made, too: of what isn't there, it tells what is empty.
func readMessage(e api.Element) api.Msg {
	o := kid(e, 1)
	m := api.Msg{ID: numberAt(e, 0)}
	m.Op, m.Of = operation(o.Tag)
	switch m.Op {
	case api.OBind:
		m.Version, m.DN, m.Pass = numberAt(o, 0), textAt(o, 1), textAt(o, 2)
	case api.OSearch:
		m.DN, m.Scope, m.Size = textAt(o, 0), numberAt(o, 1), numberAt(o, 3)
		m.Filter, m.Wants = readFilter(kid(o, 6)), eachOf(kid(o, 7), body)
	case api.OModify:
		m.DN, m.Mods = textAt(o, 0), eachOf(kid(o, 1), readModification)
	case api.OAdd, api.OEntry:
		m.DN, m.Mods = textAt(o, 0), eachOf(kid(o, 1), readAttribute)
	case api.ODelete:
		m.DN = o.Body
	case api.OMove:
		m.DN, m.RDN, m.DelOld = textAt(o, 0), textAt(o, 1), flagAt(o, 2)
		m.HasSup, m.Sup = len(o.Kids) > 3, textAt(o, 3)
	case api.OCompare:
		m.DN, m.Attr, m.Value = textAt(o, 0), textAt(kid(o, 1), 0), textAt(kid(o, 1), 1)
	case api.OResult:
		m.Code, m.Matched = numberAt(o, 0), textAt(o, 1)
	}
	return m
}

func readModification(e api.Element) api.Mod {
	d := readAttribute(kid(e, 1))
	d.Kind = numberAt(e, 0) + api.MAdd
	return d
}

func readAttribute(e api.Element) api.Mod {
	return api.Mod{Kind: api.MAdd, Attr: textAt(e, 0), Values: eachOf(kid(e, 1), body)}
}

func readFilter(e api.Element) api.Filter {
	f := api.Filter{Kind: filterKind(e.Tag)}
	switch f.Kind {
	case api.FAnd, api.FOr, api.FNot:
		f.Kids = eachOf(e, readFilter)
	case api.FPresent:
		f.Attr = e.Body
	case api.FSubs:
		f.Attr, f.Subs = textAt(e, 0), readSubs(kid(e, 1))
	default:
		f.Attr, f.Value = textAt(e, 0), textAt(e, 1)
	}
	return f
}

// readSubs tells the parts in e, and an empty one for the first or the last one that isn't there.
func readSubs(e api.Element) []string {
	first, last := "", ""
	var between []string
	for _, part := range e.Kids {
		switch part.Tag {
		case tagFirst:
			first = part.Body
		case tagBetween:
			between = append(between, part.Body)
		case tagLast:
			last = part.Body
		}
	}
	return append(append([]string{first}, between...), last)
}

// eachOf tells what read makes of the elements in e.
func eachOf[T any](e api.Element, read func(api.Element) T) []T {
	var l []T
	for _, inner := range e.Kids {
		l = append(l, read(inner))
	}
	return l
}

// kid tells the element at place i in e; an empty one, if there is none.
func kid(e api.Element, i int) api.Element {
	if i < len(e.Kids) {
		return e.Kids[i]
	}
	return api.Element{}
}

func body(e api.Element) string {
	return e.Body
}

func textAt(e api.Element, i int) string {
	return kid(e, i).Body
}

func numberAt(e api.Element, i int) int {
	n, _ := value.ReadInt(textAt(e, i))
	return int(n)
}

func flagAt(e api.Element, i int) bool {
	b, _ := value.ReadBool(textAt(e, i))
	return b
}
