package msg

import (
	"prefect/api"
	"prefect/value"
)

// message tells the element of m, which is a message.
func message(m api.Msg) api.Element {
	return sequence(integer(m.ID), operationElement(m))
}

func operationElement(m api.Msg) api.Element {
	tag := operationTag(m.Op, m.Of)
	switch m.Op {
	case api.OUnbind, api.ODelete:
		return value.Text(tag, m.DN) // an OUnbind has none
	}
	return value.List(tag, parts(m))
}

// parts tells what is in the element of m's operation, if that is more than a name.
func parts(m api.Msg) []api.Element {
	name := text(m.DN)
	switch m.Op {
	case api.OBind:
		return []api.Element{integer(m.Version), name, value.Text(tagPass, m.Pass)}
	case api.OSearch:
		return []api.Element{name, enumerated(m.Scope), enumerated(0), integer(m.Size), integer(0), flag(false), filterElement(m.Filter), sequence(each(m.Wants, text)...)}
	case api.OModify:
		return []api.Element{name, sequence(each(m.Mods, modification)...)}
	case api.OAdd, api.OEntry:
		return []api.Element{name, sequence(each(m.Mods, attribute)...)}
	case api.OMove:
		l := []api.Element{name, text(m.RDN), flag(m.DelOld)}
		if m.HasSup {
			l = append(l, value.Text(tagSup, m.Sup))
		}
		return l
	case api.OCompare:
		return []api.Element{name, sequence(text(m.Attr), text(m.Value))}
	}
	return []api.Element{enumerated(m.Code), text(m.Matched), text("")} // an OResult's
}

func modification(d api.Mod) api.Element {
	return sequence(enumerated(d.Kind-api.MAdd), attribute(d))
}

// attribute tells the element of d's attribute and values. What is done to them, it doesn't tell.
func attribute(d api.Mod) api.Element {
	return sequence(text(d.Attr), value.List(tagSet, each(d.Values, text)))
}

// filterElement tells the element of f, which is a filter.
func filterElement(f api.Filter) api.Element {
	tag := filterTag(f.Kind)
	switch f.Kind {
	case api.FAnd, api.FOr, api.FNot:
		return value.List(tag, each(f.Kids, filterElement))
	case api.FPresent:
		return value.Text(tag, f.Attr)
	case api.FSubs:
		return value.List(tag, []api.Element{text(f.Attr), sequence(subElements(f.Subs)...)})
	}
	return value.List(tag, []api.Element{text(f.Attr), text(f.Value)})
}

// subElements tells the elements of the parts of l that aren't empty.
func subElements(l []string) []api.Element {
	var elements []api.Element
	for i, s := range l {
		if s != "" {
			elements = append(elements, value.Text(partTag(i, len(l)), s))
		}
	}
	return elements
}

// each tells the elements that element makes of l.
func each[T any](l []T, element func(T) api.Element) []api.Element {
	var elements []api.Element
	for _, item := range l {
		elements = append(elements, element(item))
	}
	return elements
}

func sequence(l ...api.Element) api.Element {
	return value.List(tagSequence, l)
}

func integer(n int) api.Element {
	return value.Number(tagInteger, int64(n))
}

func text(s string) api.Element {
	return value.Text(tagText, s)
}

func enumerated(n int) api.Element {
	return value.Number(tagEnumerated, int64(n))
}

func flag(b bool) api.Element {
	return value.Text(tagFlag, value.Bool(b))
}

// size tells how many bytes e is as it is written. ber's Write tells that of none that is too deep; how far above MaxSize it is, plays no part.
func size(e api.Element) int {
	n := len(e.Body)
	for _, inner := range e.Kids {
		n += size(inner)
	}
	head := 2
	switch {
	case n > 255:
		head++
		fallthrough
	case n > 127:
		head++
	}
	return head + n
}
