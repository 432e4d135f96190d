package msg

import "prefect/api"

// Tags of parts.
const (
	tagFlag       = 1
	tagInteger    = 2
	tagText       = 4
	tagEnumerated = 10
	tagSequence   = 48
	tagSet        = 49
	tagPass       = 128 // OBind's
	tagSup        = 128 // OMove's
	tagFirst      = 128 // FSubs' parts
	tagBetween    = 129
	tagLast       = 130
)

// operations are the tags of operations: of results, one for each operation that they are of.
var operations = [...]struct {
	op, of int
	tag    byte
}{
	{api.OBind, 0, 96},
	{api.OUnbind, 0, 66},
	{api.OSearch, 0, 99},
	{api.OModify, 0, 102},
	{api.OAdd, 0, 104},
	{api.ODelete, 0, 74},
	{api.OMove, 0, 108},
	{api.OCompare, 0, 110},
	{api.OEntry, 0, 100},
	{api.OResult, api.OBind, 97},
	{api.OResult, api.OSearch, 101},
	{api.OResult, api.OModify, 103},
	{api.OResult, api.OAdd, 105},
	{api.OResult, api.ODelete, 107},
	{api.OResult, api.OMove, 109},
	{api.OResult, api.OCompare, 111},
}

// filters are the tags of the kinds of a filter.
var filters = [...]struct {
	kind int
	tag  byte
}{
	{api.FAnd, 160},
	{api.FOr, 161},
	{api.FNot, 162},
	{api.FEqual, 163},
	{api.FSubs, 164},
	{api.FGreater, 165},
	{api.FLess, 166},
	{api.FPresent, 135},
}

func operationTag(op, of int) byte {
	for _, row := range operations {
		if row.op == op && row.of == of {
			return row.tag
		}
	}
	return 0
}

// operation tells the Op and the Of whose tag that is; 0, 0 of none.
func operation(tag byte) (int, int) {
	for _, row := range operations {
		if row.tag == tag {
			return row.op, row.of
		}
	}
	return 0, 0
}

func filterTag(kind int) byte {
	for _, row := range filters {
		if row.kind == kind {
			return row.tag
		}
	}
	return 0
}

// filterKind tells the kind whose tag that is; 0 of none.
func filterKind(tag byte) int {
	for _, row := range filters {
		if row.tag == tag {
			return row.kind
		}
	}
	return 0
}

// partTag tells the tag of the part at place i of n parts of an FSubs.
func partTag(i, n int) byte {
	switch i {
	case 0:
		return tagFirst
	case n - 1:
		return tagLast
	}
	return tagBetween
}
