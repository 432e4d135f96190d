// Package ber: tags, lengths, bodies: see doc/01-ber.md.
package ber

import (
	"strings"

	"prefect/api"
)

const (
	constructed = 32  // the bit of a tag whose body is elements
	noTag       = 31  // the lowest five bits: all 1 in what is no tag
	longLength  = 128 // and n: n bytes of length follow
	maxLength   = 4   // bytes of length that may follow
)

// Head tells how many bytes the tag and the length at the beginning of s are, and how long the body is.
func Head(s string) (int, int, api.Errno) {
	switch {
	case len(s) == 0:
		return 0, 0, api.ErrShort
	case !isTag(s[0]):
		return 0, 0, api.ErrForm
	case len(s) == 1:
		return 0, 0, api.ErrShort
	case s[1] < longLength:
		return 2, int(s[1]), api.OK
	case s[1] == longLength || s[1] > longLength+maxLength:
		return 0, 0, api.ErrLength
	}
	head := 2 + int(s[1]-longLength)
	if len(s) < head {
		return 0, 0, api.ErrShort
	}
	size := readLength(s[2:head])
	if size > api.MaxSize {
		return 0, 0, api.ErrLarge
	}
	return head, int(size), api.OK
}

// Read tells the element at the beginning of s and how many bytes it is; beside an error, where the wrong element is.
func Read(s string) (api.Element, int, int, api.Errno) {
	return readAt(s, 0, 1)
}

// Write tells the bytes of e.
func Write(e api.Element) (string, api.Errno) {
	if err := fault(e); err != api.OK {
		return "", err
	}
	return encode(e), api.OK
}

// Is tells whether e can be written.
func Is(e api.Element) bool {
	return fault(e) == api.OK
}

// Same tells whether a and b are alike in all parts.
func Same(a, b api.Element) bool {
	if a.Tag != b.Tag || a.Body != b.Body || len(a.Kids) != len(b.Kids) {
		return false
	}
	for i := range a.Kids {
		if !Same(a.Kids[i], b.Kids[i]) {
			return false
		}
	}
	return true
}

func isTag(tag byte) bool {
	return tag&noTag != noTag
}

func isConstructed(tag byte) bool {
	return tag&constructed != 0
}

// readLength tells the number whose one to four bytes s is. It is unsigned, so that the highest byte can't make it negative, however wide an int is.
func readLength(s string) uint32 {
	var n uint32
	last := len(s) - 1
	switch len(s) {
	case 4:
		n |= uint32(s[last-3]) << 24
		fallthrough
	case 3:
		n |= uint32(s[last-2]) << 16
		fallthrough
	case 2:
		n |= uint32(s[last-1]) << 8
		fallthrough
	case 1:
		n |= uint32(s[last])
	}
	return n
}

// readAt reads the element at place at of s, which ends where the element around it does. It tells the element, the place behind it, and the place of a fault.
func readAt(s string, at, depth int) (api.Element, int, int, api.Errno) {
	if depth > api.MaxDepth {
		return api.Element{}, 0, at, api.ErrDeep
	}
	head, size, err := Head(s[at:])
	if err == api.OK && size > len(s)-at-head {
		err = api.ErrShort
	}
	if err == api.ErrShort && depth > 1 {
		err = api.ErrLength // no byte that is still to come would mend it
	}
	if err != api.OK {
		return api.Element{}, 0, at, err
	}
	e := api.Element{Tag: s[at]}
	begin, end := at+head, at+head+size
	if !isConstructed(e.Tag) {
		e.Body = strings.Clone(s[begin:end])
		return e, end, 0, api.OK
	}
	for begin < end {
		kid, behind, bad, err := readAt(s[:end], begin, depth+1)
		if err != api.OK {
			return api.Element{}, 0, bad, err
		}
		e.Kids = append(e.Kids, kid)
		begin = behind
	}
	return e, end, 0, api.OK
}

// fault tells the first reason for which e can't be written. Each reason is asked of the whole element ahead of the next one.
func fault(e api.Element) api.Errno {
	switch {
	case !formed(e):
		return api.ErrForm
	case deeper(e, api.MaxDepth):
		return api.ErrDeep
	case bodySize(e) > api.MaxSize: // no element in e is longer than e
		return api.ErrLarge
	}
	return api.OK
}

// formed tells whether e and what is in it, at any depth, have tags, and bodies or kids where they may be.
func formed(e api.Element) bool {
	if !isTag(e.Tag) {
		return false
	}
	if !isConstructed(e.Tag) {
		return len(e.Kids) == 0
	}
	if e.Body != "" {
		return false
	}
	for _, kid := range e.Kids {
		if !formed(kid) {
			return false
		}
	}
	return true
}

// deeper tells whether e has elements in elements, itself being the first, more than depth deep.
func deeper(e api.Element, depth int) bool {
	if depth == 0 {
		return true
	}
	for _, kid := range e.Kids {
		if deeper(kid, depth-1) {
			return true
		}
	}
	return false
}

// bodySize tells how long e's body is as it is written. It stops where that is above MaxSize: how far above plays no part.
func bodySize(e api.Element) int {
	n := len(e.Body)
	for _, kid := range e.Kids {
		if n > api.MaxSize {
			break
		}
		size := bodySize(kid)
		n += 2 + moreLength(size) + size
	}
	return n
}

// moreLength tells how many bytes of the length of a body of n bytes follow the first one. Two are enough for MaxSize.
func moreLength(n int) int {
	switch {
	case n < longLength:
		return 0
	case n < 256:
		return 1
	}
	return 2
}

// encode tells the bytes of an element that can be written.
func encode(e api.Element) string {
	var body strings.Builder
	body.WriteString(e.Body)
	for _, kid := range e.Kids {
		body.WriteString(encode(kid))
	}
	return writeHead(e.Tag, body.Len()) + body.String()
}

// writeHead tells the bytes of a tag and of the length of a body of n bytes.
func writeHead(tag byte, n int) string {
	more := moreLength(n)
	if more == 0 {
		return string([]byte{tag, byte(n)})
	}
	head := []byte{tag, longLength + byte(more)}
	switch more {
	case 2:
		head = append(head, byte(n>>8))
		fallthrough
	case 1:
		head = append(head, byte(n))
	}
	return string(head)
}
