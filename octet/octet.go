// Package octet is layer 1: see shared/doc/01-octet.md.
package octet

import (
	"math"
	"math/bits"
	"strings"

	"sinew/api"
)

// maxSize is how many bytes a number may have behind its first one.
const maxSize = 8

// PutNum is a number as bytes: how many there are, and they, the highest first.
func PutNum(n int) (string, api.Errno) {
	if n < 0 {
		return "", api.ErrArg
	}
	return numBytes(n), api.OK
}

// numBytes is a number that is not below 0 as bytes.
func numBytes(n int) string {
	size := (bits.Len(uint(n)) + 7) / 8
	b := make([]byte, 1+size)
	b[0] = byte(size)
	for i := range size {
		b[size-i] = byte(n >> (8 * i))
	}
	return string(b)
}

// Num is the number that bytes begin with, and how many bytes.
func Num(s string) (n, used int, e api.Errno) {
	if s == "" {
		return 0, 0, api.ErrCut
	}
	size := int(s[0])
	if size > maxSize {
		return 0, 0, api.ErrNum
	}
	if len(s)-1 < size {
		return 0, 0, api.ErrCut
	}
	v := highestFirst(s[1 : 1+size])
	// A leading nought would give a number a second form; beyond MaxInt it would wrap round.
	if size > 0 && s[1] == 0 || v > math.MaxInt {
		return 0, 0, api.ErrNum
	}
	return int(v), 1 + size, api.OK
}

// highestFirst is what at most 8 bytes mean; unsigned, so that 2^63 and more can be told.
func highestFirst(s string) uint64 {
	var v uint64
	for i := range len(s) {
		v = v<<8 | uint64(s[i])
	}
	return v
}

// PutStr is a text as bytes.
func PutStr(s string) (string, api.Errno) {
	if len(s) > api.MaxStr {
		return "", api.ErrGreat
	}
	return numBytes(len(s)) + s, api.OK
}

// Str is the text that bytes begin with, and how many bytes.
func Str(s string) (t string, used int, e api.Errno) {
	size, head, e := Num(s)
	if e != api.OK {
		return "", 0, e
	}
	if size > api.MaxStr {
		return "", 0, api.ErrGreat
	}
	if len(s)-head < size {
		return "", 0, api.ErrCut
	}
	// A copy: a short text that is kept must not keep all the bytes around it.
	return strings.Clone(s[head : head+size]), head + size, api.OK
}

// PutList is a list of texts as bytes.
func PutList(l []string) (string, api.Errno) {
	if len(l) > api.MaxTexts {
		return "", api.ErrGreat
	}
	var b strings.Builder
	b.WriteString(numBytes(len(l)))
	for _, t := range l {
		s, e := PutStr(t)
		if e != api.OK {
			return "", e
		}
		b.WriteString(s)
	}
	return b.String(), api.OK
}

// List is the list of texts that bytes begin with, and how many bytes.
func List(s string) (l []string, used int, e api.Errno) {
	count, used, e := Num(s)
	if e != api.OK {
		return nil, 0, e
	}
	if count > api.MaxTexts {
		return nil, 0, api.ErrGreat
	}
	for range count {
		t, more, e := Str(s[used:])
		if e != api.OK {
			return nil, 0, e
		}
		l = append(l, t)
		used += more
	}
	return l, used, api.OK
}
