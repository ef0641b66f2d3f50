// Package prefix is layer 1: numbers as bytes, whose first one says how many there are: see DOC.md and doc/01-prefix.md.
package prefix

import "suffragan/api"

// largest is how many bytes a number has at most.
const largest = 8

// Put answers b and n's bytes behind it; b and ErrArg, if n has none.
func Put(b []byte, n uint64) ([]byte, api.Errno) {
	if Size(n) == 0 {
		return fresh(b, 0), api.ErrArg
	}
	return putNumber(fresh(b, largest), n), api.OK
}

// Take answers the number with which b begins, and what is behind it.
func Take(b []byte) (uint64, []byte, api.Errno) {
	n, rest, e := takeNumber(b)
	return n, fresh(rest, 0), e
}

// Size answers how many bytes n has; 0, if n is above MaxNum.
func Size(n uint64) int {
	switch {
	case n < 1<<6:
		return 1
	case n < 1<<14:
		return 2
	case n < 1<<30:
		return 4
	case n <= api.MaxNum:
		return 8
	}
	return 0
}

// PutText answers b, how many bytes s has, and s.
func PutText(b []byte, s string) []byte {
	return putText(fresh(b, largest+len(s)), s)
}

// TakeText answers the text of at most most bytes with which b begins, and what is behind it.
func TakeText(b []byte, most int) (string, []byte, api.Errno) {
	s, rest, e := takeText(b, most)
	return s, fresh(rest, 0), e
}

// PutTexts answers b, how many texts l has, and each.
func PutTexts(b []byte, l []string) []byte {
	out := putNumber(fresh(b, largest), uint64(len(l)))
	for _, s := range l {
		out = putText(out, s)
	}
	return out
}

// TakeTexts answers the texts, at most most of at most each bytes, with which b begins, and what is behind them.
func TakeTexts(b []byte, most, each int) ([]string, []byte, api.Errno) {
	n, rest, e := takeNumber(b)
	if e != api.OK {
		return nil, nil, e
	}
	if above(n, most) {
		return nil, nil, api.ErrLong
	}
	// No room is made ahead: n is only what the bytes claim.
	var l []string
	for range n {
		var s string
		if s, rest, e = takeText(rest, each); e != api.OK {
			return nil, nil, e
		}
		l = append(l, s)
	}
	return l, fresh(rest, 0), api.OK
}

// fresh copies b into memory of its own, with room for so many bytes more: an answer shares nothing with an argument, spare room included.
func fresh(b []byte, room int) []byte {
	out := make([]byte, len(b), len(b)+room)
	copy(out, b)
	return out
}

// putNumber puts n, which must have a Size, behind b, which must be the caller's own.
func putNumber(b []byte, n uint64) []byte {
	var mark byte
	switch first := len(b); Size(n) {
	case 8:
		mark++
		b = append(b, byte(n>>56), byte(n>>48), byte(n>>40), byte(n>>32))
		fallthrough
	case 4:
		mark++
		b = append(b, byte(n>>24), byte(n>>16))
		fallthrough
	case 2:
		mark++
		b = append(b, byte(n>>8))
		fallthrough
	case 1:
		b = append(b, byte(n))
		b[first] |= mark << 6
	}
	return b
}

// takeNumber is Take, but that what is behind is a piece of b: of many numbers in a row the rest need not be copied for each.
func takeNumber(b []byte) (uint64, []byte, api.Errno) {
	if len(b) == 0 {
		return 0, nil, api.ErrShort
	}
	size := 1 << (b[0] >> 6)
	if len(b) < size {
		return 0, nil, api.ErrShort
	}
	n := uint64(b[0] & 0x3f)
	for _, c := range b[1:size] {
		n = n<<8 | uint64(c)
	}
	if Size(n) != size {
		return 0, nil, api.ErrForm
	}
	return n, b[size:], api.OK
}

// putText puts s behind b, which must be the caller's own.
func putText(b []byte, s string) []byte {
	return append(putNumber(b, uint64(len(s))), s...)
}

// takeText is TakeText, but that what is behind is a piece of b.
func takeText(b []byte, most int) (string, []byte, api.Errno) {
	n, rest, e := takeNumber(b)
	if e != api.OK {
		return "", nil, e
	}
	if above(n, most) {
		return "", nil, api.ErrLong
	}
	if above(n, len(rest)) {
		return "", nil, api.ErrShort
	}
	return string(rest[:n]), rest[n:], api.OK
}

// above tells whether n is above most: below 0 everything is, which a plain conversion would miss.
func above(n uint64, most int) bool {
	return most < 0 || n > uint64(most)
}
