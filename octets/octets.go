// Package octets is layer 2: see shared/doc/02-octets.md.
package octets

import (
	"bytes"

	"wireless/api"
)

const (
	maxSize   = 8 // bytes of a number
	hexDigits = "0123456789abcdef"
)

// Put returns the fields, each with its least significant byte first; ErrRange if a size is not from 1 to 8, or a value does not fit into its size.
func Put(fields ...api.Field) ([]byte, api.Errno) {
	var b []byte
	for _, f := range fields {
		if !validSize(f.Size) || !fits(f.Value, f.Size) {
			return nil, api.ErrRange
		}
		for i := range f.Size {
			b = append(b, byte(f.Value>>(8*i)))
		}
	}
	return b, api.OK
}

// Take reads numbers of the given sizes and returns them and the rest; ErrRange if a size is not from 1 to 8, then ErrTruncated if b is shorter than all sizes together.
func Take(b []byte, sizes ...int) ([]uint64, []byte, api.Errno) {
	total := 0
	for _, size := range sizes {
		if !validSize(size) {
			return nil, nil, api.ErrRange
		}
		total += size
	}
	if len(b) < total {
		return nil, nil, api.ErrTruncated
	}
	var numbers []uint64
	for _, size := range sizes {
		numbers = append(numbers, number(b[:size]))
		b = b[size:]
	}
	return numbers, bytes.Clone(b), api.OK
}

func validSize(size int) bool {
	return size >= 1 && size <= maxSize
}

// fits reports whether a value is below 2^(8 * size), for a valid size.
func fits(value uint64, size int) bool {
	// A shift by 64 yields 0, so that eight bytes hold every value.
	return value>>(8*size) == 0
}

// number returns the number whose bytes, at most eight, are b.
func number(b []byte) uint64 {
	n := uint64(0)
	for i, c := range b {
		n |= uint64(c) << (8 * i)
	}
	return n
}

// Join returns the parts, one after the other.
func Join(parts ...[]byte) []byte {
	var joined []byte
	for _, part := range parts {
		joined = append(joined, part...)
	}
	return joined
}

// Xor returns the exclusive or of the first bytes of a and b, as many as the shorter one has.
func Xor(a, b []byte) []byte {
	x := make([]byte, min(len(a), len(b)))
	for i := range x {
		x[i] = a[i] ^ b[i]
	}
	return x
}

// Hex returns two lower-case hexadecimal digits for each byte.
func Hex(b []byte) string {
	var text []byte
	for _, c := range b {
		text = append(text, hexDigits[c>>4], hexDigits[c&15])
	}
	return string(text)
}

// Unhex returns the bytes whose Hex s is; ErrSyntax if there are none.
func Unhex(s string) ([]byte, api.Errno) {
	if len(s)%2 != 0 {
		return nil, api.ErrSyntax
	}
	var b []byte
	for i := 0; i < len(s); i += 2 {
		high, ok := digit(s[i])
		if !ok {
			return nil, api.ErrSyntax
		}
		low, ok := digit(s[i+1])
		if !ok {
			return nil, api.ErrSyntax
		}
		b = append(b, high<<4|low)
	}
	return b, api.OK
}

// digit returns the value of a hexadecimal digit; upper case is no digit, because Hex does not write it.
func digit(c byte) (byte, bool) {
	switch {
	case c >= '0' && c <= '9':
		return c - '0', true
	case c >= 'a' && c <= 'f':
		return c - 'a' + 10, true
	}
	return 0, false
}
