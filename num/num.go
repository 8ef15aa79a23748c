// Package num is layer 1: numbers as digits, to any base from 2 to 16, and octets as hexadecimal digits.
package num

import (
	"iter"
	"math"

	"millrace/api"
)

const (
	leastBase    = 2
	greatestBase = 16
	signs        = "0123456789abcdef"
)

// Decimal tells n in decimal digits, with - ahead below 0.
func Decimal(n int) string {
	if n < 0 {
		// Negated as a uint64: the least int has no opposite among the ints.
		return "-" + written(-uint64(n), 10)
	}
	return written(uint64(n), 10)
}

// ParseInt answers the int that Decimal tells as s, or ErrDigit if there is none.
func ParseInt(s string) (int, api.Errno) {
	below := len(s) > 0 && s[0] == '-'
	unsigned := s
	if below {
		unsigned = s[1:]
	}
	size, e, _ := ParseBase(unsigned, 10)
	if e != api.OK {
		return 0, api.ErrDigit
	}
	n := int(size)
	if below {
		n = -n
	}
	// An int has one form only: zeros ahead, -0 and what wrapped round come back as another text.
	if Decimal(n) != s {
		return 0, api.ErrDigit
	}
	return n, api.OK
}

// Base tells n to a base from 2 to 16, in small letters; ErrRange: another base.
func Base(n uint64, base int) (string, api.Errno) {
	if !isBase(base) {
		return "", api.ErrRange
	}
	return written(n, uint64(base)), api.OK
}

// ParseBase answers the number of which s is the digits, and len(s), or an error and its place in s.
func ParseBase(s string, base int) (uint64, api.Errno, int) {
	if !isBase(base) {
		return 0, api.ErrRange, 0
	}
	if s == "" {
		return 0, api.ErrShort, 0
	}
	n, b := uint64(0), uint64(base)
	for i := range len(s) {
		d := value(s[i])
		if d >= b {
			return 0, api.ErrDigit, i
		}
		// Asked ahead of the step: behind it the number would have wrapped round.
		if n > (math.MaxUint64-d)/b {
			return 0, api.ErrRange, i
		}
		n = n*b + d
	}
	return n, api.OK, len(s)
}

// Hex tells octets, two digits each.
func Hex(b []byte) string {
	text := make([]byte, 0, 2*len(b))
	for i := range len(b) {
		text = append(text, signs[b[i]>>4], signs[b[i]&15])
	}
	return string(text)
}

// Unhex answers the octets of which s is the digits, and len(s), or an error and its place in s.
func Unhex(s string) ([]byte, api.Errno, int) {
	octets := make([]byte, 0, len(s)/2)
	high := byte(0)
	for i := range len(s) {
		d := value(s[i])
		if d >= greatestBase {
			return nil, api.ErrDigit, i
		}
		if i%2 == 0 {
			high = byte(d)
		} else {
			octets = append(octets, high<<4|byte(d))
		}
	}
	// Asked last: a byte that is no digit goes ahead of the digits' number.
	if len(s)%2 != 0 {
		return nil, api.ErrCount, len(s)
	}
	return octets, api.OK, len(s)
}

func isBase(base int) bool {
	return leastBase <= base && base <= greatestBase
}

// written needs a base from 2 to 16.
func written(n, base uint64) string {
	var text []byte
	for d := range digits(n, base) {
		text = append(text, signs[d])
	}
	return string(text)
}

// digits hands out the values of a number's digits, the highest first, one at least.
func digits(n, base uint64) iter.Seq[uint64] {
	return func(yield func(uint64) bool) {
		unit := uint64(1)
		// Divided, not multiplied: the unit beyond the highest digit's may pass 2^64 - 1.
		for n/unit >= base {
			unit *= base
		}
		for rest := n; unit > 0; unit /= base {
			if !yield(rest / unit) {
				return
			}
			rest %= unit
		}
	}
}

// value is greatestBase for a byte that is a digit to no base.
func value(c byte) uint64 {
	switch {
	case '0' <= c && c <= '9':
		return uint64(c - '0')
	case 'a' <= c && c <= 'f':
		return uint64(c-'a') + 10
	case 'A' <= c && c <= 'F':
		return uint64(c-'A') + 10
	}
	return greatestBase
}
