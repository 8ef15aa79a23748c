package format

import (
	"millrace/api"
	"millrace/num"
)

// The flags of a directive, a bit each.
const (
	left = 1 << iota
	plus
	zero
	blank
)

// mostDigits is how many digits a width and a precision have at most.
const mostDigits = 4

// directive is what a pattern says of one Arg, or %%. Without a width that is 0, which says the same.
type directive struct {
	flags     int
	width     int
	pointed   bool
	precision int
	verb      byte
}

// parse answers the directive that a pattern begins with, which has a % at least, and how many bytes that is; false: there is no such directive.
func parse(f string) (directive, int, bool) {
	flags, at, once := flagsAt(f, 1)
	// A 0 is a flag, so that no width begins with one.
	width, at, fits := numberAt(f, at)
	d := directive{flags: flags, width: width}
	if !once || !fits {
		return directive{}, 0, false
	}
	if at < len(f) && f[at] == '.' {
		d.pointed = true
		d.precision, at, fits = numberAt(f, at+1)
	}
	if !fits || at == len(f) || !isVerb(f[at], at) {
		return directive{}, 0, false
	}
	d.verb = f[at]
	return d, at + 1, true
}

// flagsAt answers the flags that stand there and the place behind them; false: one of them stands there twice.
func flagsAt(f string, at int) (int, int, bool) {
	flags, once := 0, true
	for at < len(f) && flagOf(f[at]) != 0 {
		once = once && flags&flagOf(f[at]) == 0
		flags |= flagOf(f[at])
		at++
	}
	return flags, at, once
}

// flagOf answers 0 for a byte that is no flag.
func flagOf(c byte) int {
	switch c {
	case '-':
		return left
	case '+':
		return plus
	case '0':
		return zero
	case ' ':
		return blank
	}
	return 0
}

// numberAt answers the number whose digits stand there, of none 0, and the place behind them; false: it has too many of them, or is too great.
func numberAt(f string, at int) (int, int, bool) {
	from := at
	for at < len(f) && '0' <= f[at] && f[at] <= '9' {
		at++
	}
	if at == from {
		return 0, at, true
	}
	n, e, _ := num.ParseBase(f[from:at], 10)
	if e != api.OK || at-from > mostDigits || n > api.MaxWidth {
		return 0, at, false
	}
	return int(n), at, true
}

// isVerb tells whether a byte is a verb at that place of a directive: % is one right behind the first % alone.
func isVerb(c byte, at int) bool {
	return c == '%' && at == 1 || kindOf(c) != ofNone
}

// kindOf answers the Kind of the Args that a verb shows, and ofNone for % and what is no verb.
func kindOf(verb byte) int {
	switch verb {
	case 'd':
		return ofInt
	case 'u', 'x', 'X', 'o':
		return ofUint
	case 'c':
		return ofByte
	case 's':
		return ofText
	}
	return ofNone
}
