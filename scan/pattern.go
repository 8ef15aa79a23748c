package scan

import (
	"millrace/api"
	"millrace/num"
)

// The verbs of parts that read nothing: blanks are passed, and a byte stands there, be it the % of %%.
const (
	passes = ' '
	stands = '%'
)

// part is what a pattern begins with.
type part struct {
	verb byte
	// want is the byte that must stand there, if one must.
	want byte
	// quiet: what is read is not told.
	quiet bool
	// width is 0 where there is none.
	width  int
	length int
}

// tells tells whether a part reads something that is told.
func (p part) tells() bool {
	return p.verb != passes && p.verb != stands && !p.quiet
}

// most answers how many bytes a directive reads at most.
func (p part) most() int {
	switch {
	case p.width > 0:
		return p.width
	case p.verb == 'c':
		return 1
	}
	return api.MaxWidth
}

// first answers what a pattern, which is not empty, begins with; false: with a % of no directive.
func first(f string) (part, bool) {
	switch f[0] {
	case '%':
		return directive(f)
	case ' ', '\n':
		return part{verb: passes, length: 1}, true
	}
	return part{verb: stands, want: f[0], length: 1}, true
}

// directive answers the directive that a pattern begins with, which has a % at least; false: there is no such one.
func directive(f string) (part, bool) {
	at := 1
	quiet := at < len(f) && f[at] == '*'
	if quiet {
		at++
	}
	width, at, ok := widthAt(f, at)
	if !ok || at == len(f) || !isVerb(f[at], at) {
		return part{}, false
	}
	return part{verb: f[at], want: f[at], quiet: quiet, width: width, length: at + 1}, true
}

// widthAt answers the width whose digits stand there, of none 0, and the place behind them; false: no width has these digits.
func widthAt(f string, at int) (int, int, bool) {
	from, isDigit := at, digits(10)
	for at < len(f) && isDigit(f[at]) {
		at++
	}
	if at == from {
		return 0, at, true
	}
	n, e, _ := num.ParseBase(f[from:at], 10)
	// That it has at most four digits follows.
	ok := e == api.OK && f[from] != '0' && n <= api.MaxWidth
	return int(n), at, ok
}

// isVerb tells whether a byte is a verb at that place of a directive: % is one right behind the first % alone.
func isVerb(c byte, at int) bool {
	switch c {
	case 'd', 'u', 'x', 'o', 'c', 's':
		return true
	}
	return c == '%' && at == 1
}
