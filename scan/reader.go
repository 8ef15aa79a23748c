package scan

import (
	"strings"

	"millrace/api"
	"millrace/format"
	"millrace/num"
)

// reader reads by a pattern what its source has.
type reader struct {
	source
}

// read goes through a pattern that may be, and answers the Args that were read up to its end or an error.
func (r reader) read(f string) ([]api.Arg, api.Errno) {
	var args []api.Arg
	for at := 0; at < len(f); {
		p, _ := first(f[at:])
		a, e := r.part(p)
		if e != api.OK {
			return args, e
		}
		if p.tells() {
			args = append(args, a)
		}
		at += p.length
	}
	return args, api.OK
}

// part does what a part says, and answers the Arg that a directive reads.
func (r reader) part(p part) (api.Arg, api.Errno) {
	switch p.verb {
	case passes:
		e := r.pass()
		if e == api.ErrEnd {
			e = api.OK
		}
		return api.Arg{}, e
	case stands:
		_, e := r.filled(1, func(c byte) bool { return c == p.want })
		return api.Arg{}, e
	case 'c':
		return r.bytes(p)
	}
	return r.word(p)
}

// bytes reads what c reads.
func (r reader) bytes(p part) (api.Arg, api.Errno) {
	b, e := r.filled(p.most(), func(byte) bool { return true })
	switch {
	case e != api.OK:
		return api.Arg{}, e
	case p.width == 0:
		return format.Byte(b[0]), api.OK
	}
	return format.Text(string(b)), api.OK
}

// word reads what all the others read, which pass blanks first.
func (r reader) word(p part) (api.Arg, api.Errno) {
	if e := r.pass(); e != api.OK {
		return api.Arg{}, e
	}
	b, e := r.gather(p.most(), fitting(p.verb))
	switch {
	case e != api.OK && e != api.ErrEnd:
		return api.Arg{}, e
	case hasLeast(b, p.verb):
		return valued(string(b), p.verb)
	case e == api.OK:
		e = api.ErrMatch
	}
	return api.Arg{}, e
}

// pass passes blanks, newlines and tabs; ErrEnd: nothing is behind them.
func (r reader) pass() api.Errno {
	for {
		_, fits, e := r.one(isBlank)
		if !fits {
			return e
		}
	}
}

// filled gets just so many bytes that fit; ErrMatch: another byte stands there.
func (r reader) filled(n int, fits func(c byte) bool) ([]byte, api.Errno) {
	b, e := r.gather(n, fits)
	if e == api.OK && len(b) < n {
		e = api.ErrMatch
	}
	return b, e
}

// gather gets bytes as long as the next one fits, at most so many: behind these none is looked at.
func (r reader) gather(most int, fits func(c byte) bool) ([]byte, api.Errno) {
	var b []byte
	for len(b) < most {
		c, ok, e := r.one(fits)
		if !ok {
			return b, e
		}
		b = append(b, c)
	}
	return b, api.OK
}

// one gets the next byte if it fits; if it does not, it comes next again. No error tells of that, as a source may answer any.
func (r reader) one(fits func(c byte) bool) (byte, bool, api.Errno) {
	c, e := r.next()
	if e != api.OK {
		return 0, false, e
	}
	if !fits(c) {
		r.back(c)
		return 0, false, api.OK
	}
	return c, true, api.OK
}

// fitting answers what fits a verb that passes blanks first; it is asked of byte by byte, from the first one on.
func fitting(verb byte) func(c byte) bool {
	switch verb {
	case 's':
		return func(c byte) bool { return !isBlank(c) }
	case 'd':
		return signed(digits(baseOf(verb)))
	}
	return digits(baseOf(verb))
}

// signed lets the first byte be a sign, too.
func signed(fits func(c byte) bool) func(c byte) bool {
	begun := false
	return func(c byte) bool {
		may := !begun && isSign(c)
		begun = true
		return may || fits(c)
	}
}

func digits(base int) func(c byte) bool {
	return func(c byte) bool {
		_, e, _ := num.ParseBase(string([]byte{c}), base)
		return e == api.OK
	}
}

func baseOf(verb byte) int {
	switch verb {
	case 'x':
		return 16
	case 'o':
		return 8
	}
	return 10
}

// hasLeast tells whether bytes that fit a verb are as many as must be.
func hasLeast(b []byte, verb byte) bool {
	if verb == 'd' && len(b) == 1 {
		return !isSign(b[0])
	}
	return len(b) > 0
}

// valued answers what a verb makes of bytes that fit it; ErrMatch: a number out of its range.
func valued(s string, verb byte) (api.Arg, api.Errno) {
	switch verb {
	case 's':
		return format.Text(s), api.OK
	case 'd':
		return valuedInt(s)
	}
	n, e, _ := num.ParseBase(s, baseOf(verb))
	if e != api.OK {
		return api.Arg{}, api.ErrMatch
	}
	return format.Uint(n), api.OK
}

// valuedInt needs digits, maybe behind a sign.
func valuedInt(s string) (api.Arg, api.Errno) {
	// num has one form of each number: without + and without a 0 ahead.
	least := strings.TrimLeft(s, "+-0")
	if least == "" {
		return format.Int(0), api.OK
	}
	if s[0] == '-' {
		least = "-" + least
	}
	n, e := num.ParseInt(least)
	if e != api.OK {
		return api.Arg{}, api.ErrMatch
	}
	return format.Int(n), api.OK
}

func isBlank(c byte) bool {
	return c == ' ' || c == '\n' || c == '\t'
}

func isSign(c byte) bool {
	return c == '+' || c == '-'
}
