package format

import (
	"strings"

	"millrace/api"
	"millrace/num"
)

// shown answers what a directive makes of an Arg that is of its verb's Kind.
func (d directive) shown(a api.Arg) string {
	switch d.verb {
	case 'd':
		// Decimal's digits, as the least int has no opposite among the ints.
		digits, below := strings.CutPrefix(num.Decimal(a.Int), "-")
		return d.wide(d.sign(below), d.precise(digits))
	case 'c':
		// A byte, not the rune of that number, which may have two bytes.
		return d.wide("", string([]byte{byte(a.Uint)}))
	case 's':
		return d.wide("", d.cut(a.Text))
	}
	return d.wide("", d.precise(d.digits(a.Uint)))
}

// digits answers a number's digits as a verb of Kind 2 has them.
func (d directive) digits(n uint64) string {
	base := 10
	switch d.verb {
	case 'x', 'X':
		base = 16
	case 'o':
		base = 8
	}
	digits, _ := num.Base(n, base)
	if d.verb == 'X' {
		return strings.ToUpper(digits)
	}
	return digits
}

// sign answers what stands ahead of an int's digits.
func (d directive) sign(below bool) string {
	switch {
	case below:
		return "-"
	case d.has(plus):
		return "+"
	case d.has(blank):
		return " "
	}
	return ""
}

// precise answers the digits with zeros ahead, till there are as many as the precision says.
func (d directive) precise(digits string) string {
	if d.pointed && d.precision == 0 && digits == "0" {
		return ""
	}
	return repeated("0", d.precision-len(digits)) + digits
}

// cut answers at most as many bytes of a text as the precision says.
func (d directive) cut(s string) string {
	if d.pointed && d.precision < len(s) {
		return s[:d.precision]
	}
	return s
}

// wide answers a sign and what is behind it, filled up to the width.
func (d directive) wide(sign, behind string) string {
	lacking := d.width - len(sign) - len(behind)
	switch {
	case d.has(left):
		return sign + behind + repeated(" ", lacking)
	case d.has(zero) && !d.pointed && d.showsDigits():
		return sign + repeated("0", lacking) + behind
	}
	return repeated(" ", lacking) + sign + behind
}

func (d directive) has(flag int) bool {
	return d.flags&flag != 0
}

// showsDigits tells whether the verb shows a number.
func (d directive) showsDigits() bool {
	kind := kindOf(d.verb)
	return kind == ofInt || kind == ofUint
}

// repeated is empty where nothing is lacking.
func repeated(s string, n int) string {
	return strings.Repeat(s, max(n, 0))
}
