package scan

import (
	"math"
	"strconv"
	"strings"
	"testing"

	"millrace/api"
)

// TestExamples: those of the chapter.
func TestExamples(t *testing.T) {
	wantScan(t, "%d %s", " -5 ab c", 6, api.OK, in(-5), word("ab"))
	wantScan(t, "%2d%d", "1234", 4, api.OK, in(12), in(34))
	wantScan(t, "x%d", "y1", 0, api.ErrMatch)
	wantScan(t, "%d", "+", 1, api.ErrEnd)
}

// TestEmpty: an empty pattern reads nothing of anything; of no bytes an empty pattern and blanks alone are done (P18.1).
func TestEmpty(t *testing.T) {
	for _, b := range []string{"", "a", " ", "%", "12", someBytes(999)} {
		wantScan(t, "", b, 0, api.OK)
	}
	for _, f := range []string{" ", "\n", "  \n \n"} {
		wantScan(t, f, "", 0, api.OK)
	}
	for _, f := range []string{"\t", "a", "%%", "%d", "%u", "%x", "%o", "%c", "%s", "%*d", "%3c", "%5s", " a", "\n%d", " %c"} {
		wantScan(t, f, "", 0, api.ErrEnd)
	}
	if l, n, e := Scan("%d", nil); len(l) != 0 || n != 0 || e != api.ErrEnd {
		t.Errorf("P1: Scan of nil: %v, %d, %d", l, n, e)
	}
}

// TestBlanks: a blank or a newline of the pattern passes blanks, newlines and tabs, be they many or none; a tab of the pattern must stand there (P18.1).
func TestBlanks(t *testing.T) {
	many := strings.Repeat(" \n\t", 3000)
	for _, f := range []string{" ", "\n", "  ", " \n"} {
		for _, b := range []string{"", " ", "\n", "\t", "\t\n ", many} {
			wantScan(t, f, b, len(b), api.OK)
			wantScan(t, f, b+"a ", len(b), api.OK)
			wantScan(t, f, b+"\r ", len(b), api.OK)
			wantScan(t, f, b+"\v", len(b), api.OK)
			wantScan(t, f, b+"\xa0", len(b), api.OK)
			wantScan(t, f, b+"\x00", len(b), api.OK)
			wantScan(t, f+"a", b+"ab", len(b)+1, api.OK)
			wantScan(t, f+"a", b+"b", len(b), api.ErrMatch)
			wantScan(t, f+"a", b, len(b), api.ErrEnd)
			wantScan(t, f+"%c", b+"ab", len(b)+1, api.OK, char('a'))
			wantScan(t, "a"+f+"b", "a"+b+"b", len(b)+2, api.OK)
			wantScan(t, "a"+f, "a"+b+"b", len(b)+1, api.OK)
			wantScan(t, f+"\t", b, len(b), api.ErrEnd)
		}
	}
	wantScan(t, "\t", "\t\t", 1, api.OK)
	wantScan(t, "\t", " ", 0, api.ErrMatch)
	wantScan(t, "\t", "\n", 0, api.ErrMatch)
	wantScan(t, "a\tb", "a\tb", 3, api.OK)
	wantScan(t, "a\tb", "ab", 1, api.ErrMatch)
	wantScan(t, "a\r\vb", "a\r\vb", 4, api.OK)
}

// TestStanding: any other byte, and the % of %%, must stand there; what does not is not used up (P18.1).
func TestStanding(t *testing.T) {
	for c := range 256 {
		f := string([]byte{byte(c)})
		if c == ' ' || c == '\n' {
			continue
		}
		if c == '%' {
			f = "%%"
		}
		for d := range 256 {
			n, e := 0, api.ErrMatch
			if c == d {
				n, e = 1, api.OK
			}
			wantScan(t, f, string([]byte{byte(d), 'z'}), n, e)
		}
	}
	wantScan(t, "abc", "abcd", 3, api.OK)
	wantScan(t, "abc", "abd", 2, api.ErrMatch)
	wantScan(t, "abc", "ab", 2, api.ErrEnd)
	wantScan(t, "%%%%", "%%", 2, api.OK)
	wantScan(t, "%%%%", "%", 1, api.ErrEnd)
	wantScan(t, "%% %%", "% \t%", 4, api.OK)
	wantScan(t, "%%", " %", 0, api.ErrMatch)
	wantScan(t, "%%d", "%d", 2, api.OK)
	wantScan(t, "%%%d%%", "%7%", 3, api.OK, in(7))
	wantScan(t, "100%%", "100", 3, api.ErrEnd)
	long := strings.Repeat("ab\tc", api.MaxLine/4)
	wantScan(t, long, long, api.MaxLine, api.OK)
	wantScan(t, long, long[:api.MaxLine-1], api.MaxLine-1, api.ErrEnd)
	wantScan(t, long, long[:api.MaxLine-1]+"d", api.MaxLine-1, api.ErrMatch)
}

// TestC: so many bytes, whatever they are, without blanks passed; those that are there are used up (P18.1).
func TestC(t *testing.T) {
	for c := range 256 {
		b := string([]byte{byte(c)})
		wantScan(t, "%c", b+"z", 1, api.OK, char(byte(c)))
		wantScan(t, "%1c", b+"z", 1, api.OK, word(b))
		wantScan(t, "%2c", "a"+b+"z", 2, api.OK, word("a"+b))
		wantScan(t, "%*c%c", b+"z", 2, api.OK, char('z'))
		wantScan(t, "%2c", b, 1, api.ErrEnd)
	}
	all := someBytes(api.MaxWidth + 1)
	wantScan(t, "%4096c", all, api.MaxWidth, api.OK, word(all[:api.MaxWidth]))
	wantScan(t, "%4096c", all[1:], api.MaxWidth, api.OK, word(all[1:]))
	wantScan(t, "%4096c", all[2:], api.MaxWidth-1, api.ErrEnd)
	wantScan(t, "%3c", "ab", 2, api.ErrEnd)
	wantScan(t, "%d%3c", "7ab", 3, api.ErrEnd, in(7))
	wantScan(t, "%*3c%c", "abcd", 4, api.OK, char('d'))
	wantScan(t, "%*3c", "ab", 2, api.ErrEnd)
	wantScan(t, " %c", " \n\ta", 4, api.OK, char('a'))
	wantScan(t, "%c%c%c", "a b", 3, api.OK, char('a'), char(' '), char('b'))
	wantScan(t, strings.Repeat("%c", api.MaxLine/2), strings.Repeat("q", api.MaxLine/2+1), api.MaxLine/2, api.OK, args(api.MaxLine/2, char('q'))...)
}

func args(n int, a api.Arg) []api.Arg {
	l := make([]api.Arg, n)
	for i := range l {
		l[i] = a
	}
	return l
}

// TestS: bytes that are no blanks, as many as the width, and behind blanks (P18.1).
func TestS(t *testing.T) {
	for c := range 256 {
		b := string([]byte{byte(c)})
		switch c {
		case ' ', '\n', '\t':
			wantScan(t, "%s", b+"ab"+b+"c", 3, api.OK, word("ab"))
			wantScan(t, "%s", b, 1, api.ErrEnd)
			wantScan(t, "%2s", b+b+"abc", 4, api.OK, word("ab"))
		default:
			wantScan(t, "%s", b+b+" ", 2, api.OK, word(b+b))
			wantScan(t, "%s", b, 1, api.OK, word(b))
			wantScan(t, "%1s", b+b, 1, api.OK, word(b))
			wantScan(t, "%s", "\t a"+b, 4, api.OK, word("a"+b))
		}
	}
	for _, n := range []int{1, 2, 9, 4095, 4096} {
		f := "%" + strconv.Itoa(n) + "s"
		for _, many := range []int{1, n - 1, n, n + 1, n + 999} {
			if many < 1 {
				continue
			}
			b := letters(many)
			used := min(many, n)
			wantScan(t, f, "  "+b, 2+used, api.OK, word(b[:used]))
		}
	}
	wantScan(t, "%s", letters(api.MaxWidth), api.MaxWidth, api.OK, word(letters(api.MaxWidth)))
	wantScan(t, "%s", letters(api.MaxWidth+1), api.MaxWidth, api.OK, word(letters(api.MaxWidth)))
	wantScan(t, "%s%s", letters(2*api.MaxWidth), 2*api.MaxWidth, api.OK, word(letters(api.MaxWidth)), word(letters(2 * api.MaxWidth)[api.MaxWidth:]))
	wantScan(t, "%*s%s", "one two", 7, api.OK, word("two"))
	wantScan(t, "%s%%", "50%", 3, api.ErrEnd, word("50%"))
}

// digitsOf are the bytes that a verb of digits reads.
var digitsOf = map[string]string{"d": "0123456789", "u": "0123456789", "x": "0123456789abcdefABCDEF", "o": "01234567"}

// TestDigits: of all bytes the verb's digits alone fit (P18.1).
func TestDigits(t *testing.T) {
	for verb, fitting := range digitsOf {
		for c := range 256 {
			b := string([]byte{byte(c)})
			isSign := verb == "d" && (c == '+' || c == '-')
			isBlank := c == ' ' || c == '\n' || c == '\t'
			one := numberOf(verb, "1")
			switch {
			case strings.Contains(fitting, b):
				wantScan(t, "%"+verb, b+".", 1, api.OK, numberOf(verb, b))
				wantScan(t, "%"+verb, "1"+b, 2, api.OK, numberOf(verb, "1"+b))
				wantScan(t, "%*"+verb+"%c", b+".", 2, api.OK, char('.'))
			case isSign:
				wantScan(t, "%"+verb, b+".", 1, api.ErrMatch)
				wantScan(t, "%"+verb, b, 1, api.ErrEnd)
				wantScan(t, "%"+verb, "1"+b+"1", 1, api.OK, one)
			case isBlank:
				wantScan(t, "%"+verb, b+"1"+b+"1", 2, api.OK, one)
				wantScan(t, "%"+verb, b, 1, api.ErrEnd)
				wantScan(t, "%"+verb, b+".", 1, api.ErrMatch)
			default:
				wantScan(t, "%"+verb, b+"1", 0, api.ErrMatch)
				wantScan(t, "%"+verb, " "+b+"1", 1, api.ErrMatch)
				wantScan(t, "%"+verb, "1"+b+"1", 1, api.OK, one)
				wantScan(t, "%*"+verb, b, 0, api.ErrMatch)
			}
		}
	}
	wantScan(t, "%x", "0x10", 1, api.OK, un(0))
	wantScan(t, "%x", "dEaDbEeF", 8, api.OK, un(0xdeadbeef))
	wantScan(t, "%o", "778", 2, api.OK, un(63))
	wantScan(t, "%u", "-1", 0, api.ErrMatch)
	wantScan(t, "%u", "+1", 0, api.ErrMatch)
	wantScan(t, "%x", "-1", 0, api.ErrMatch)
	wantScan(t, "%o", "+1", 0, api.ErrMatch)
}

// numberOf is the Arg that a verb makes of its digits.
func numberOf(verb, b string) api.Arg {
	base := map[string]int{"d": 10, "u": 10, "x": 16, "o": 8}[verb]
	if verb == "d" {
		n, _ := strconv.ParseInt(b, base, 64)
		return in(int(n))
	}
	n, _ := strconv.ParseUint(b, base, 64)
	return un(n)
}

// TestSigns: one sign of d, ahead of its digits and within its width (P18.1).
func TestSigns(t *testing.T) {
	wantScan(t, "%d", "+5", 2, api.OK, in(5))
	wantScan(t, "%d", "-5", 2, api.OK, in(-5))
	wantScan(t, "%d", "-0", 2, api.OK, in(0))
	wantScan(t, "%d", "+0", 2, api.OK, in(0))
	wantScan(t, "%d", "-007", 4, api.OK, in(-7))
	wantScan(t, "%d", "+-5", 1, api.ErrMatch)
	wantScan(t, "%d", "--5", 1, api.ErrMatch)
	wantScan(t, "%d", "- 5", 1, api.ErrMatch)
	wantScan(t, "%d", " +\t5", 2, api.ErrMatch)
	wantScan(t, "%d", "-", 1, api.ErrEnd)
	wantScan(t, "%d", "  -", 3, api.ErrEnd)
	wantScan(t, "%d", "-a", 1, api.ErrMatch)
	for _, b := range []string{"+", "-", "+5", "-5", "++", "+ ", "-a"} {
		wantScan(t, "%1d", b, 1, api.ErrMatch)
		wantScan(t, "%*1d", "\n"+b, 2, api.ErrMatch)
	}
	wantScan(t, "%2d", "+56", 2, api.OK, in(5))
	wantScan(t, "%2d", "-56", 2, api.OK, in(-5))
	wantScan(t, "%3d", "+56", 3, api.OK, in(56))
	wantScan(t, "%2d%d", "-1-1", 4, api.OK, in(-1), in(-1))
	wantScan(t, "%1d%d", "5-6", 3, api.OK, in(5), in(-6))
	wantScan(t, "%d%d%d", "1+2-3", 5, api.OK, in(1), in(2), in(-3))
	wantScan(t, "+%d", "+5", 2, api.OK, in(5))
	wantScan(t, "+%d", "++5", 3, api.OK, in(5))
}

// TestNumberWidths: no verb reads more digits than its width, without one not more than 4096 (P18.1).
func TestNumberWidths(t *testing.T) {
	for verb := range digitsOf {
		for width := 1; width <= 12; width++ {
			f := "%" + strconv.Itoa(width) + verb
			for many := 1; many <= 14; many++ {
				b := "12345670123456"[:many]
				used := min(many, width)
				wantScan(t, f, " \n"+b+"z", 2+used, api.OK, numberOf(verb, b[:used]))
			}
			wantScan(t, f, "", 0, api.ErrEnd)
			wantScan(t, f, "z", 0, api.ErrMatch)
		}
		zeros := strings.Repeat("0", 2*api.MaxWidth)
		one, none := numberOf(verb, "1"), numberOf(verb, "0")
		wantScan(t, "%"+verb, zeros[:4095]+"1z", 4096, api.OK, one)
		wantScan(t, "%"+verb, zeros[:4096]+"1z", 4096, api.OK, none)
		wantScan(t, "%4096"+verb, zeros[:4096]+"1z", 4096, api.OK, none)
		wantScan(t, "%4095"+verb, zeros[:4095]+"1z", 4095, api.OK, none)
		wantScan(t, "%"+verb+"%"+verb, zeros[:8190]+"1", 8191, api.OK, none, one)
		wantScan(t, "%"+verb+"%"+verb, zeros, 2*api.MaxWidth, api.OK, none, none)
	}
	wantScan(t, "%d", "-"+strings.Repeat("0", 4094)+"19", 4096, api.OK, in(-1))
	wantScan(t, "%d", "-"+strings.Repeat("0", 4095)+"1", 4096, api.OK, in(0))
}

// TestRanges: the least and the greatest numbers and one further, whose sign and digits are used up all the same (P18.1).
func TestRanges(t *testing.T) {
	for _, zeros := range []string{"", "0", strings.Repeat("0", 3000)} {
		for _, behind := range []string{"", "z", " 1"} {
			ok := func(verb, sign, digits string, a api.Arg) {
				t.Helper()
				b := sign + zeros + digits
				wantScan(t, "%"+verb, b+behind, len(b), api.OK, a)
			}
			beyond := func(verb, sign, digits string) {
				t.Helper()
				b := sign + zeros + digits
				wantScan(t, "%"+verb, b+behind, len(b), api.ErrMatch)
				wantScan(t, "%*"+verb, " "+b+behind, len(b)+1, api.ErrMatch)
				wantScan(t, "%c%"+verb+"%c", "\n"+b+behind, len(b)+1, api.ErrMatch, char('\n'))
			}
			ok("d", "", "9223372036854775807", in(math.MaxInt))
			ok("d", "+", "9223372036854775807", in(math.MaxInt))
			ok("d", "-", "9223372036854775807", in(-math.MaxInt))
			ok("d", "-", "9223372036854775808", in(math.MinInt))
			ok("u", "", "18446744073709551615", un(math.MaxUint64))
			ok("x", "", "ffffffffffffffff", un(math.MaxUint64))
			ok("x", "", "FFFFFFFFFFFFFFFF", un(math.MaxUint64))
			ok("o", "", "1777777777777777777777", un(math.MaxUint64))
			beyond("d", "", "9223372036854775808")
			beyond("d", "+", "9223372036854775808")
			beyond("d", "-", "9223372036854775809")
			beyond("d", "-", "18446744073709551615")
			beyond("d", "", "18446744073709551616")
			beyond("d", "-", "18446744073709551616")
			beyond("d", "", "18446744073709551617")
			beyond("u", "", "18446744073709551616")
			beyond("u", "", "99999999999999999999999999")
			beyond("x", "", "10000000000000000")
			beyond("x", "", "FFFFFFFFFFFFFFFFF")
			beyond("o", "", "2000000000000000000000")
			beyond("o", "", "7777777777777777777777")
		}
	}
	many := strings.Repeat("9", 5000)
	wantScan(t, "%d", many, 4096, api.ErrMatch)
	wantScan(t, "%u", many, 4096, api.ErrMatch)
	wantScan(t, "%d", "-"+many, 4096, api.ErrMatch)
	wantScan(t, "%19d", "9223372036854775808", 19, api.ErrMatch)
	wantScan(t, "%18d%d", "9223372036854775808", 19, api.OK, in(922337203685477580), in(8))
	wantScan(t, "%19u", "18446744073709551616", 19, api.OK, un(1844674407370955161))
}

// TestQuiet: a directive with * uses up the same bytes and leaves the other values as they are (P18.1).
func TestQuiet(t *testing.T) {
	bytesOf := map[string]string{"%d": "-17", "%2d": "17", "%u": "17", "%x": "fF", "%3o": "017", "%s": "word", "%2s": "wo", "%c": "*", "%3c": "a c"}
	for f, b := range bytesOf {
		for before, b1 := range bytesOf {
			for behind, b3 := range bytesOf {
				l := []string{before, f, behind}
				text := b1 + " " + b + " " + b3
				whole := scanning(strings.Join(l, " "), text)
				if len(whole.args) != 3 || whole.e != api.OK || whole.n != len(text) {
					t.Errorf("P18.1: Scan(%q, %q): %s", l, text, whole)
					continue
				}
				for mask := range 8 {
					var pattern []string
					var left []api.Arg
					for i, f := range l {
						if mask>>i&1 == 1 {
							f = strings.Replace(f, "%", "%*", 1)
						} else {
							left = append(left, whole.args[i])
						}
						pattern = append(pattern, f)
					}
					wantScan(t, strings.Join(pattern, " "), text, len(text), api.OK, left...)
				}
			}
		}
	}
}

// TestEnds: the bytes end within a number, a word, c's bytes, ahead of a directive and behind the last one; Args that were read are told (P18.1).
func TestEnds(t *testing.T) {
	wantScan(t, "%d", "12", 2, api.OK, in(12))
	wantScan(t, "%5d", "12", 2, api.OK, in(12))
	wantScan(t, "%5s", "ab", 2, api.OK, word("ab"))
	wantScan(t, "%x%o", "f", 1, api.ErrEnd, un(15))
	wantScan(t, "%d%s", "12 ", 3, api.ErrEnd, in(12))
	wantScan(t, "%d %s", "12 ", 3, api.ErrEnd, in(12))
	wantScan(t, "%d %d %d", "1 2", 3, api.ErrEnd, in(1), in(2))
	wantScan(t, "%d %d %d", "1 2 -", 5, api.ErrEnd, in(1), in(2))
	wantScan(t, "%d %d %d", "1 2 x", 4, api.ErrMatch, in(1), in(2))
	wantScan(t, "%d %d %d", "1 2 -x", 5, api.ErrMatch, in(1), in(2))
	wantScan(t, "%d,%d", "1;2", 1, api.ErrMatch, in(1))
	wantScan(t, "%d,%d", "1 ,2", 1, api.ErrMatch, in(1))
	wantScan(t, "%d,%d", "1, 2", 4, api.OK, in(1), in(2))
	wantScan(t, "%d,%d", "1", 1, api.ErrEnd, in(1))
	wantScan(t, "%d ", "1 \n\t2", 4, api.OK, in(1))
	wantScan(t, "%d ", "1", 1, api.OK, in(1))
	wantScan(t, "%d", "1 \n", 1, api.OK, in(1))
	wantScan(t, "%d.", "1", 1, api.ErrEnd, in(1))
	wantScan(t, "%*d%d", "7", 1, api.ErrEnd)
	wantScan(t, "%s%c", "ab", 2, api.ErrEnd, word("ab"))
	wantScan(t, "%s%c", "ab ", 3, api.OK, word("ab"), char(' '))
	wantScan(t, "%d%d%d", "1\n2\t3", 5, api.OK, in(1), in(2), in(3))
}
