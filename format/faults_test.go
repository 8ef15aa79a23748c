package format

import (
	"math"
	"slices"
	"strings"
	"testing"

	"millrace/api"
)

// noDirectives are bytes behind % that are no directive.
var noDirectives = []string{
	// The pattern ends.
	"%", "%-", "%+0", "%5", "%5.", "%.", "%.3", "%05", "%4096", "%.4096", "%-+0 4096.4096",
	// A flag twice, or behind a width or a point.
	"%--d", "%++d", "%00d", "%  d", "%-+-d", "%-+0 -d", "%-+0  d", "%0+0d", "%-05-d", "%5-d", "%5+d", "%5 d", "%.-5d", "%.+d", "%. d", "%-00s", "%0-05d", "%00005x",
	// Numbers of five digits, and those that are too great.
	"%10000d", "%12345d", "%99999d", "%4097d", "%4100d", "%5000d", "%9999d", "%-4097s", "%04097d", "%.4097d", "%.9999d", "%.10000d", "%.00004d", "%.00000d", "%.04097d", "%5.4097d", "%4097.5d", "%10000.1d", "%18446744073709551621d", "%.18446744073709551621d", "%4294967297d", "%99999999999999999999999d",
	"%." + strings.Repeat("0", 1000) + "d", "%5" + strings.Repeat("0", 1000) + "d",
	// More than one point, or a number behind none.
	"%..d", "%.3.3d", "%5..3d", "%.3 d", "%5 5d",
	// %% with something between.
	"%-%", "%+%", "%0%", "% %", "%5%", "%05%", "%.%", "%.0%", "%5.3%", "%4096%",
	// No verb.
	"%y", "%i", "%D", "%U", "%C", "%S", "%O", "%p", "%f", "%e", "%g", "%n", "%v", "%q", "%t", "%b", "%ld", "%hd", "%zu", "%*d", "%.*d", "%#x", "%'d", "%1$d", "%(d", "%\td", "%\nd", "%\x00d", "%\xff", "%\u00e9", "%5y", "%-y", "%.3y", "%\u00a0d", "%,d", "%5,3d", "%/d", "%:d",
}

// TestNoDirective: ErrFormat and the place of its %, wherever it stands, and ahead of what the Args are (P17.1).
func TestNoDirective(t *testing.T) {
	for _, f := range noDirectives {
		if f == "%" {
			// What follows would make it another one.
			refuses(t, api.ErrFormat, 3, "abc%")
			refuses(t, api.ErrFormat, 2, "%%%")
			refuses(t, api.ErrFormat, 2, "%d%", Int(1))
			continue
		}
		for _, args := range [][]api.Arg{nil, {Int(1)}, {Uint(1)}, {Byte(1)}, {Text("a")}, {Int(1), Int(2)}, {{}}, {{Kind: 3, Uint: 256}}} {
			refuses(t, api.ErrFormat, 0, f, args...)
			refuses(t, api.ErrFormat, 5, "abc%%"+f, args...)
			refuses(t, api.ErrFormat, 2, "%d"+f, append([]api.Arg{Int(7)}, args...)...)
			refuses(t, api.ErrFormat, 4, "%.1s"+f+"%d%y", append([]api.Arg{Text("7")}, args...)...)
		}
	}
}

// TestEachByte: of all bytes only those of the chapter are a verb, alone and behind all else that may be (P17.1).
func TestEachByte(t *testing.T) {
	for c := range 256 {
		for _, ahead := range []string{"%", "%-", "%+", "%0", "% ", "%-+0 ", "%5", "%-5", "%.", "%.3", "%5.3", "%- 12.0004"} {
			f := ahead + string([]byte{byte(c)})
			kind, isVerb := verbs[byte(c)]
			switch {
			case isVerb:
				a := valueOf(byte(c))
				wantTold(t, f, a)
				for other := -1; other <= 6; other++ {
					if other != kind {
						a.Kind = other
						refuses(t, api.ErrArg, 0, f, a)
					}
				}
			case f == "%%":
				shows(t, "%", f)
			default:
				refuses(t, api.ErrFormat, 0, f, Int(1))
			}
		}
	}
}

// TestShortPatterns: all patterns of some bytes, held against the chapter's words (P17.1).
func TestShortPatterns(t *testing.T) {
	letters := []string{"%", "-", "+", "0", " ", "4", "9", ".", "d", "s", "x", "c", "y"}
	kinds := [][]api.Arg{nil, {Int(-5)}, {Text("abc")}, {Int(3), Uint(0)}}
	var from func(f string, more int)
	from = func(f string, more int) {
		for _, args := range kinds {
			wantTold(t, f, args...)
		}
		if more == 0 || t.Failed() {
			return
		}
		for _, c := range letters {
			from(f+c, more-1)
		}
	}
	from("%", 4)
	from("a%d", 2)
}

// TestPatternLong: as many bytes as may be, and one more, which goes ahead of all faults (P17.1).
func TestPatternLong(t *testing.T) {
	most := letters(api.MaxLine)
	shows(t, most, most)
	refuses(t, api.ErrLong, 0, most+"x")
	refuses(t, api.ErrLong, 0, most+"x", Int(1))
	refuses(t, api.ErrLong, 0, "%y"+most)
	refuses(t, api.ErrLong, 0, "%d"+most)
	refuses(t, api.ErrLong, 0, "%d"+most, Text("a"))
	refuses(t, api.ErrLong, 0, most+most)
	refuses(t, api.ErrLong, 0, strings.Repeat("%", 2*api.MaxLine))
	// With a text that would not be too long.
	shows(t, strings.Repeat("%", api.MaxLine/2), strings.Repeat("%%", api.MaxLine/2))
	refuses(t, api.ErrLong, 0, strings.Repeat("%%", api.MaxLine/2)+"x")
	// The last bytes are a directive, and a part of one.
	shows(t, most[2:]+"7", most[2:]+"%d", Int(7))
	refuses(t, api.ErrFormat, api.MaxLine-1, most[1:]+"%")
	refuses(t, api.ErrCount, api.MaxLine-2, most[2:]+"%d")
	refuses(t, api.ErrLong, api.MaxLine-2, most[2:]+"%d", Int(777))
	refuses(t, api.ErrCount, api.MaxLine, most, Int(1))
	shows(t, "", strings.Repeat("%.d", api.MaxLine/3), slices.Repeat([]api.Arg{Int(0)}, api.MaxLine/3)...)
}

// TestTextLong: a text of just as many bytes as may be, and of one more, by a directive and by bytes between (P17.1).
func TestTextLong(t *testing.T) {
	most := letters(api.MaxLine)
	shows(t, most, "%s", Text(most))
	refuses(t, api.ErrLong, 0, "%s", Text(most+"x"))
	shows(t, most, "%.4096s%s", Text(most), Text(most[api.MaxWidth:]))
	shows(t, "", "%.0s%.s", Text(most+"x"), Text(most+most))
	shows(t, most[:9], "%.9s", Text(most+most))
	shows(t, most, "%s%s", Text(most), Text(""))
	refuses(t, api.ErrLong, 2, "%s%s", Text(most), Text("x"))
	refuses(t, api.ErrLong, 2, "%s%s", Text(most), Text(most))
	refuses(t, api.ErrLong, 3, "ab\n%s", Text(most[2:]))
	shows(t, "ab\n"+most[3:], "ab\n%s", Text(most[3:]))
	// By bytes between, at the place of the byte that is one too many.
	shows(t, most[3:]+"abc", "%sabc", Text(most[3:]))
	refuses(t, api.ErrLong, 4, "%sabc", Text(most[2:]))
	refuses(t, api.ErrLong, 2, "%sabc", Text(most))
	refuses(t, api.ErrLong, 4, "%sabc%y", Text(most[2:]))
	shows(t, most[1:]+"%", "%s%%", Text(most[1:]))
	refuses(t, api.ErrLong, 2, "%s%%", Text(most))
	refuses(t, api.ErrLong, 4, "%s%%%%", Text(most[1:]))
	// By what fills a width and a precision, by a sign, and by one digit.
	wide := strings.Repeat("%4096d", 16)
	args := slices.Repeat([]api.Arg{Int(7)}, 16)
	shows(t, strings.Repeat(strings.Repeat(" ", 4095)+"7", 16), wide, args...)
	refuses(t, api.ErrLong, len(wide), wide+"%d", append(args, Int(7))...)
	refuses(t, api.ErrLong, len(wide), wide+"x", args...)
	shows(t, strings.Repeat(strings.Repeat(" ", 4095)+"7", 16), wide+"%.d", append(args, Int(0))...)
	refuses(t, api.ErrLong, 7, "%.0s%+d%s", Text(""), Int(7), Text(most[1:]))
}

// TestOrder: of several faults the first from the left, and of one directive the one that the chapter names first (P17.1).
func TestOrder(t *testing.T) {
	most := Text(letters(api.MaxLine))
	// ErrFormat ahead of ErrCount, ErrArg and ErrLong of the same directive.
	refuses(t, api.ErrFormat, 2, "%s%5-d", most)
	refuses(t, api.ErrFormat, 2, "%s%y", most, Int(1))
	// ErrCount ahead of ErrLong, ErrArg ahead of ErrLong.
	refuses(t, api.ErrCount, 2, "%s%d", most)
	refuses(t, api.ErrArg, 2, "%s%d", most, Text("7"))
	refuses(t, api.ErrArg, 2, "%s%c", most, api.Arg{Kind: 3, Uint: 256})
	refuses(t, api.ErrLong, 2, "%s%d", most, Int(7))
	// Whatever stands behind it.
	refuses(t, api.ErrCount, 0, "%d%y")
	refuses(t, api.ErrCount, 2, "%d%d%y", Int(1))
	refuses(t, api.ErrArg, 0, "%d%y", Text("a"))
	refuses(t, api.ErrArg, 0, "%d%d", Text("a"))
	refuses(t, api.ErrArg, 0, "%d%d", Text("a"), Text("b"), Text("c"))
	refuses(t, api.ErrFormat, 0, "%y%d", Text("a"))
	refuses(t, api.ErrFormat, 2, "%d%y%s", Int(1), most, most)
	refuses(t, api.ErrLong, 2, "%s%s%y", most, most)
	refuses(t, api.ErrLong, 2, "%sx%y", most)
	refuses(t, api.ErrLong, 2, "%sx", most, Int(1))
	// Args that are left come last.
	refuses(t, api.ErrFormat, 3, "abc%", Int(1))
	refuses(t, api.ErrArg, 3, "abc%s", Int(1), Int(2))
}

// TestArgsLeft: ErrCount and the pattern's length (P17.1).
func TestArgsLeft(t *testing.T) {
	for _, a := range []api.Arg{Int(1), Uint(1), Byte(1), Text("a"), {}, {Kind: -1}, {Kind: 5}, {Kind: 3, Uint: 256}} {
		refuses(t, api.ErrCount, 0, "", a)
		refuses(t, api.ErrCount, 3, "abc", a)
		refuses(t, api.ErrCount, 2, "%%", a)
		refuses(t, api.ErrCount, 2, "%d", Int(1), a)
		refuses(t, api.ErrCount, 7, "%d%5.1s", Int(1), Text("b"), a, a)
	}
	many := slices.Repeat([]api.Arg{Int(7)}, 70000)
	refuses(t, api.ErrCount, 2, "%d", many...)
	refuses(t, api.ErrCount, 0, "", many...)
	shows(t, strings.Repeat("7", api.MaxLine/2), strings.Repeat("%d", api.MaxLine/2), many[:api.MaxLine/2]...)
}

// TestArgsLacking: ErrCount and the place of the first directive that has none; %% takes none (P17.1).
func TestArgsLacking(t *testing.T) {
	for verb := range verbs {
		f := "%" + string(rune(verb))
		refuses(t, api.ErrCount, 0, f)
		refuses(t, api.ErrCount, 3, "abc"+f)
		refuses(t, api.ErrCount, 2, f+f, valueOf(verb))
		refuses(t, api.ErrCount, 4, f+f+f, valueOf(verb), valueOf(verb))
		refuses(t, api.ErrCount, 4, f+"%%"+f+f, valueOf(verb))
	}
	shows(t, "%%", "%%%%")
}

// TestArgWrong: ErrArg and the place of the directive, of each other Kind, of one that is none, and of a byte above 255 (P17.1).
func TestArgWrong(t *testing.T) {
	for verb, kind := range verbs {
		f := "%" + string(rune(verb))
		for _, other := range []int{math.MinInt, -4, -1, 0, 1, 2, 3, 4, 5, 6, 257, 258, 1<<32 + kind, math.MaxInt} {
			a := api.Arg{Kind: other, Int: 7, Uint: 7, Text: "7"}
			if other == kind {
				wantTold(t, f, a)
				continue
			}
			refuses(t, api.ErrArg, 0, f, a)
			refuses(t, api.ErrArg, 0, f, a, a)
			refuses(t, api.ErrArg, 3, "7%%"+f, a)
			refuses(t, api.ErrArg, 2, f+f, api.Arg{Kind: kind, Int: 7, Uint: 7, Text: "7"}, a)
		}
	}
	shows(t, "\xff", "%c", api.Arg{Kind: 3, Uint: 255})
	for _, n := range []uint64{256, 257, 511, 512, 1 << 16, 1<<32 + 7, math.MaxUint64} {
		refuses(t, api.ErrArg, 0, "%c", api.Arg{Kind: 3, Uint: n})
		refuses(t, api.ErrArg, 4, "%c%%%c", Byte('a'), api.Arg{Kind: 3, Uint: n})
	}
}
