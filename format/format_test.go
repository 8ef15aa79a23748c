package format

import (
	"fmt"
	"math"
	"regexp"
	"slices"
	"strconv"
	"strings"
	"testing"

	"millrace/api"
)

// asked is what Format answers.
type asked struct {
	text string
	e    api.Errno
	at   int
}

func (x asked) String() string {
	return fmt.Sprintf("%s, %d, %d", short([]byte(x.text)), x.e, x.at)
}

func formatted(f string, args ...api.Arg) asked {
	b, e, at := Format(f, args)
	return asked{string(b), e, at}
}

// shows holds the text of a pattern against the one that is wanted.
func shows(t *testing.T, want, f string, args ...api.Arg) {
	t.Helper()
	if x := formatted(f, args...); x != (asked{want, api.OK, len(f)}) {
		t.Errorf("P17.1: Format(%s, %s): %s, not %s", short([]byte(f)), showArgs(args), x, short([]byte(want)))
	}
}

// refuses holds the error of a pattern, and its place, against the one that is wanted.
func refuses(t *testing.T, e api.Errno, at int, f string, args ...api.Arg) {
	t.Helper()
	if x := formatted(f, args...); x != (asked{"", e, at}) {
		t.Errorf("P17.1: Format(%s, %s): %s, not %d, %d", short([]byte(f)), showArgs(args), x, e, at)
	}
}

func showArgs(args []api.Arg) string {
	var l []string
	for _, a := range args[:min(len(args), 9)] {
		l = append(l, fmt.Sprintf("{%d %d %d %s}", a.Kind, a.Int, a.Uint, short([]byte(a.Text))))
	}
	return fmt.Sprintf("%d: %s", len(args), l)
}

// aDirective is the chapter's words on what a directive is, but that a flag stands there at most once, and how great numbers are.
var aDirective = regexp.MustCompile(`(?s)^%(?:%|([-+0 ]*)([1-9][0-9]{0,3})?(\.[0-9]{0,4})?([duxXocs]))`)

// asTold is Format as the chapter has it: from the left, each directive by those words.
func asTold(f string, args []api.Arg) asked {
	if len(f) > api.MaxLine {
		return asked{"", api.ErrLong, 0}
	}
	text := ""
	for at := 0; at < len(f); {
		part, length, takes := f[at:at+1], 1, false
		if f[at] == '%' {
			m := aDirective.FindStringSubmatch(f[at:])
			if m == nil || !mayBe(m) {
				return asked{"", api.ErrFormat, at}
			}
			length, takes = len(m[0]), m[0] != "%%"
			if takes && len(args) == 0 {
				return asked{"", api.ErrCount, at}
			}
			if takes && !fits(m[4], args[0]) {
				return asked{"", api.ErrArg, at}
			}
			if takes {
				part, args = becomes(m[1], m[2], m[3], m[4], args[0]), args[1:]
			}
		}
		if len(text)+len(part) > api.MaxLine {
			return asked{"", api.ErrLong, at}
		}
		text += part
		at += length
	}
	if len(args) > 0 {
		return asked{"", api.ErrCount, len(f)}
	}
	return asked{text, api.OK, len(f)}
}

// mayBe tells of what matched whether each flag stands there at most once, and no number is too great.
func mayBe(m []string) bool {
	for _, flag := range []string{"-", "+", "0", " "} {
		if strings.Count(m[1], flag) > 1 {
			return false
		}
	}
	width, _ := strconv.Atoi("0" + m[2])
	precision, _ := strconv.Atoi("0" + strings.TrimPrefix(m[3], "."))
	return width <= api.MaxWidth && precision <= api.MaxWidth
}

func fits(verb string, a api.Arg) bool {
	switch verb {
	case "d":
		return a.Kind == 1
	case "c":
		return a.Kind == 3 && a.Uint < 256
	case "s":
		return a.Kind == 4
	}
	return a.Kind == 2
}

// becomes is what the chapter says that a directive becomes, step by step.
func becomes(flags, width, precision, verb string, a api.Arg) string {
	sign, shown := "", ""
	switch verb {
	case "d":
		shown = strings.TrimPrefix(strconv.Itoa(a.Int), "-")
		if a.Int < 0 {
			sign = "-"
		} else if strings.Contains(flags, "+") {
			sign = "+"
		} else if strings.Contains(flags, " ") {
			sign = " "
		}
	case "u":
		shown = strconv.FormatUint(a.Uint, 10)
	case "x":
		shown = strconv.FormatUint(a.Uint, 16)
	case "X":
		shown = strings.ToUpper(strconv.FormatUint(a.Uint, 16))
	case "o":
		shown = strconv.FormatUint(a.Uint, 8)
	case "c":
		shown = string([]byte{byte(a.Uint)})
	case "s":
		shown = a.Text
	}
	digits := strings.Contains("duxXo", verb)
	if precision != "" {
		n, _ := strconv.Atoi("0" + precision[1:])
		if digits && n == 0 && shown == "0" {
			shown = ""
		}
		for digits && len(shown) < n {
			shown = "0" + shown
		}
		if verb == "s" && len(shown) > n {
			shown = shown[:n]
		}
	}
	n, _ := strconv.Atoi("0" + width)
	lacking := max(n-len(sign)-len(shown), 0)
	if strings.Contains(flags, "-") {
		return sign + shown + strings.Repeat(" ", lacking)
	}
	if strings.Contains(flags, "0") && digits && precision == "" {
		return sign + strings.Repeat("0", lacking) + shown
	}
	return strings.Repeat(" ", lacking) + sign + shown
}

// wantTold holds Format against the chapter's words.
func wantTold(t *testing.T, f string, args ...api.Arg) {
	t.Helper()
	if x, want := formatted(f, args...), asTold(f, args); x != want {
		t.Errorf("P17.1: Format(%s, %s): %s, not %s", short([]byte(f)), showArgs(args), x, want)
	}
}

// verbs are all but %, and the Kind that each is of.
var verbs = map[byte]int{'d': 1, 'u': 2, 'x': 2, 'X': 2, 'o': 2, 'c': 3, 's': 4}

// flagOrders hands out each choice of the flags in each order, from none to all.
func flagOrders(yield func(string) bool) {
	var from func(flags, rest string) bool
	from = func(flags, rest string) bool {
		if !yield(flags) {
			return false
		}
		for i := range rest {
			if !from(flags+rest[i:i+1], rest[:i]+rest[i+1:]) {
				return false
			}
		}
		return true
	}
	from("", "-+0 ")
}

// valuesOf are Args that a verb shows, edges among them.
func valuesOf(verb byte) []api.Arg {
	var l []api.Arg
	switch verbs[verb] {
	case 1:
		for _, n := range []int{0, 1, -1, 42, -42, 99999, math.MaxInt, math.MinInt} {
			l = append(l, Int(n))
		}
	case 2:
		for _, n := range []uint64{0, 1, 7, 8, 42, 255, 0xABCDEF, 1 << 63, math.MaxUint64} {
			l = append(l, Uint(n))
		}
	case 3:
		for _, c := range []byte{'z', 0, '\n', '0', '%', 127, 128, 255} {
			l = append(l, Byte(c))
		}
	case 4:
		for _, s := range []string{"", "a", "hello", "0", "-7", "%d", "\x00\xff\n", "\u00e9\u4e16", letters(40), letters(5000)} {
			l = append(l, Text(s))
		}
	}
	return l
}

// valueOf is one of them.
func valueOf(verb byte) api.Arg { return valuesOf(verb)[0] }

// TestExamples: those of the chapter (P17.1).
func TestExamples(t *testing.T) {
	n := Int(42)
	shows(t, "   42|42   |00042|+42", "%5d|%-5d|%05d|%+d", n, n, n, n)
	shows(t, "00a", "%.3x", Uint(10))
	shows(t, "     hel|", "%8.3s|", Text("hello"))
	refuses(t, api.ErrCount, 0, "%d")
	refuses(t, api.ErrFormat, 0, "%y")
	refuses(t, api.ErrCount, 4, "%d%%", Int(1), Int(2))
}

// TestVerbs: what each verb shows, alone (P17.1).
func TestVerbs(t *testing.T) {
	for n, want := range map[int]string{0: "0", 7: "7", -7: "-7", 1000: "1000", math.MaxInt: "9223372036854775807", math.MinInt: "-9223372036854775808"} {
		shows(t, want, "%d", Int(n))
	}
	for _, c := range []struct {
		n                   uint64
		u, x, bigX, o, zero string
	}{
		{0, "0", "0", "0", "0", ""},
		{8, "8", "8", "8", "10", "8"},
		{255, "255", "ff", "FF", "377", "255"},
		{0xABCDEF0123, "737894400291", "abcdef0123", "ABCDEF0123", "12571573600443", "737894400291"},
		{1 << 63, "9223372036854775808", "8000000000000000", "8000000000000000", "1000000000000000000000", "9223372036854775808"},
		{math.MaxUint64, "18446744073709551615", "ffffffffffffffff", "FFFFFFFFFFFFFFFF", "1777777777777777777777", "18446744073709551615"},
	} {
		shows(t, c.u, "%u", Uint(c.n))
		shows(t, c.x, "%x", Uint(c.n))
		shows(t, c.bigX, "%X", Uint(c.n))
		shows(t, c.o, "%o", Uint(c.n))
		shows(t, c.zero, "%.0u", Uint(c.n))
	}
	for c := range 256 {
		shows(t, string([]byte{byte(c)}), "%c", Byte(byte(c)))
	}
	for _, s := range []string{"", "a", "%d", "\x00\xff", "\u4e16", "two\nlines", letters(70)} {
		shows(t, s, "%s", Text(s))
	}
	shows(t, "%", "%%")
	shows(t, "%%%", "%%%%%%")
	shows(t, "100%d", "%u%%d", Uint(100))
}

// TestBecomes: what a directive becomes, written out (P17.1).
func TestBecomes(t *testing.T) {
	for _, c := range []struct {
		f    string
		a    api.Arg
		want string
	}{
		// Each flag alone, all of them, by verbs with and without a sign.
		{"%-d", Int(42), "42"}, {"%+d", Int(42), "+42"}, {"%0d", Int(42), "42"}, {"% d", Int(42), " 42"},
		{"%-d", Int(-42), "-42"}, {"%+d", Int(-42), "-42"}, {"%0d", Int(-42), "-42"}, {"% d", Int(-42), "-42"},
		{"%-+0 d", Int(42), "+42"}, {"% 0+-d", Int(42), "+42"}, {"% +d", Int(42), "+42"}, {"%+ d", Int(-42), "-42"},
		{"%+d", Int(0), "+0"}, {"% d", Int(0), " 0"},
		{"%+u", Uint(42), "42"}, {"% x", Uint(42), "2a"}, {"%+ X", Uint(42), "2A"}, {"% +o", Uint(42), "52"},
		{"%+c", Byte('z'), "z"}, {"% s", Text("hey"), "hey"}, {"%+ 0-s", Text("hey"), "hey"},
		// A width, and who fills it.
		{"%5d", Int(42), "   42"}, {"%-5d", Int(42), "42   "}, {"%05d", Int(42), "00042"}, {"%+5d", Int(42), "  +42"}, {"% 5d", Int(42), "   42"},
		{"%5d", Int(-42), "  -42"}, {"%-5d", Int(-42), "-42  "}, {"%05d", Int(-42), "-0042"}, {"%+05d", Int(42), "+0042"}, {"% 05d", Int(42), " 0042"}, {"%0 5d", Int(42), " 0042"},
		{"%-+5d", Int(42), "+42  "}, {"%- 5d", Int(42), " 42  "}, {"%-05d", Int(42), "42   "}, {"%0-5d", Int(-42), "-42  "}, {"%0+-5d", Int(42), "+42  "},
		{"%1d", Int(42), "42"}, {"%2d", Int(42), "42"}, {"%3d", Int(42), " 42"}, {"%2d", Int(-42), "-42"}, {"%3d", Int(-42), "-42"}, {"%4d", Int(-42), " -42"}, {"%03d", Int(-42), "-42"}, {"%04d", Int(-42), "-042"},
		{"%04u", Uint(42), "0042"}, {"%+04u", Uint(42), "0042"}, {"%06x", Uint(42), "00002a"}, {"%-06X|", Uint(42), "2A    |"}, {"%6o", Uint(42), "    52"}, {"%10X", Uint(255), "        FF"},
		{"%3c", Byte('z'), "  z"}, {"%-3c", Byte('z'), "z  "}, {"%03c", Byte('z'), "  z"}, {"%1c", Byte('z'), "z"}, {"%3c", Byte(255), "  \xff"},
		{"%5s", Text("abc"), "  abc"}, {"%-5s", Text("abc"), "abc  "}, {"%05s", Text("abc"), "  abc"}, {"%3s", Text("abc"), "abc"}, {"%2s", Text("abc"), "abc"}, {"%2s", Text(""), "  "}, {"%4s", Text("\u4e16"), " \u4e16"},
		// A precision of digits; with it the flag 0 says nothing.
		{"%.3d", Int(42), "042"}, {"%.2d", Int(42), "42"}, {"%.1d", Int(42), "42"}, {"%.d", Int(42), "42"}, {"%.0d", Int(42), "42"}, {"%.3d", Int(-42), "-042"}, {"%+.3d", Int(42), "+042"}, {"% .3d", Int(42), " 042"},
		{"%6.3d", Int(42), "   042"}, {"%-6.3d", Int(42), "042   "}, {"%06.3d", Int(42), "   042"}, {"%06.d", Int(42), "    42"}, {"%06.0d", Int(-42), "   -42"}, {"%+06.3d", Int(42), "  +042"}, {"%-06.3d", Int(42), "042   "}, {"%06.9d", Int(42), "000000042"},
		{"%.5u", Uint(42), "00042"}, {"%.5x", Uint(42), "0002a"}, {"%.5X", Uint(42), "0002A"}, {"%.5o", Uint(42), "00052"}, {"%07.5x", Uint(42), "  0002a"},
		{"%.0003d", Int(42), "042"}, {"%.03d", Int(42), "042"}, {"%.0000d", Int(42), "42"},
		// The number 0 and the precision 0.
		{"%.0d", Int(0), ""}, {"%.d", Int(0), ""}, {"%.0000d", Int(0), ""}, {"%+.0d", Int(0), "+"}, {"% .0d", Int(0), " "}, {"%3.0d", Int(0), "   "}, {"%+3.0d", Int(0), "  +"}, {"%-+3.d", Int(0), "+  "}, {"%03.0d", Int(0), "   "}, {"%+03.d", Int(0), "  +"},
		{"%.0u", Uint(0), ""}, {"%.x", Uint(0), ""}, {"%2.0X", Uint(0), "  "}, {"%-2.0o", Uint(0), "  "}, {"%02.0u", Uint(0), "  "}, {"%+.0u", Uint(0), ""},
		{"%.1d", Int(0), "0"}, {"%.2d", Int(0), "00"}, {"%d", Int(0), "0"}, {"%03d", Int(0), "000"}, {"%.1x", Uint(0), "0"},
		// Of a byte it says nothing, of a text it is the most.
		{"%.0c", Byte('z'), "z"}, {"%.c", Byte('z'), "z"}, {"%.9c", Byte('z'), "z"}, {"%3.0c", Byte('0'), "  0"}, {"%03.1c", Byte('z'), "  z"}, {"%-3.2c", Byte('z'), "z  "},
		{"%.2s", Text("abc"), "ab"}, {"%.3s", Text("abc"), "abc"}, {"%.4s", Text("abc"), "abc"}, {"%.0s", Text("abc"), ""}, {"%.s", Text("abc"), ""}, {"%.s", Text("0"), ""}, {"%.1s", Text(""), ""},
		{"%4.2s", Text("abc"), "  ab"}, {"%-4.2s", Text("abc"), "ab  "}, {"%04.2s", Text("abc"), "  ab"}, {"%2.2s", Text("abc"), "ab"}, {"%1.2s", Text("abc"), "ab"}, {"%3.0s", Text("abc"), "   "}, {"%.1s", Text("\u4e16"), "\xe4"},
		// The greatest numbers.
		{"%020d", Int(math.MinInt), "-9223372036854775808"}, {"%021d", Int(math.MinInt), "-09223372036854775808"}, {"%.20d", Int(math.MinInt), "-09223372036854775808"}, {"%+d", Int(math.MaxInt), "+9223372036854775807"},
		{"%.21u", Uint(math.MaxUint64), "018446744073709551615"}, {"%017X", Uint(math.MaxUint64), "0FFFFFFFFFFFFFFFF"},
	} {
		shows(t, c.want, c.f, c.a)
		wantTold(t, c.f, c.a)
	}
}

// TestWidths: of one to four digits, up to the greatest (P17.1, P17.4).
func TestWidths(t *testing.T) {
	for _, n := range []int{1, 2, 9, 10, 11, 99, 100, 101, 999, 1000, 1001, 4095, api.MaxWidth} {
		shows(t, strings.Repeat(" ", n-1)+"7", fmt.Sprintf("%%%dd", n), Int(7))
		shows(t, strings.Repeat("0", n-1)+"7", fmt.Sprintf("%%0%dx", n), Uint(7))
		shows(t, "7"+strings.Repeat(" ", n-1), fmt.Sprintf("%%-%dc", n), Byte('7'))
		shows(t, strings.Repeat("0", n-1)+"7", fmt.Sprintf("%%.%dd", n), Int(7))
		shows(t, "-"+strings.Repeat("0", n-1)+"7", fmt.Sprintf("%%.%04dd", n), Int(-7))
		shows(t, letters(n), fmt.Sprintf("%%.%ds", n), Text(letters(n)+"more"))
		shows(t, letters(n), fmt.Sprintf("%%%d.%04ds", n, n), Text(letters(n)+"more"))
	}
	shows(t, strings.Repeat("0", api.MaxWidth)+"|"+strings.Repeat(" ", api.MaxWidth), "%.4096d|%-4096.4096s", Int(0), Text(strings.Repeat(" ", 9000)))
}

// TestEachDirective: all orders of all flags, by each verb, by widths, precisions and values (P17.1, P17.4).
func TestEachDirective(t *testing.T) {
	widths := []string{"", "1", "2", "3", "5", "19", "20", "21", "70", "999"}
	precisions := []string{"", ".", ".0", ".1", ".3", ".0003", ".0000", ".19", ".20", ".40"}
	for flags := range flagOrders {
		for _, width := range widths {
			for _, precision := range precisions {
				for verb := range verbs {
					for _, a := range valuesOf(verb) {
						f := "%" + flags + width + precision + string(rune(verb))
						want := becomes(flags, width, precision, string(rune(verb)), a)
						if x := formatted(f, a); x != (asked{want, api.OK, len(f)}) {
							t.Fatalf("P17.1: Format(%q, %s): %s, not %q", f, showArgs([]api.Arg{a}), x, want)
						}
						if n, _ := strconv.Atoi("0" + width); len(want) < n {
							t.Fatalf("P17.4: %q: %q is shorter than the width", f, want)
						}
					}
				}
			}
		}
	}
}

// TestArgs: the Args of Kind 1 to 4, with nothing else in them (P17.2).
func TestArgs(t *testing.T) {
	for _, n := range []int{0, 1, -1, math.MaxInt, math.MinInt} {
		if a := Int(n); a != (api.Arg{Kind: 1, Int: n}) {
			t.Errorf("P17.2: Int(%d): %v", n, a)
		}
	}
	for _, n := range []uint64{0, 1, 256, math.MaxUint64} {
		if a := Uint(n); a != (api.Arg{Kind: 2, Uint: n}) {
			t.Errorf("P17.2: Uint(%d): %v", n, a)
		}
	}
	for c := range 256 {
		if a := Byte(byte(c)); a != (api.Arg{Kind: 3, Uint: uint64(c)}) {
			t.Errorf("P17.2: Byte(%d): %v", c, a)
		}
	}
	for _, s := range []string{"", "a", "%d\x00\xff", letters(70000)} {
		if a := Text(s); a != (api.Arg{Kind: 4, Text: s}) {
			t.Errorf("P17.2: Text(%q): %v", s, a)
		}
	}
}

// TestOtherFields: of an Arg only the field of its Kind counts (P17.1).
func TestOtherFields(t *testing.T) {
	shows(t, "7", "%d", api.Arg{Kind: 1, Int: 7, Uint: 1000, Text: "no"})
	shows(t, "1000", "%u", api.Arg{Kind: 2, Int: -7, Uint: 1000, Text: "no"})
	shows(t, "z", "%c", api.Arg{Kind: 3, Int: 1000, Uint: 'z', Text: "no"})
	shows(t, "yes", "%s", api.Arg{Kind: 4, Int: -7, Uint: 1000, Text: "yes"})
}

// TestPlain: a text without % is itself, whatever its bytes are (P17.3).
func TestPlain(t *testing.T) {
	for _, f := range []string{"", "a", "-+0 5.3d", "\x00\xff\n", "\u4e16", "%"[:0], strings.ReplaceAll(text(2000), "%", ""), letters(api.MaxLine)} {
		if x := formatted(f); x != (asked{f, api.OK, len(f)}) {
			t.Errorf("P17.3: Format(%s): %s", short([]byte(f)), x)
		}
		refuses(t, api.ErrCount, len(f), f, Int(1))
	}
	for c := range 256 {
		if f := string([]byte{byte(c)}); c != '%' && formatted(f) != (asked{f, api.OK, 1}) {
			t.Errorf("P17.3: Format(%q): %s", f, formatted(f))
		}
	}
}

// TestNeverShorter: a directive with a width becomes that many bytes at least, whatever stands in it (P17.4).
func TestNeverShorter(t *testing.T) {
	roll := dice(174)
	for range 3000 {
		verb := "duxXocs"[roll(7)]
		width := 1 + roll([]int{9, 99, api.MaxWidth}[roll(3)])
		flags := slices.Collect(flagOrders)[roll(65)]
		precision := []string{"", ".", ".3", fmt.Sprint(".", roll(api.MaxWidth+1))}[roll(4)]
		values := valuesOf(verb)
		f := fmt.Sprintf("%%%s%d%s%c", flags, width, precision, verb)
		if x := formatted(f, values[roll(len(values))]); x.e != api.OK || len(x.text) < width {
			t.Errorf("P17.4: Format(%q): %s is %d bytes", f, x, len(x.text))
		}
	}
}

// somePattern is a pattern by chance with its Args.
func somePattern(roll func(int) int) (string, []api.Arg) {
	f, args := "", []api.Arg(nil)
	for range roll(5) {
		switch roll(4) {
		case 0:
			f += strings.ReplaceAll(text(roll(30)), "%", "")
		case 1:
			f += "%%"
		default:
			verb := "duxXocs"[roll(7)]
			f += "%" + []string{"", "-", "0", "+", " ", "-0 "}[roll(6)] + []string{"", "7", "30"}[roll(3)] + []string{"", ".", ".5"}[roll(3)] + string(rune(verb))
			values := valuesOf(verb)
			args = append(args, values[roll(len(values))])
		}
	}
	return f, args
}

// TestTogether: two patterns with their Args, one behind the other, are their texts, one behind the other (P17.5).
func TestTogether(t *testing.T) {
	for seed := range 4000 {
		roll := dice(uint64(seed))
		f1, args1 := somePattern(roll)
		f2, args2 := somePattern(roll)
		one, two := formatted(f1, args1...), formatted(f2, args2...)
		both := formatted(f1+f2, slices.Concat(args1, args2)...)
		if one.e != api.OK || two.e != api.OK || both != (asked{one.text + two.text, api.OK, len(f1 + f2)}) {
			t.Fatalf("P17.5: %q, %q: %s and %s, but %s", f1, f2, one, two, both)
		}
		wantTold(t, f1+f2, slices.Concat(args1, args2)...)
	}
}
