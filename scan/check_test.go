package scan

import (
	"fmt"
	"regexp"
	"strings"
	"testing"

	"millrace/api"
)

func wantCheck(t *testing.T, f string, e api.Errno, n int) {
	t.Helper()
	if gotE, gotN := Check(f); gotE != e || gotN != n {
		t.Errorf("P18.1: Check(%s): %d, %d, not %d, %d", short([]byte(f)), gotE, gotN, e, n)
	}
}

// wrongOnes begin with a % of no directive, whatever stands behind them.
var wrongOnes = []string{
	"%y", "%X", "%i", "%D", "%S", "%C", "%n", "%\x00", "%\xff", "%\n", "%\t", "% d", "% %", "%-d", "%+d", "%.d", "%.3d", "%5.3s", "%[a]",
	"%0d", "%00d", "%01d", "%0005d", "%*0d", "%*05s", "%0%", "%4097d", "%4097%", "%9999s", "%*4097c", "%12345d", "%00001d", "%10000c", "%40960x", "%18446744073709551617d",
	"%**d", "%5*d", "%*5*d", "%5 d", "%* d", "%5%", "%*%", "%*5%", "%5y", "%*y", "%ld", "%hd", "%-5d",
}

// unfinished are the same where the pattern ends with them.
var unfinished = []string{"%", "%*", "%5", "%*5", "%4096", "%*4096", "%12345", "%0", "%4097"}

// rightOnes are patterns, with how many Args they tell at most.
var rightOnes = map[string]int{
	"": 0, "a": 0, " ": 0, "\n\t \n": 0, "%%": 0, "%%%%": 0, "%%d": 0, "a%%b": 0, "d*5": 0,
	"%d": 1, "%u": 1, "%x": 1, "%o": 1, "%c": 1, "%s": 1,
	"%*d": 0, "%*u": 0, "%*x": 0, "%*o": 0, "%*c": 0, "%*s": 0,
	"%1d": 1, "%12u": 1, "%123x": 1, "%4096o": 1, "%4095c": 1, "%9s": 1, "%1000d": 1, "%999d": 1,
	"%*1d": 0, "%*12u": 0, "%*123x": 0, "%*4096o": 0, "%*4095c": 0, "%*9s": 0,
	"%d%d": 2, "%d%*d%d": 2, "%d %% %s": 2, "%%%d%%": 1, "%d5%5d5": 2, "%d*%s": 2, "%dd%ss": 2, "\x00\xff%c\x80": 1,
	"%d%u%x%o%c%s": 6, "%*d%*u%*x%*o%*c%*s%%": 0,
}

// TestCheck: patterns that may be (P18.1).
func TestCheck(t *testing.T) {
	for f, n := range rightOnes {
		wantCheck(t, f, api.OK, n)
	}
}

// TestWrongPatterns: the place is that of the first % with no such directive, behind whatever may stand ahead of it (P18.1).
func TestWrongPatterns(t *testing.T) {
	for _, wrong := range wrongOnes {
		for f := range rightOnes {
			for _, behind := range []string{"", "d", "%d", "%", "%y", "%%"} {
				wantCheck(t, f+wrong+behind, api.ErrFormat, len(f))
			}
		}
	}
	for _, wrong := range unfinished {
		for f := range rightOnes {
			wantCheck(t, f+wrong, api.ErrFormat, len(f))
		}
	}
}

// TestWidths: all widths of one to four digits, and some of five (P18.1).
func TestWidths(t *testing.T) {
	for _, star := range []string{"", "*"} {
		args := 1 - len(star)
		for width := range 20000 {
			f := fmt.Sprintf("%%%s%dd", star, width)
			switch {
			case width >= 1 && width <= api.MaxWidth:
				wantCheck(t, f, api.OK, args)
			default:
				wantCheck(t, f, api.ErrFormat, 0)
			}
			wantCheck(t, fmt.Sprintf("%%%s0%dd", star, width), api.ErrFormat, 0)
		}
	}
}

// TestVerbs: of all bytes the verbs alone may stand behind a %, a width, a star and both (P18.1).
func TestVerbs(t *testing.T) {
	for c := range 256 {
		for _, ahead := range []string{"%", "%7", "%*", "%*7", "%44"} {
			isVerb := strings.IndexByte("duxocs", byte(c)) >= 0
			isVerb = isVerb || ahead == "%" && c == '%'
			e, n := api.ErrFormat, 0
			if isVerb {
				e = api.OK
				n = 1 - strings.Count(ahead, "*") - strings.Count(string(rune(c)), "%")
			}
			wantCheck(t, ahead+string([]byte{byte(c)}), e, n)
		}
	}
}

// TestLongPatterns: a pattern of MaxLine bytes may be, one of one more may not, whatever else is wrong with it (P18.1).
func TestLongPatterns(t *testing.T) {
	wantCheck(t, strings.Repeat("a", api.MaxLine), api.OK, 0)
	wantCheck(t, strings.Repeat("a", api.MaxLine+1), api.ErrLong, 0)
	wantCheck(t, strings.Repeat("%d", api.MaxLine/2), api.OK, api.MaxLine/2)
	wantCheck(t, strings.Repeat("%d", api.MaxLine/2)+" ", api.ErrLong, 0)
	wantCheck(t, strings.Repeat("%%", api.MaxLine/2), api.OK, 0)
	wantCheck(t, strings.Repeat(" ", api.MaxLine-1)+"%", api.ErrFormat, api.MaxLine-1)
	wantCheck(t, strings.Repeat(" ", api.MaxLine)+"%", api.ErrLong, 0)
	wantCheck(t, "%y"+strings.Repeat(" ", api.MaxLine), api.ErrLong, 0)
	wantCheck(t, "%y"+strings.Repeat(" ", api.MaxLine-2), api.ErrFormat, 0)
	wantCheck(t, "%"+strings.Repeat("1", api.MaxLine-1), api.ErrFormat, 0)
	wantCheck(t, "%"+strings.Repeat("0", api.MaxLine-2)+"d", api.ErrFormat, 0)
	wantCheck(t, "%"+strings.Repeat("*", api.MaxLine-2)+"d", api.ErrFormat, 0)
}

// partAsTold is what a pattern may begin with, as the chapter tells it, for these tests alone.
var partAsTold = regexp.MustCompile(`^(?s:%(\*?)([1-9][0-9]{0,3})?([duxocs])|%%|[^%])`)

// partsOf cuts a pattern into its parts; the rest begins with a % of no directive.
func partsOf(f string) (parts [][]string, rest string) {
	for f != "" {
		m := partAsTold.FindStringSubmatch(f)
		if m == nil || len(m[2]) == 4 && m[2] > "4096" {
			return parts, f
		}
		parts = append(parts, m)
		f = f[len(m[0]):]
	}
	return parts, ""
}

// shorts hands out all texts of at most n of these bytes.
func shorts(n int, letters string) func(yield func(s string) bool) {
	return func(yield func(s string) bool) {
		l := []string{""}
		for i := 0; i < len(l); i++ {
			if !yield(l[i]) {
				return
			}
			for _, c := range []byte(letters) {
				if len(l[i]) < n {
					l = append(l, l[i]+string([]byte{c}))
				}
			}
		}
	}
}

// TestShortPatterns: all short patterns, held against the chapter's words (P18.1).
func TestShortPatterns(t *testing.T) {
	for f := range shorts(6, "%*5d0cy ") {
		parts, rest := partsOf(f)
		e, n := api.OK, 0
		if rest != "" {
			e, n = api.ErrFormat, len(f)-len(rest)
		} else {
			for _, m := range parts {
				if m[3] != "" && m[1] == "" {
					n++
				}
			}
		}
		wantCheck(t, f, e, n)
	}
}

// TestWrongScans: Check's error goes ahead of all that the bytes are, and nothing is told beside it (P18.1, P4).
func TestWrongScans(t *testing.T) {
	for _, wrong := range append(wrongOnes, unfinished...) {
		for _, f := range []string{"", "%d", "%d ", "a", "%%", "%s%s", "x"} {
			for _, b := range []string{"", "1", "1 2", "a", "y", "%", " "} {
				wantScan(t, f+wrong, b, 0, api.ErrFormat)
			}
		}
	}
	wantScan(t, strings.Repeat("%d", api.MaxLine/2)+" ", "1 2", 0, api.ErrLong)
	wantScan(t, strings.Repeat("%d", api.MaxLine/2), "1 2", 3, api.ErrEnd, in(1), in(2))
}
