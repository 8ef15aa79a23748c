package openmode

import (
	"fmt"
	"slices"
	"strings"
	"testing"
	"unsafe"

	"millrace/api"
)

// row is a mode that may be: its text as it is printed, and its flags.
type row struct {
	text  string
	mode  api.Mode
	flags int
}

// rows are all modes that may be.
func rows() []row {
	begun := []row{
		{"r", api.Mode{Reads: true}, 1},
		{"r+", api.Mode{Reads: true, Writes: true}, 1 + 2},
		{"w", api.Mode{Writes: true, Create: true, Truncate: true}, 2 + 8 + 16},
		{"w+", api.Mode{Reads: true, Writes: true, Create: true, Truncate: true}, 1 + 2 + 8 + 16},
		{"a", api.Mode{Writes: true, Append: true, Create: true}, 2 + 4 + 8},
		{"a+", api.Mode{Reads: true, Writes: true, Append: true, Create: true}, 1 + 2 + 4 + 8},
	}
	var all []row
	for _, r := range begun {
		for rest := range 8 {
			one := r
			one.mode.Binary, one.mode.Exclusive, one.mode.Mark = rest&1 > 0, rest&2 > 0, rest&4 > 0
			if one.mode.Exclusive && r.text[0] != 'w' {
				continue
			}
			if one.mode.Binary {
				one.text += "b"
			}
			if one.mode.Exclusive {
				one.text += "x"
				one.flags += 32
			}
			if one.mode.Mark {
				one.text += "e"
			}
			all = append(all, one)
		}
	}
	return all
}

// everyMode goes through all modes that there are, those that may not be with them.
func everyMode(yield func(api.Mode) bool) {
	for n := range 256 {
		on := func(bit int) bool { return n>>bit&1 == 1 }
		m := api.Mode{Reads: on(0), Writes: on(1), Append: on(2), Create: on(3), Truncate: on(4), Exclusive: on(5), Binary: on(6), Mark: on(7)}
		if !yield(m) {
			return
		}
	}
}

// orders are all orders of the bytes of s.
func orders(s string) []string {
	if len(s) < 2 {
		return []string{s}
	}
	var l []string
	for i := range len(s) {
		for _, rest := range orders(s[:i] + s[i+1:]) {
			l = append(l, s[i:i+1]+rest)
		}
	}
	return l
}

// firstWrong is the place of the first byte that may not stand there, or the length of s; by counting alone.
func firstWrong(s string) int {
	for i := range len(s) {
		mayStand := strings.ContainsRune("rwa", rune(s[i]))
		if i > 0 {
			mayStand = strings.ContainsRune("+be", rune(s[i])) || s[i] == 'x' && s[0] == 'w'
			mayStand = mayStand && strings.Count(s[:i], s[i:i+1]) == 0
		}
		if !mayStand {
			return i
		}
	}
	return len(s)
}

func wantParse(t *testing.T, s string, want api.Mode) {
	t.Helper()
	if m, e, at := Parse(s); m != want || e != api.OK || at != len(s) {
		t.Errorf("P9.1: Parse(%.40q): %+v, %d, %d, not %+v, 0, %d", s, m, e, at, want, len(s))
	}
}

func wantNoParse(t *testing.T, s string, want int) {
	t.Helper()
	if m, e, at := Parse(s); m != (api.Mode{}) || e != api.ErrOpen || at != want {
		t.Errorf("P9.1: Parse(%.40q): %+v, %d, %d, not %d at %d", s, m, e, at, api.ErrOpen, want)
	}
}

func wantCheck(t *testing.T, m api.Mode, want api.Errno) {
	t.Helper()
	if e := Check(m); e != want {
		t.Errorf("P9.2: Check(%+v): %d, not %d", m, e, want)
	}
}

func wantPrint(t *testing.T, m api.Mode, want string, e api.Errno) {
	t.Helper()
	if s, ge := Print(m); s != want || ge != e {
		t.Errorf("P9.2: Print(%+v): %q, %d, not %q, %d", m, s, ge, want, e)
	}
}

func wantFlags(t *testing.T, m api.Mode, want int, e api.Errno) {
	t.Helper()
	if n, ge := Flags(m); n != want || ge != e {
		t.Errorf("P9.2: Flags(%+v): %d, %d, not %d, %d", m, n, ge, want, e)
	}
}

// TestExamples: the chapter's.
func TestExamples(t *testing.T) {
	wantParse(t, "rb+", api.Mode{Reads: true, Writes: true, Binary: true})
	wantPrint(t, api.Mode{Reads: true, Writes: true, Binary: true}, "r+b", api.OK)
	wantNoParse(t, "rx", 1)
	wantNoParse(t, "", 0)
	wantNoParse(t, "w++", 2)
}

// TestWhatEachLetterSays: each alone behind each first byte.
func TestWhatEachLetterSays(t *testing.T) {
	wantParse(t, "r", api.Mode{Reads: true})
	wantParse(t, "w", api.Mode{Writes: true, Create: true, Truncate: true})
	wantParse(t, "a", api.Mode{Writes: true, Append: true, Create: true})
	wantParse(t, "r+", api.Mode{Reads: true, Writes: true})
	wantParse(t, "w+", api.Mode{Reads: true, Writes: true, Create: true, Truncate: true})
	wantParse(t, "a+", api.Mode{Reads: true, Writes: true, Append: true, Create: true})
	wantParse(t, "rb", api.Mode{Reads: true, Binary: true})
	wantParse(t, "wb", api.Mode{Writes: true, Create: true, Truncate: true, Binary: true})
	wantParse(t, "ab", api.Mode{Writes: true, Append: true, Create: true, Binary: true})
	wantParse(t, "re", api.Mode{Reads: true, Mark: true})
	wantParse(t, "we", api.Mode{Writes: true, Create: true, Truncate: true, Mark: true})
	wantParse(t, "ae", api.Mode{Writes: true, Append: true, Create: true, Mark: true})
	wantParse(t, "wx", api.Mode{Writes: true, Create: true, Truncate: true, Exclusive: true})
	wantParse(t, "wexb+", api.Mode{Reads: true, Writes: true, Create: true, Truncate: true, Exclusive: true, Binary: true, Mark: true})
}

// TestEveryOrder: P9.1, P9.3: each first byte with each choice of what may stand behind it, in every order, and what is printed of it.
func TestEveryOrder(t *testing.T) {
	all := rows()
	if len(all) != 32 {
		t.Fatalf("%d modes, not 32", len(all))
	}
	texts := 0
	for _, r := range all {
		for _, rest := range orders(r.text[1:]) {
			texts++
			s := r.text[:1] + rest
			wantParse(t, s, r.mode)
			wantPrintOfParse(t, s, r.text)
		}
	}
	if want := 2*16 + 65; texts != want {
		t.Fatalf("%d texts, not %d", texts, want)
	}
}

// wantPrintOfParse: the same bytes, in the order of printing.
func wantPrintOfParse(t *testing.T, s, want string) {
	t.Helper()
	m, _, _ := Parse(s)
	got, e := Print(m)
	if got != want || e != api.OK {
		t.Errorf("P9.3: Print of Parse(%q): %q, %d, not %q", s, got, e, want)
	}
	was, is := []byte(s), []byte(got)
	slices.Sort(was)
	slices.Sort(is)
	if string(was) != string(is) {
		t.Errorf("P9.3: Print of Parse(%q): %q has other bytes", s, got)
	}
}

// TestOneByteMore: behind each text that may be, each byte: it is one that may still come, or wrong at its place, whatever follows.
func TestOneByteMore(t *testing.T) {
	for _, r := range rows() {
		for c := range 256 {
			s := r.text + string([]byte{byte(c)})
			free := strings.Contains("+be", s[len(s)-1:]) || c == 'x' && s[0] == 'w'
			if free && !strings.Contains(r.text, s[len(s)-1:]) {
				if _, e, at := Parse(s); e != api.OK || at != len(s) {
					t.Errorf("P9.1: Parse(%q): %d, %d, not 0, %d", s, e, at, len(s))
				}
				continue
			}
			wantNoParse(t, s, len(r.text))
			wantNoParse(t, s+"b", len(r.text))
			wantNoParse(t, s+s, len(r.text))
		}
	}
}

// TestFirstByte: r, w and a alone; whatever stands behind, the wrong first byte is told.
func TestFirstByte(t *testing.T) {
	for c := range 256 {
		s := string([]byte{byte(c)})
		if strings.Contains("rwa", s) {
			continue
		}
		for _, rest := range []string{"", "r", "w", "+", "b", "+be", "\x00", "\xff", "rwa"} {
			wantNoParse(t, s+rest, 0)
		}
	}
}

// TestWrongTexts: the edges that the chapter names, one by one.
func TestWrongTexts(t *testing.T) {
	for s, at := range map[string]int{
		"": 0, "+": 0, "b": 0, "e": 0, "x": 0, "+r": 0, "br": 0, "xw": 0, "R": 0, "W": 0, "A": 0, " r": 0, "\x00": 0, "\x80": 0, "\xff": 0, "é": 0, "ŕ": 0,
		"rr": 1, "ww": 1, "aa": 1, "rw": 1, "wr": 1, "ra": 1, "ar": 1, "wa": 1, "aw": 1,
		"rx": 1, "ax": 1, "rxx": 1, "axb": 1, "r ": 1, "r\x00": 1, "r\n": 1, "w\xff": 1, "wé": 1, "rB": 1, "wX": 1, "aE": 1, "r-": 1, "r,": 1, "r*": 1, "rt": 1,
		"r++": 2, "w++": 2, "a++": 2, "rbb": 2, "wbb": 2, "abb": 2, "ree": 2, "wee": 2, "aee": 2, "wxx": 2, "r+x": 2, "a+x": 2, "rbx": 2, "aex": 2, "r+r": 2, "w+w": 2, "a+r": 2,
		"ab+x": 3, "rb+b": 3, "w+b+": 3, "wxbx": 3, "reb\x80": 3, "w+xw": 3,
		"w+bxee": 5, "wxeb++": 5, "w+bxe+": 5, "w+bxer": 5, "w+bxe ": 5,
	} {
		wantNoParse(t, s, at)
	}
}

// TestLongTexts: a text of a million bytes is wrong at its first byte that may not stand there.
func TestLongTexts(t *testing.T) {
	const long = 1 << 20
	wantNoParse(t, strings.Repeat("r", long), 1)
	wantNoParse(t, strings.Repeat("q", long), 0)
	wantNoParse(t, "w+bxe"+strings.Repeat("b", long), 5)
	wantNoParse(t, "r+"+strings.Repeat("+", long), 2)
}

// TestAllShortTexts: all texts of at most two bytes, and all of at most six of those that say something or look like it.
func TestAllShortTexts(t *testing.T) {
	var two []string
	for c := range 256 {
		two = append(two, string([]byte{byte(c)}))
	}
	tellAll(t, "", two, 2)
	tellAll(t, "", strings.Split("r w a + b x e \x80", " "), 6)
}

// tellAll goes through all texts that go on behind s by at most left of these.
func tellAll(t *testing.T, s string, of []string, left int) {
	m, e, at := Parse(s)
	want, wantError := firstWrong(s), api.OK
	if want < len(s) || s == "" {
		wantError = api.ErrOpen
	}
	if e != wantError || at != want {
		t.Fatalf("P9.1: Parse(%q): %d, %d, not %d, %d", s, e, at, wantError, want)
	}
	if e != api.OK && m != (api.Mode{}) {
		t.Fatalf("P9.1: Parse(%q): %+v beside an error", s, m)
	}
	if e == api.OK && Check(m) != api.OK {
		t.Fatalf("P9.2: Check of Parse(%q): %+v may not be", s, m)
	}
	if left == 0 {
		return
	}
	for _, c := range of {
		tellAll(t, s+c, of, left-1)
	}
}

// TestEveryMode: P9.2, P9.3: all 256, of which 32 may be.
func TestEveryMode(t *testing.T) {
	all := rows()
	count := 0
	for m := range everyMode {
		count++
		at := slices.IndexFunc(all, func(r row) bool { return r.mode == m })
		if at < 0 {
			wantCheck(t, m, api.ErrOpen)
			wantPrint(t, m, "", api.ErrOpen)
			wantFlags(t, m, 0, api.ErrOpen)
			continue
		}
		r := all[at]
		wantCheck(t, m, api.OK)
		wantPrint(t, m, r.text, api.OK)
		wantFlags(t, m, r.flags, api.OK)
		s, _ := Print(m)
		if got, e, n := Parse(s); got != m || e != api.OK || n != len(s) {
			t.Errorf("P9.3: Parse of Print(%+v), which is %q: %+v, %d, %d", m, s, got, e, n)
		}
	}
	if count != 256 {
		t.Fatalf("%d modes, not 256", count)
	}
}

// TestModesThatMayNotBe: those that are nearly one.
func TestModesThatMayNotBe(t *testing.T) {
	for _, m := range []api.Mode{
		{},
		{Binary: true},
		{Mark: true},
		{Writes: true},
		{Exclusive: true},
		{Reads: true, Create: true},
		{Reads: true, Append: true},
		{Reads: true, Truncate: true},
		{Reads: true, Exclusive: true},
		{Reads: true, Writes: true, Create: true},
		{Reads: true, Writes: true, Truncate: true},
		{Reads: true, Writes: true, Append: true},
		{Writes: true, Create: true},
		{Writes: true, Truncate: true},
		{Writes: true, Append: true},
		{Create: true, Truncate: true},
		{Append: true, Create: true},
		{Reads: true, Create: true, Truncate: true},
		{Reads: true, Append: true, Create: true},
		{Writes: true, Append: true, Create: true, Truncate: true},
		{Writes: true, Append: true, Create: true, Exclusive: true},
		{Writes: true, Create: true, Exclusive: true},
		{Reads: true, Writes: true, Append: true, Create: true, Truncate: true, Exclusive: true, Binary: true, Mark: true},
	} {
		wantCheck(t, m, api.ErrOpen)
		wantPrint(t, m, "", api.ErrOpen)
		wantFlags(t, m, 0, api.ErrOpen)
	}
}

// TestNothingIsShared: P9.4: the bytes behind a text are left as they were, and changed afterwards they change no answer.
func TestNothingIsShared(t *testing.T) {
	for _, s := range []string{"w+bxe", "rb+", "a", "r+x", "q", "wbb"} {
		room := []byte("<" + s + ">")
		text := unsafe.String(&room[1], len(s))
		m, e, at := Parse(text)
		if string(room) != "<"+s+">" {
			t.Fatalf("P9.4: Parse(%q): its bytes are %q now", s, room)
		}
		printed, pe := Print(m)
		wasMode, wasPrinted := m, strings.Clone(printed)
		clear(room)
		if m != wasMode || printed != wasPrinted {
			t.Errorf("P9.4: Parse(%q): its answers changed with its bytes: %+v, %q", s, m, printed)
		}
		againMode, againError, againAt := Parse(s)
		againPrinted, againPe := Print(againMode)
		if againMode != m || againError != e || againAt != at || againPrinted != printed || againPe != pe {
			t.Errorf("P9.4: Parse(%q) again: %+v, %d, %d, %q", s, againMode, againError, againAt, againPrinted)
		}
	}
}

// TestNothingIsKept: P9.4: answers do not hang on the calls ahead, refused ones among them.
func TestNothingIsKept(t *testing.T) {
	tell := func(s string) string {
		m, e, at := Parse(s)
		p, pe := Print(m)
		n, fe := Flags(m)
		return fmt.Sprintf("%+v %d %d %q %d %d %d %d", m, e, at, p, pe, n, fe, Check(m))
	}
	texts := []string{"w+bxe", "r", "", "rx", "a+", "w", "q", "r++", "wx", "ab", "r+"}
	was := map[string]string{}
	for _, s := range texts {
		was[s] = tell(s)
	}
	for _, ahead := range texts {
		for _, s := range texts {
			tell(ahead)
			if got := tell(s); got != was[s] {
				t.Errorf("P9.4: %q behind %q: %s, not %s", s, ahead, got, was[s])
			}
		}
	}
}
