package terminal

import (
	"bytes"
	"math"
	"strings"
	"testing"

	"millrace/api"
)

// outside are numbers that no read may ask for.
var outside = []int{0, -1, -2, -api.MaxFile, math.MinInt, math.MinInt + 1, api.MaxFile + 1, api.MaxFile + 2, 1 << 32, 1<<32 + 1, math.MaxInt32, math.MaxInt - 1, math.MaxInt}

// pattern is n bytes, none of them a zero or a newline.
func pattern(n int) []byte {
	b := make([]byte, n)
	for i := range b {
		b[i] = byte(11 + i%241)
	}
	return b
}

// typed is the texts as lines.
func typed(texts ...string) [][]byte {
	lines := make([][]byte, len(texts))
	for i, text := range texts {
		lines[i] = []byte(text)
	}
	return lines
}

// many is n lines, no two neighbours the same, some of them empty.
func many(n int) [][]byte {
	lines := make([][]byte, n)
	for i := range lines {
		lines[i] = pattern(i % 7)
	}
	return lines
}

func terminalOf(t *testing.T, lines ...[]byte) *Terminal {
	t.Helper()
	x, e := New(lines)
	if e != api.OK || x == nil {
		t.Fatalf("P4.1: New of %d lines: %v, %d", len(lines), x, e)
	}
	return x
}

func brief(b []byte) []byte {
	return b[:min(len(b), 20)]
}

func wantRefused(t *testing.T, lines [][]byte, e api.Errno) {
	t.Helper()
	if x, got := New(lines); x != nil || got != e {
		t.Errorf("P4.1: New of %d lines: %v, %d; want nil, %d", len(lines), x, got, e)
	}
}

// wantRead reads, and looks how many lines are left then.
func wantRead(t *testing.T, x *Terminal, n int, want string, left int) {
	t.Helper()
	b, e := x.Read(n)
	if e != api.OK || string(b) != want {
		t.Errorf("P4.1: Read(%d): %d bytes, %q, %d; want %d, %q", n, len(b), brief(b), e, len(want), brief([]byte(want)))
	}
	wantLeft(t, x, left)
}

func wantNoRead(t *testing.T, x *Terminal, n int, e api.Errno) {
	t.Helper()
	if b, got := x.Read(n); got != e || len(b) != 0 {
		t.Errorf("P4.1: Read(%d): %q, %d; want none, %d", n, brief(b), got, e)
	}
}

func wantWrite(t *testing.T, x *Terminal, b []byte, e api.Errno) {
	t.Helper()
	if got := x.Write(b); got != e {
		t.Errorf("P4.1: Write of %d bytes: %d; want %d", len(b), got, e)
	}
}

func wantLeft(t *testing.T, x *Terminal, n int) {
	t.Helper()
	if got := x.Left(); got != n {
		t.Errorf("P4.2: Left: %d; want %d", got, n)
	}
}

func wantScreen(t *testing.T, x *Terminal, b []byte) {
	t.Helper()
	if got := x.Screen(); !bytes.Equal(got, b) {
		t.Errorf("P4.2: Screen: %d bytes, %q; want %d, %q", len(got), brief(got), len(b), brief(b))
	}
}

// wantRest reads all lines that are left, each by one read, and holds them against the texts.
func wantRest(t *testing.T, x *Terminal, texts ...string) {
	t.Helper()
	wantLeft(t, x, len(texts))
	for i, text := range texts {
		wantRead(t, x, api.MaxFile, text, len(texts)-i-1)
	}
	wantRead(t, x, 1, "", 0)
}

// TestExample: example 1 of the chapter.
func TestExample(t *testing.T) {
	x := terminalOf(t, typed("ab\n", "", "c")...)
	wantLeft(t, x, 3)
	wantRead(t, x, 2, "ab", 3)
	wantRead(t, x, 9, "\n", 2)
	wantRead(t, x, 9, "", 1)
	wantRead(t, x, 9, "c", 0)
	for range 20 {
		wantRead(t, x, 9, "", 0)
	}
}

func TestNewHowMany(t *testing.T) {
	for _, n := range []int{0, 1, 2, 100, api.MaxInput - 1, api.MaxInput} {
		lines := many(n)
		x := terminalOf(t, lines...)
		wantLeft(t, x, n)
		wantScreen(t, x, nil)
		for i, line := range lines {
			wantRead(t, x, api.MaxTyped, string(line), n-i-1)
		}
		wantRead(t, x, 1, "", 0)
	}
	for _, n := range []int{api.MaxInput + 1, api.MaxInput + 2, 2 * api.MaxInput, 100000} {
		wantRefused(t, many(n), api.ErrCount)
		wantRefused(t, make([][]byte, n), api.ErrCount)
	}
}

func TestNewHowLong(t *testing.T) {
	for _, n := range []int{0, 1, 2, api.MaxTyped - 1, api.MaxTyped} {
		x := terminalOf(t, pattern(n))
		wantRest(t, x, string(pattern(n)))
		ended := append(pattern(n)[:max(n-1, 0)], '\n')
		wantRest(t, terminalOf(t, ended), string(ended))
	}
	for _, n := range []int{api.MaxTyped + 1, api.MaxTyped + 2, api.MaxFile + 1} {
		for _, place := range []int{0, 1, 100, api.MaxInput - 1} {
			lines := many(api.MaxInput)
			lines[place] = pattern(n)
			wantRefused(t, lines, api.ErrLong)
		}
		wantRefused(t, [][]byte{pattern(n)}, api.ErrLong)
		wantRefused(t, [][]byte{append(pattern(n-1), '\n')}, api.ErrLong)
	}
}

// TestNewCountFirst: too many lines go ahead of one that is too long.
func TestNewCountFirst(t *testing.T) {
	for _, place := range []int{0, api.MaxInput - 1, api.MaxInput} {
		lines := many(api.MaxInput + 1)
		lines[place] = pattern(api.MaxTyped + 1)
		wantRefused(t, lines, api.ErrCount)
	}
}

func TestNewOfTheLongest(t *testing.T) {
	lines := make([][]byte, api.MaxInput)
	for i := range lines {
		lines[i] = pattern(api.MaxTyped)
		lines[i][0] = byte(i)
	}
	x := terminalOf(t, lines...)
	for i, line := range lines {
		wantRead(t, x, 1, string(line[:1]), api.MaxInput-i)
		wantRead(t, x, api.MaxFile, string(line[1:]), api.MaxInput-i-1)
	}
}

// TestNoLinesAreMade: a terminal of no line is one that New made, of a nil list as of an empty one.
func TestNoLinesAreMade(t *testing.T) {
	for _, lines := range [][][]byte{nil, {}} {
		x := terminalOf(t, lines...)
		wantRest(t, x)
		wantNoRead(t, x, 0, api.ErrRange)
		wantWrite(t, x, nil, api.OK)
		wantScreen(t, x, nil)
		c := x.Copy()
		if c == nil {
			t.Fatal("P4.2: Copy of a terminal of no line: nil")
		}
		wantRest(t, c)
		wantWrite(t, x, []byte("x"), api.OK)
		wantScreen(t, x, []byte("x"))
		wantScreen(t, c, nil)
	}
}

func TestReadOfALine(t *testing.T) {
	for _, c := range []struct {
		n    int
		want string
	}{{1, "h"}, {2, "he"}, {5, "hello"}, {6, "hello\n"}, {7, "hello\n"}, {api.MaxFile - 1, "hello\n"}, {api.MaxFile, "hello\n"}} {
		x := terminalOf(t, typed("hello\n", "next")...)
		left := 2
		if c.want == "hello\n" {
			left = 1
		}
		wantRead(t, x, c.n, c.want, left)
		if left == 2 {
			wantRead(t, x, api.MaxFile, strings.TrimPrefix("hello\n", c.want), 1)
		}
		wantRest(t, x, "next")
	}
}

// TestLastByteEndsALine: a line of which all is read is gone at once: the next read answers the next line, not none.
func TestLastByteEndsALine(t *testing.T) {
	x := terminalOf(t, typed("ab", "c", "de\n")...)
	wantRead(t, x, 1, "a", 3)
	wantRead(t, x, 1, "b", 2)
	wantRead(t, x, 1, "c", 1)
	wantRead(t, x, 1, "d", 1)
	wantRead(t, x, 2, "e\n", 0)
	wantRead(t, x, 1, "", 0)
}

func TestEmptyLines(t *testing.T) {
	for _, texts := range [][]string{{""}, {"", ""}, {"", "a"}, {"a", ""}, {"a\n", "", "b\n"}, {"", "a", "", "", "b", ""}} {
		for _, n := range []int{1, 2, api.MaxFile} {
			x := terminalOf(t, typed(texts...)...)
			for i, text := range texts {
				for at := 0; at < len(text); at += n {
					part := text[at : min(len(text)-at, n)+at]
					left := len(texts) - i
					if at+n >= len(text) {
						left--
					}
					wantRead(t, x, n, part, left)
				}
				if text == "" {
					wantRead(t, x, n, "", len(texts)-i-1)
				}
			}
			wantRead(t, x, n, "", 0)
		}
	}
	x := terminalOf(t, nil, []byte("a"), []byte{}, nil)
	wantRest(t, x, "", "a", "", "")
}

// TestBytesAreNoText: a line is bytes as they were typed: zeros, and a newline that is not the last, end nothing.
func TestBytesAreNoText(t *testing.T) {
	texts := []string{"\x00", "\xff\xfe\x00\x80", "\n", "\n\n", "a\nb", "\r\n", " ", "\x04"}
	wantRest(t, terminalOf(t, typed(texts...)...), texts...)
	x := terminalOf(t, typed("a\nb", "c")...)
	wantRead(t, x, 2, "a\n", 2)
	wantRest(t, x, "b", "c")
}

// TestReadRange: refused reads answer none and change nothing, before, within and behind the lines.
func TestReadRange(t *testing.T) {
	x := terminalOf(t, typed("", "abc", "d")...)
	wantWrite(t, x, []byte("seen"), api.OK)
	refuse := func(left int) {
		t.Helper()
		for _, n := range outside {
			wantNoRead(t, x, n, api.ErrRange)
		}
		wantLeft(t, x, left)
		wantScreen(t, x, []byte("seen"))
	}
	refuse(3)
	wantRead(t, x, 1, "", 2)
	refuse(2)
	wantRead(t, x, 1, "a", 2)
	refuse(2)
	wantRead(t, x, 2, "bc", 1)
	refuse(1)
	wantRead(t, x, api.MaxFile, "d", 0)
	refuse(0)
	wantRead(t, x, api.MaxFile, "", 0)
}

func TestWrite(t *testing.T) {
	x := terminalOf(t, typed("ab")...)
	wantScreen(t, x, nil)
	wantWrite(t, x, []byte("one\n"), api.OK)
	wantScreen(t, x, []byte("one\n"))
	wantWrite(t, x, nil, api.OK)
	wantWrite(t, x, []byte{}, api.OK)
	wantScreen(t, x, []byte("one\n"))
	wantWrite(t, x, []byte{0, 255, '\n'}, api.OK)
	wantWrite(t, x, []byte("2"), api.OK)
	wantScreen(t, x, []byte("one\n\x00\xff\n2"))
	wantScreen(t, x, []byte("one\n\x00\xff\n2"))
	wantRest(t, x, "ab")
	wantScreen(t, x, []byte("one\n\x00\xff\n2"))
	wantWrite(t, x, []byte("3"), api.OK)
	wantScreen(t, x, []byte("one\n\x00\xff\n23"))
	wantLeft(t, x, 0)
}

func TestWriteFull(t *testing.T) {
	full := pattern(api.MaxFile)
	for _, stands := range []int{0, 1, api.MaxFile / 2, api.MaxFile - 1, api.MaxFile} {
		x := terminalOf(t, typed("ab")...)
		wantWrite(t, x, full[:stands], api.OK)
		for _, more := range []int{1, 2, api.MaxFile} {
			wantWrite(t, x, pattern(api.MaxFile-stands+more), api.ErrFull)
			wantScreen(t, x, full[:stands])
		}
		wantWrite(t, x, full[stands:], api.OK)
		wantScreen(t, x, full)
		wantWrite(t, x, []byte{1}, api.ErrFull)
		wantWrite(t, x, pattern(api.MaxFile+1), api.ErrFull)
		wantWrite(t, x, nil, api.OK)
		wantWrite(t, x, []byte{}, api.OK)
		wantScreen(t, x, full)
		wantRest(t, x, "ab")
	}
}

func TestCopy(t *testing.T) {
	x := terminalOf(t, typed("gone", "abcd\n", "", "e")...)
	wantRead(t, x, 9, "gone", 3)
	wantRead(t, x, 1, "a", 3)
	wantWrite(t, x, []byte("screen"), api.OK)
	c := x.Copy()
	if c == nil || c == x {
		t.Fatalf("P4.2: Copy: %p of %p", c, x)
	}
	wantLeft(t, c, 3)
	wantScreen(t, c, []byte("screen"))

	wantRead(t, c, 2, "bc", 3)
	wantWrite(t, c, []byte("1"), api.OK)
	wantLeft(t, x, 3)
	wantScreen(t, x, []byte("screen"))
	wantWrite(t, x, []byte("23"), api.OK)
	wantScreen(t, c, []byte("screen1"))

	wantRest(t, x, "bcd\n", "", "e")
	d := c.Copy()
	wantRest(t, c, "d\n", "", "e")
	wantRest(t, d, "d\n", "", "e")
	wantRest(t, c.Copy())
	wantScreen(t, x, []byte("screen23"))
	wantScreen(t, c.Copy(), []byte("screen1"))
	wantScreen(t, d, []byte("screen1"))
}

// TestCopyGrowsAlone: a terminal and its copy are written to at the same place, with room to spare and without.
func TestCopyGrowsAlone(t *testing.T) {
	x := terminalOf(t)
	want := []byte{}
	for range 1000 {
		wantWrite(t, x, []byte{1}, api.OK)
		c := x.Copy()
		wantWrite(t, x, []byte{2}, api.OK)
		wantWrite(t, c, []byte{3}, api.OK)
		wantScreen(t, c, append(want[:len(want):len(want)], 1, 3))
		want = append(want, 1, 2)
		wantScreen(t, x, want)
	}
}

// TestCopyOfAFullOne: the copy has no more room than the terminal.
func TestCopyOfAFullOne(t *testing.T) {
	x := terminalOf(t)
	wantWrite(t, x, pattern(api.MaxFile-1), api.OK)
	c := x.Copy()
	wantWrite(t, c, []byte{1, 2}, api.ErrFull)
	wantWrite(t, c, []byte{1}, api.OK)
	wantWrite(t, c, []byte{1}, api.ErrFull)
	wantScreen(t, c, append(pattern(api.MaxFile-1), 1))
	wantScreen(t, x, pattern(api.MaxFile-1))
}

// TestNoNewMadeIt: ErrMade goes ahead of every other error, and the terminal stays one that no New made.
func TestNoNewMadeIt(t *testing.T) {
	var zero Terminal
	for _, x := range []*Terminal{nil, {}, new(Terminal), &zero} {
		for _, n := range append([]int{1, 2, api.MaxFile}, outside...) {
			wantNoRead(t, x, n, api.ErrMade)
		}
		for _, b := range [][]byte{nil, {}, {1}, make([]byte, api.MaxFile), make([]byte, api.MaxFile+1)} {
			wantWrite(t, x, b, api.ErrMade)
		}
		wantLeft(t, x, 0)
		wantScreen(t, x, nil)
		if c := x.Copy(); c != nil {
			t.Errorf("P4.2: Copy of one that no New made: %v", c)
		}
		wantNoRead(t, x, 1, api.ErrMade)
	}
}

// TestLinesAreNotKept: neither the list that was handed in nor its lines are kept or changed (P4.5).
func TestLinesAreNotKept(t *testing.T) {
	room := []byte("abcdefgh")
	lines := [][]byte{room[:3], room[2:5], nil, room[6:]}
	x := terminalOf(t, lines...)
	wantRead(t, x, 1, "a", 4)
	b, _ := x.Read(1)
	_ = append(b, "XYZ"...)
	if string(room) != "abcdefgh" || len(lines) != 4 || string(lines[0]) != "abc" || string(lines[1]) != "cde" || lines[2] != nil || string(lines[3]) != "gh" {
		t.Errorf("P4.5: what was handed in to New was changed: %q, %q", room, lines)
	}
	copy(room, "########")
	lines[1], lines[2], lines[3] = nil, []byte("more"), []byte("again")
	wantRest(t, x, "c", "cde", "", "gh")
}

// TestOneLineTwice: two lines of one memory are two lines.
func TestOneLineTwice(t *testing.T) {
	line := []byte("ab")
	x := terminalOf(t, line, line)
	b, _ := x.Read(2)
	copy(b, "##")
	wantRest(t, x, "ab")
}

// TestWrittenIsNotKept: what was handed in to Write is neither kept nor changed, the room behind it included (P4.5).
func TestWrittenIsNotKept(t *testing.T) {
	x := terminalOf(t)
	room := []byte("abcdef")
	wantWrite(t, x, room[:3], api.OK)
	wantWrite(t, x, []byte("123"), api.OK)
	if string(room) != "abcdef" {
		t.Errorf("P4.5: what was handed in to Write was changed: %q", room)
	}
	copy(room, "######")
	wantScreen(t, x, []byte("abc123"))
}

// TestAnswersAreNewMemory: neither the bytes of an answer nor the room behind them are the terminal's or another answer's (P4.5).
func TestAnswersAreNewMemory(t *testing.T) {
	x := terminalOf(t, typed("abcd", "ef")...)
	first, _ := x.Read(2)
	_ = append(first, "##"...)
	second, _ := x.Read(1)
	_ = append(second, "##"...)
	wantRead(t, x, 9, "d", 1)
	_ = append(first, "!!"...)
	if string(first) != "ab" || string(second) != "c" {
		t.Errorf("P4.5: two reads share memory: %q, %q", first, second)
	}

	for range 5 {
		wantWrite(t, x, []byte("x"), api.OK)
	}
	seen, again := x.Screen(), x.Screen()
	copy(seen, "#####")
	_ = append(seen, "###"...)
	wantScreen(t, x, []byte("xxxxx"))
	wantWrite(t, x, []byte("yyy"), api.OK)
	_ = append(again, "###"...)
	wantScreen(t, x, []byte("xxxxxyyy"))
	if string(again) != "xxxxx" {
		t.Errorf("P4.5: an answer of Screen was changed: %q", again)
	}
}

// TestAllIsRead: whatever is asked for, all that is read is all lines, and no read passes a line's end (P4.3); calls that are refused in between change nothing (P4.4), and a copy on the way answers the same.
func TestAllIsRead(t *testing.T) {
	state := uint32(3)
	next := func(n int) int {
		state = state*1664525 + 1013904223
		return int(state>>8) % n
	}
	for range 200 {
		lines := make([][]byte, next(12))
		for i := range lines {
			lines[i] = pattern(next(9))
		}
		x := terminalOf(t, lines...)
		screen := []byte{}
		for line, at := 0, 0; line < len(lines); {
			wantNoRead(t, x, outside[next(len(outside))], api.ErrRange)
			wantWrite(t, x, make([]byte, api.MaxFile+1-len(screen)), api.ErrFull)
			n := 1 + next(5)
			part := lines[line][at:min(at+n, len(lines[line]))]
			if at += len(part); at == len(lines[line]) {
				line, at = line+1, 0
			}
			c := x.Copy()
			wantRead(t, x, n, string(part), len(lines)-line)
			wantRead(t, c, n, string(part), len(lines)-line)
			wantWrite(t, x, part, api.OK)
			screen = append(screen, part...)
			wantScreen(t, x, screen)
			wantScreen(t, c, screen[:len(screen)-len(part)])
		}
		wantRead(t, x, 1, "", 0)
		wantScreen(t, x, bytes.Join(lines, nil))
		if t.Failed() {
			return
		}
	}
}

// TestManySmallWrites: a whole screen, byte by byte; slow means the screen is laid anew for each.
func TestManySmallWrites(t *testing.T) {
	x := terminalOf(t)
	want := pattern(api.MaxFile)
	for i := range want {
		if e := x.Write(want[i : i+1]); e != api.OK {
			t.Fatalf("P4.1: Write %d: %d", i, e)
		}
	}
	wantWrite(t, x, []byte{1}, api.ErrFull)
	wantScreen(t, x, want)
}
