package memory

import (
	"math"
	"testing"

	"millrace/api"
	"millrace/retry"
)

// All four are Raws.
var (
	_ retry.Raw = (*Fixed)(nil)
	_ retry.Raw = (*Growing)(nil)
	_ retry.Raw = (*Reader)(nil)
	_ retry.Raw = (*Custom)(nil)
)

// outside are numbers that are no counts of a memory's bytes.
var outside = []int{-1, -2, -api.MaxFile, -1 << 32, math.MinInt, math.MinInt + 1, api.MaxFile + 1, api.MaxFile + 2, 1 << 32, 1<<32 + 1, math.MaxInt32, math.MaxInt - 1, math.MaxInt}

// noWhences are numbers from which nothing is counted.
var noWhences = []int{-1, 3, 4, -2, 1 << 32, 1<<32 + 1, math.MinInt, math.MaxInt}

// written is a memory that is written and told whole: a Fixed or a Growing.
type written interface {
	retry.Raw
	Bytes() []byte
}

func fixedOf(t *testing.T, size int, b string) *Fixed {
	t.Helper()
	x, e := NewFixed(size, []byte(b))
	if e != api.OK || x == nil {
		t.Fatalf("P10.1: NewFixed(%d) of %d bytes: %p, %d", size, len(b), x, e)
	}
	return x
}

func growingOf(t *testing.T, b string) *Growing {
	t.Helper()
	x, e := NewGrowing([]byte(b))
	if e != api.OK || x == nil {
		t.Fatalf("P10.1: NewGrowing of %d bytes: %p, %d", len(b), x, e)
	}
	return x
}

func readerOf(t *testing.T, b string) *Reader {
	t.Helper()
	x, e := NewReader([]byte(b))
	if e != api.OK || x == nil {
		t.Fatalf("P10.1: NewReader of %d bytes: %p, %d", len(b), x, e)
	}
	return x
}

// bothOf are a Fixed with room enough and a Growing, of the same bytes.
func bothOf(t *testing.T, b string) []written {
	t.Helper()
	return []written{fixedOf(t, api.MaxFile, b), growingOf(t, b)}
}

func wantRead(t *testing.T, x retry.Raw, n int, want string, e api.Errno) {
	t.Helper()
	if b, ge := x.Read(n); string(b) != want || ge != e {
		t.Errorf("P10.2, P10.3: %T: Read(%d): %.40q (%d), %d, not %.40q (%d), %d", x, n, b, len(b), ge, want, len(want), e)
	}
}

func wantWrite(t *testing.T, x retry.Raw, b string, want int, e api.Errno) {
	t.Helper()
	if n, ge := x.Write([]byte(b)); n != want || ge != e {
		t.Errorf("P10.2, P10.3: %T: Write of %d bytes: %d, %d, not %d, %d", x, len(b), n, ge, want, e)
	}
}

func wantSeek(t *testing.T, x retry.Raw, off, whence int, want int, e api.Errno) {
	t.Helper()
	if n, ge := x.Seek(off, whence); n != want || ge != e {
		t.Errorf("P10.2, P10.3: %T: Seek(%d, %d): %d, %d, not %d, %d", x, off, whence, n, ge, want, e)
	}
}

func wantBytes(t *testing.T, x written, want string) {
	t.Helper()
	if b := x.Bytes(); string(b) != want {
		t.Errorf("P10.2: %T: Bytes: %.40q (%d), not %.40q (%d)", x, b, len(b), want, len(want))
	}
}

// wantPlace asks for the place, which does not move by that.
func wantPlace(t *testing.T, x retry.Raw, want int) {
	t.Helper()
	wantSeek(t, x, 0, 1, want, api.OK)
}

// text has n bytes, of all values, without a short period.
func text(n int) string {
	b := make([]byte, n)
	for i := range b {
		b[i] = byte(i*7 + i>>8 + i>>16*3)
	}
	return string(b)
}

func zeros(n int) string {
	return string(make([]byte, n))
}

// TestExample: the chapter's.
func TestExample(t *testing.T) {
	x := fixedOf(t, 3, "")
	wantWrite(t, x, "abcd", 3, api.OK)
	wantWrite(t, x, "e", 0, api.ErrFull)
	wantSeek(t, x, 1, 0, 1, api.OK)
	wantRead(t, x, 9, "bc", api.OK)
	wantBytes(t, x, "abc")
}

// TestNewFixed: sizes and bytes up to their limits; ErrRange goes ahead of ErrLong (P10.1).
func TestNewFixed(t *testing.T) {
	whole := text(api.MaxFile)
	for _, c := range []struct{ size, n int }{{0, 0}, {1, 0}, {1, 1}, {5, 0}, {5, 4}, {5, 5}, {api.MaxFile, 0}, {api.MaxFile - 1, api.MaxFile - 1}, {api.MaxFile, api.MaxFile - 1}, {api.MaxFile, api.MaxFile}} {
		x := fixedOf(t, c.size, whole[:c.n])
		wantBytes(t, x, whole[:c.n])
		wantPlace(t, x, 0)
		wantSeek(t, x, c.size, 0, c.size, api.OK)
		wantSeek(t, x, c.size+1, 0, 0, api.ErrRange)
		wantSeek(t, x, 0, 0, 0, api.OK)
		wantRead(t, x, api.MaxFile, whole[:c.n], api.OK)
	}
	for _, c := range []struct{ size, n int }{{0, 1}, {1, 2}, {5, 6}, {5, 5000}, {api.MaxFile - 1, api.MaxFile}, {api.MaxFile, api.MaxFile + 1}, {0, api.MaxFile + 1}} {
		if x, e := NewFixed(c.size, make([]byte, c.n)); x != nil || e != api.ErrLong {
			t.Errorf("P10.1: NewFixed(%d) of %d bytes: %p, %d, not nil, ErrLong", c.size, c.n, x, e)
		}
	}
	for _, size := range outside {
		for _, n := range []int{0, 1, api.MaxFile, api.MaxFile + 1, api.MaxFile + 2} {
			if x, e := NewFixed(size, make([]byte, n)); x != nil || e != api.ErrRange {
				t.Errorf("P10.1: NewFixed(%d) of %d bytes: %p, %d, not nil, ErrRange", size, n, x, e)
			}
		}
	}
}

// TestNewGrowing: its bytes are at most MaxFile, its room is that (P10.1).
func TestNewGrowing(t *testing.T) {
	whole := text(api.MaxFile)
	for _, n := range []int{0, 1, 2, 255, 65536, api.MaxFile - 1, api.MaxFile} {
		x := growingOf(t, whole[:n])
		wantBytes(t, x, whole[:n])
		wantPlace(t, x, 0)
		wantSeek(t, x, api.MaxFile, 0, api.MaxFile, api.OK)
		wantSeek(t, x, api.MaxFile+1, 0, 0, api.ErrRange)
		wantSeek(t, x, 0, 0, 0, api.OK)
		wantRead(t, x, api.MaxFile, whole[:n], api.OK)
	}
	for _, n := range []int{api.MaxFile + 1, api.MaxFile + 2, 2 * api.MaxFile} {
		if x, e := NewGrowing(make([]byte, n)); x != nil || e != api.ErrLong {
			t.Errorf("P10.1: NewGrowing of %d bytes: %p, %d, not nil, ErrLong", n, x, e)
		}
	}
}

// TestNewReader: its bytes are at most MaxFile, and it has no room behind them (P10.1).
func TestNewReader(t *testing.T) {
	whole := text(api.MaxFile)
	for _, n := range []int{0, 1, 2, 255, 65536, api.MaxFile - 1, api.MaxFile} {
		x := readerOf(t, whole[:n])
		wantPlace(t, x, 0)
		wantSeek(t, x, n, 0, n, api.OK)
		wantSeek(t, x, n+1, 0, 0, api.ErrRange)
		wantSeek(t, x, 0, 0, 0, api.OK)
		wantRead(t, x, api.MaxFile, whole[:n], api.OK)
	}
	for _, n := range []int{api.MaxFile + 1, api.MaxFile + 2, 2 * api.MaxFile} {
		if x, e := NewReader(make([]byte, n)); x != nil || e != api.ErrLong {
			t.Errorf("P10.1: NewReader of %d bytes: %p, %d, not nil, ErrLong", n, x, e)
		}
	}
}

// TestNilAndEmptyAreOne: memories of no byte are made, of a nil list as of an empty one (P1, P10.1).
func TestNilAndEmptyAreOne(t *testing.T) {
	for _, none := range [][]byte{nil, {}, make([]byte, 0, 9)} {
		f, e1 := NewFixed(0, none)
		g, e2 := NewGrowing(none)
		r, e3 := NewReader(none)
		if e1 != api.OK || e2 != api.OK || e3 != api.OK {
			t.Fatalf("P10.1: of no byte: %d, %d, %d", e1, e2, e3)
		}
		for _, x := range []retry.Raw{f, g, r} {
			wantRead(t, x, 0, "", api.OK)
			wantRead(t, x, 1, "", api.OK)
			wantPlace(t, x, 0)
		}
		for _, x := range []written{f, g} {
			if n, e := x.Write(none); n != 0 || e != api.OK {
				t.Errorf("P10.2: %T: Write of none: %d, %d", x, n, e)
			}
			wantBytes(t, x, "")
		}
		wantWrite(t, f, "a", 0, api.ErrFull)
		wantWrite(t, g, "a", 1, api.OK)
		wantWrite(t, r, "a", 0, api.ErrMode)
	}
}

// TestRead: bytes from the place on, none of them twice, and none at the end (P10.2).
func TestRead(t *testing.T) {
	for _, x := range []retry.Raw{fixedOf(t, 5, "hello"), fixedOf(t, 9, "hello"), growingOf(t, "hello"), readerOf(t, "hello")} {
		wantRead(t, x, 0, "", api.OK)
		wantPlace(t, x, 0)
		wantRead(t, x, 1, "h", api.OK)
		wantPlace(t, x, 1)
		wantRead(t, x, 0, "", api.OK)
		wantRead(t, x, 2, "el", api.OK)
		wantPlace(t, x, 3)
		wantRead(t, x, 3, "lo", api.OK)
		wantPlace(t, x, 5)
		for _, n := range []int{0, 1, 5, api.MaxFile} {
			wantRead(t, x, n, "", api.OK)
			wantPlace(t, x, 5)
		}
		wantSeek(t, x, 0, 0, 0, api.OK)
		wantRead(t, x, 5, "hello", api.OK)
		wantSeek(t, x, -2, 2, 3, api.OK)
		wantRead(t, x, api.MaxFile, "lo", api.OK)
		wantPlace(t, x, 5)
	}
}

// TestReadBehindTheEnd: none, and the place stays where it was sought (P10.2).
func TestReadBehindTheEnd(t *testing.T) {
	for _, x := range []written{fixedOf(t, 9, "hello"), fixedOf(t, api.MaxFile, "hello"), growingOf(t, "hello")} {
		for _, place := range []int{6, 8, 9} {
			wantSeek(t, x, place, 0, place, api.OK)
			for _, n := range []int{0, 1, 5, api.MaxFile} {
				wantRead(t, x, n, "", api.OK)
				wantPlace(t, x, place)
			}
		}
		wantBytes(t, x, "hello")
	}
}

// TestReadRange: a number out of range is refused, wherever the place is (P10.2, P10.6).
func TestReadRange(t *testing.T) {
	for _, x := range []retry.Raw{fixedOf(t, 5, "hello"), growingOf(t, "hello"), readerOf(t, "hello")} {
		for _, place := range []int{0, 2, 5} {
			wantSeek(t, x, place, 0, place, api.OK)
			for _, n := range outside {
				wantRead(t, x, n, "", api.ErrRange)
				wantPlace(t, x, place)
			}
		}
		wantSeek(t, x, 1, 0, 1, api.OK)
		wantRead(t, x, 9, "ello", api.OK)
	}
}

// TestWrite: at the place, over what stands there, and behind it (P10.2).
func TestWrite(t *testing.T) {
	for _, x := range append(bothOf(t, "hello"), fixedOf(t, 8, "hello")) {
		wantWrite(t, x, "J", 1, api.OK)
		wantPlace(t, x, 1)
		wantBytes(t, x, "Jello")
		wantRead(t, x, 2, "el", api.OK)
		wantWrite(t, x, "ly", 2, api.OK)
		wantPlace(t, x, 5)
		wantBytes(t, x, "Jelly")
		wantWrite(t, x, "!", 1, api.OK)
		wantPlace(t, x, 6)
		wantBytes(t, x, "Jelly!")
		wantRead(t, x, 9, "", api.OK)
		wantSeek(t, x, 4, 0, 4, api.OK)
		wantWrite(t, x, "ies?", 4, api.OK)
		wantPlace(t, x, 8)
		wantBytes(t, x, "Jellies?")
		wantSeek(t, x, 0, 0, 0, api.OK)
		wantWrite(t, x, "\x00", 1, api.OK)
		wantBytes(t, x, "\x00ellies?")
		wantRead(t, x, 9, "ellies?", api.OK)
	}
}

// TestWriteBehindTheEnd: zeros stand between the end and the place (P10.2).
func TestWriteBehindTheEnd(t *testing.T) {
	for _, x := range append(bothOf(t, "ab"), fixedOf(t, 9, "ab")) {
		wantSeek(t, x, 5, 0, 5, api.OK)
		wantWrite(t, x, "", 0, api.OK)
		wantBytes(t, x, "ab")
		wantWrite(t, x, "cd", 2, api.OK)
		wantPlace(t, x, 7)
		wantBytes(t, x, "ab\x00\x00\x00cd")
		wantSeek(t, x, 1, 1, 8, api.OK)
		wantWrite(t, x, "e", 1, api.OK)
		wantBytes(t, x, "ab\x00\x00\x00cd\x00e")
		wantSeek(t, x, 1, 0, 1, api.OK)
		wantRead(t, x, 5, "b\x00\x00\x00c", api.OK)
	}
	x := fixedOf(t, 6, "ab")
	wantSeek(t, x, 4, 0, 4, api.OK)
	wantWrite(t, x, "cdef", 2, api.OK)
	wantPlace(t, x, 6)
	wantBytes(t, x, "ab\x00\x00cd")
	for _, x := range bothOf(t, "a") {
		wantSeek(t, x, api.MaxFile-1, 0, api.MaxFile-1, api.OK)
		wantWrite(t, x, "zz", 1, api.OK)
		wantPlace(t, x, api.MaxFile)
		wantBytes(t, x, "a"+zeros(api.MaxFile-2)+"z")
	}
}

// TestWriteOverTheRoom: as many as there is room for, and ErrFull at its end (P10.2).
func TestWriteOverTheRoom(t *testing.T) {
	for _, size := range []int{1, 2, 5, 4096, api.MaxFile} {
		whole := text(api.MaxFile)
		for _, n := range []int{1, size - 1, size, size + 1, api.MaxFile} {
			if n < 1 || n > api.MaxFile {
				continue
			}
			x := fixedOf(t, size, "")
			want := min(n, size)
			wantWrite(t, x, whole[:n], want, api.OK)
			wantPlace(t, x, want)
			wantBytes(t, x, whole[:want])
		}
		x := fixedOf(t, size, whole[:size])
		wantSeek(t, x, -1, 2, size-1, api.OK)
		wantWrite(t, x, "#?", 1, api.OK)
		wantBytes(t, x, whole[:size-1]+"#")
		for _, b := range []string{"#", "##", whole} {
			wantWrite(t, x, b, 0, api.ErrFull)
			wantPlace(t, x, size)
		}
		wantWrite(t, x, "", 0, api.OK)
		wantBytes(t, x, whole[:size-1]+"#")
		wantSeek(t, x, 0, 0, 0, api.OK)
		wantWrite(t, x, "#", 1, api.OK)
	}
	x := fixedOf(t, 0, "")
	wantWrite(t, x, "", 0, api.OK)
	wantWrite(t, x, "a", 0, api.ErrFull)
	wantRead(t, x, 1, "", api.OK)
	wantBytes(t, x, "")
}

// TestFullIsOfThePlace: a room's end that was sought is full, though nothing stands ahead of it (P10.2).
func TestFullIsOfThePlace(t *testing.T) {
	for _, c := range []struct {
		x    written
		room int
	}{{fixedOf(t, 7, "ab"), 7}, {fixedOf(t, api.MaxFile, "ab"), api.MaxFile}, {growingOf(t, "ab"), api.MaxFile}} {
		wantSeek(t, c.x, c.room, 0, c.room, api.OK)
		wantWrite(t, c.x, "c", 0, api.ErrFull)
		wantWrite(t, c.x, "", 0, api.OK)
		wantPlace(t, c.x, c.room)
		wantBytes(t, c.x, "ab")
	}
}

// TestWriteLong: MaxFile bytes at most, ahead of ErrFull (P10.2, P10.6).
func TestWriteLong(t *testing.T) {
	whole := text(api.MaxFile)
	for _, x := range bothOf(t, "") {
		wantWrite(t, x, whole, api.MaxFile, api.OK)
		wantBytes(t, x, whole)
	}
	for _, x := range append(bothOf(t, "ab"), fixedOf(t, 3, "ab"), fixedOf(t, 2, "ab")) {
		for _, whence := range []int{0, 2} {
			place, _ := x.Seek(0, whence)
			for _, n := range []int{api.MaxFile + 1, api.MaxFile + 2, 2 * api.MaxFile} {
				wantWrite(t, x, zeros(n), 0, api.ErrLong)
				wantPlace(t, x, place)
				wantBytes(t, x, "ab")
			}
		}
	}
}

// TestReaderIsNotWritten: ErrMode, whatever the bytes and wherever the place is (P10.2, P10.6).
func TestReaderIsNotWritten(t *testing.T) {
	x := readerOf(t, "hello")
	for _, place := range []int{0, 2, 5} {
		wantSeek(t, x, place, 0, place, api.OK)
		for _, b := range []string{"", "a", "hello, you", zeros(api.MaxFile), zeros(api.MaxFile + 1)} {
			wantWrite(t, x, b, 0, api.ErrMode)
			wantPlace(t, x, place)
		}
		if n, e := x.Write(nil); n != 0 || e != api.ErrMode {
			t.Errorf("P10.2: Reader: Write of nil: %d, %d", n, e)
		}
	}
	wantSeek(t, x, 0, 0, 0, api.OK)
	wantRead(t, x, 9, "hello", api.OK)
}

// TestSeek: from the beginning, the place and the end, up to the room, and not over it (P10.2, P10.6).
func TestSeek(t *testing.T) {
	for _, c := range []struct {
		x    retry.Raw
		room int
	}{
		{fixedOf(t, 5, "hello"), 5},
		{fixedOf(t, 8, "hello"), 8},
		{fixedOf(t, api.MaxFile, "hello"), api.MaxFile},
		{growingOf(t, "hello"), api.MaxFile},
		{readerOf(t, "hello"), 5},
	} {
		x, room := c.x, c.room
		for whence, from := range []int{0, 3, 5} {
			for _, place := range []int{0, 1, 4, 5, room - 1, room} {
				wantSeek(t, x, 3, 0, 3, api.OK)
				wantSeek(t, x, place-from, whence, place, api.OK)
				wantPlace(t, x, place)
			}
			wantSeek(t, x, 3, 0, 3, api.OK)
			for _, off := range []int{-1 - from, -2 - from, room + 1 - from, room + 2 - from, -1 << 32, 1 << 32, math.MinInt, math.MinInt + 1, math.MinInt + from, math.MaxInt, math.MaxInt - 1, math.MaxInt - from} {
				wantSeek(t, x, off, whence, 0, api.ErrRange)
				wantPlace(t, x, 3)
			}
			wantRead(t, x, 9, "lo", api.OK)
		}
	}
}

// TestSeekArg: a whence that may not be goes ahead of a place that may not be (P10.2, P10.6).
func TestSeekArg(t *testing.T) {
	for _, x := range []retry.Raw{fixedOf(t, 5, "hello"), growingOf(t, "hello"), readerOf(t, "hello")} {
		wantSeek(t, x, 2, 0, 2, api.OK)
		for _, whence := range noWhences {
			for _, off := range append([]int{0, 1, 5}, outside...) {
				wantSeek(t, x, off, whence, 0, api.ErrArg)
				wantPlace(t, x, 2)
			}
		}
		wantRead(t, x, 9, "llo", api.OK)
	}
}

// TestEndMoves: from the end is from what is there now, not from the room (P10.2).
func TestEndMoves(t *testing.T) {
	for _, x := range append(bothOf(t, ""), fixedOf(t, 9, "")) {
		wantSeek(t, x, 0, 2, 0, api.OK)
		wantSeek(t, x, 4, 2, 4, api.OK)
		wantSeek(t, x, 0, 2, 0, api.OK)
		wantWrite(t, x, "abc", 3, api.OK)
		wantSeek(t, x, 0, 2, 3, api.OK)
		wantSeek(t, x, 2, 2, 5, api.OK)
		wantWrite(t, x, "d", 1, api.OK)
		wantSeek(t, x, -1, 2, 5, api.OK)
		wantRead(t, x, 9, "d", api.OK)
		wantSeek(t, x, 1, 0, 1, api.OK)
		wantWrite(t, x, "B", 1, api.OK)
		wantSeek(t, x, 0, 2, 6, api.OK)
		wantBytes(t, x, "aBc\x00\x00d")
	}
}

// TestNoCallMadeIt: ErrMade goes ahead of all other errors, and what no call made stays so (P10.1, P10.2, P10.3).
func TestNoCallMadeIt(t *testing.T) {
	var f *Fixed
	var g *Growing
	var r *Reader
	var c *Custom
	for _, x := range []retry.Raw{f, g, r, c, &Fixed{}, &Growing{}, &Reader{}, &Custom{}} {
		for range 2 {
			for _, n := range append([]int{0, 1, api.MaxFile}, outside...) {
				wantRead(t, x, n, "", api.ErrMade)
				wantSeek(t, x, n, 0, 0, api.ErrMade)
				wantSeek(t, x, n, 1, 0, api.ErrMade)
				wantSeek(t, x, n, 2, 0, api.ErrMade)
				wantSeek(t, x, 0, n, 0, api.ErrMade)
			}
			for _, n := range []int{0, 1, api.MaxFile, api.MaxFile + 1} {
				wantWrite(t, x, zeros(n), 0, api.ErrMade)
			}
			if n, e := x.Write(nil); n != 0 || e != api.ErrMade {
				t.Errorf("P10.2, P10.3: %T: Write of nil: %d, %d", x, n, e)
			}
		}
	}
	for _, x := range []written{f, g, &Fixed{}, &Growing{}} {
		wantBytes(t, x, "")
	}
	for _, x := range []*Custom{c, {}} {
		wantTaken(t, x, "")
	}
}

// TestOverRetry: raw calls again and again move what there is, and tell what there is no room for (P10.2).
func TestOverRetry(t *testing.T) {
	for _, x := range append(bothOf(t, "hello"), fixedOf(t, 9, "hello")) {
		if b, e := retry.All(x, 9); string(b) != "hello" || e != api.OK {
			t.Errorf("P10.2: %T: All: %q, %d", x, b, e)
		}
		if n, e := retry.Put(x, []byte("you")); n != 3 || e != api.OK {
			t.Errorf("P10.2: %T: Put: %d, %d", x, n, e)
		}
		wantBytes(t, x, "helloyou")
	}
	x := fixedOf(t, 4, "a")
	if n, e := retry.Put(x, []byte("hello")); n != 4 || e != api.ErrFull {
		t.Errorf("P10.2: Put over the room: %d, %d", n, e)
	}
	wantBytes(t, x, "hell")
	r := readerOf(t, "hello")
	if n, e := retry.Put(r, []byte("x")); n != 0 || e != api.ErrMode {
		t.Errorf("P10.2: Put into a Reader: %d, %d", n, e)
	}
	if b, e := retry.Some(r, 3); string(b) != "hel" || e != api.OK {
		t.Errorf("P10.2: Some of a Reader: %q, %d", b, e)
	}
	if b, e := retry.Some((*Reader)(nil), 3); b != nil || e != api.ErrMade {
		t.Errorf("P10.2: Some of a nil Reader: %q, %d", b, e)
	}
}

// TestManySmallWrites: a whole memory, byte by byte, of each kind; slow means the memory is laid anew for each.
func TestManySmallWrites(t *testing.T) {
	whole := text(api.MaxFile)
	for _, x := range bothOf(t, "") {
		for i := range api.MaxFile {
			if n, e := x.Write([]byte{whole[i]}); n != 1 || e != api.OK {
				t.Fatalf("P10.2: %T: Write at %d: %d, %d", x, i, n, e)
			}
		}
		wantWrite(t, x, "x", 0, api.ErrFull)
		wantBytes(t, x, whole)
	}
	r := readerOf(t, whole)
	for i := range api.MaxFile {
		if b, e := r.Read(1); len(b) != 1 || b[0] != whole[i] || e != api.OK {
			t.Fatalf("P10.2: Read at %d: %q, %d", i, b, e)
		}
	}
	wantRead(t, r, 1, "", api.OK)
}
