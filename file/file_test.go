package file

import (
	"bytes"
	"math"
	"testing"

	"millrace/api"
)

// outside are numbers that are neither places nor counts of a file's bytes.
var outside = []int{-1, -2, -api.MaxFile, math.MinInt, math.MinInt + 1, api.MaxFile + 1, api.MaxFile + 2, 1 << 32, 1<<32 + 1, math.MaxInt32, math.MaxInt - 1, math.MaxInt}

// pattern is n bytes, none of them a zero.
func pattern(n int) []byte {
	b := make([]byte, n)
	for i := range b {
		b[i] = byte(1 + i%251)
	}
	return b
}

func fileOf(t *testing.T, b ...byte) *File {
	t.Helper()
	f, e := New(b)
	if e != api.OK || f == nil {
		t.Fatalf("P3.1: New of %d bytes: %v, %d", len(b), f, e)
	}
	return f
}

func brief(b []byte) []byte {
	return b[:min(len(b), 20)]
}

// wantBytes holds all three ways to look at a file against b.
func wantBytes(t *testing.T, f *File, b ...byte) {
	t.Helper()
	if n := f.Size(); n != len(b) {
		t.Errorf("P3.2: Size: %d; want %d", n, len(b))
	}
	if got := f.Bytes(); !bytes.Equal(got, b) {
		t.Errorf("P3.2: Bytes: %d, %v; want %d, %v", len(got), brief(got), len(b), brief(b))
	}
	wantRead(t, f, 0, api.MaxFile, api.OK, b...)
}

func wantRead(t *testing.T, f *File, off, n int, e api.Errno, b ...byte) {
	t.Helper()
	got, gotE := f.ReadAt(off, n)
	if gotE != e || !bytes.Equal(got, b) {
		t.Errorf("P3.1: ReadAt(%d, %d): %d bytes, %v, %d; want %d, %v, %d", off, n, len(got), brief(got), gotE, len(b), brief(b), e)
	}
}

func wantWrite(t *testing.T, f *File, off int, b []byte, e api.Errno) {
	t.Helper()
	if got := f.WriteAt(off, b); got != e {
		t.Errorf("P3.1: WriteAt(%d) of %d bytes: %d; want %d", off, len(b), got, e)
	}
}

func wantTruncate(t *testing.T, f *File, n int, e api.Errno) {
	t.Helper()
	if got := f.Truncate(n); got != e {
		t.Errorf("P3.1: Truncate(%d): %d; want %d", n, got, e)
	}
}

// TestExample: example 1 of the chapter.
func TestExample(t *testing.T) {
	f := fileOf(t, 1, 2, 3)
	wantWrite(t, f, 5, []byte{9}, api.OK)
	wantBytes(t, f, 1, 2, 3, 0, 0, 9)
	wantRead(t, f, 2, 10, api.OK, 3, 0, 0, 9)
	wantRead(t, f, 7, 1, api.OK)
	wantTruncate(t, f, 1, api.OK)
	wantBytes(t, f, 1)
}

func TestNewHowMany(t *testing.T) {
	for _, n := range []int{0, 1, 2, 255, 256, 65536, api.MaxFile - 1, api.MaxFile} {
		b := pattern(n)
		wantBytes(t, fileOf(t, b...), b...)
	}
	for _, n := range []int{api.MaxFile + 1, api.MaxFile + 2, 2 * api.MaxFile} {
		if f, e := New(pattern(n)); f != nil || e != api.ErrLong {
			t.Errorf("P3.1: New of %d bytes: %v, %d; want nil, ErrLong", n, f, e)
		}
	}
}

// TestNoBytesAreMade: a file of no byte is one that New made, of a nil list as of an empty one.
func TestNoBytesAreMade(t *testing.T) {
	for _, b := range [][]byte{nil, {}} {
		f, e := New(b)
		if f == nil || e != api.OK {
			t.Fatalf("P3.1: New of no byte: %v, %d", f, e)
		}
		wantBytes(t, f)
		wantRead(t, f, 0, 1, api.OK)
		wantTruncate(t, f, 0, api.OK)
		wantWrite(t, f, 0, nil, api.OK)
		wantBytes(t, f)
		c := f.Copy()
		if c == nil {
			t.Fatal("P3.2: Copy of a file of no byte: nil")
		}
		wantBytes(t, c)
		wantWrite(t, f, 1, []byte{7}, api.OK)
		wantBytes(t, f, 0, 7)
		wantBytes(t, c)
	}
}

func TestReadAt(t *testing.T) {
	f := fileOf(t, 10, 11, 12, 13, 14)
	wantRead(t, f, 0, 0, api.OK)
	wantRead(t, f, 0, 1, api.OK, 10)
	wantRead(t, f, 0, 5, api.OK, 10, 11, 12, 13, 14)
	wantRead(t, f, 0, 6, api.OK, 10, 11, 12, 13, 14)
	wantRead(t, f, 1, 3, api.OK, 11, 12, 13)
	wantRead(t, f, 3, 2, api.OK, 13, 14)
	wantRead(t, f, 3, 3, api.OK, 13, 14)
	wantRead(t, f, 4, 0, api.OK)
	wantRead(t, f, 4, 1, api.OK, 14)
	wantRead(t, f, 4, api.MaxFile, api.OK, 14)
	wantRead(t, f, 5, 0, api.OK)
	wantRead(t, f, 5, 1, api.OK)
	wantRead(t, f, 6, 1, api.OK)
	wantRead(t, f, api.MaxFile-1, 1, api.OK)
	wantRead(t, f, api.MaxFile, 0, api.OK)
	wantRead(t, f, api.MaxFile, api.MaxFile, api.OK)
	wantBytes(t, f, 10, 11, 12, 13, 14)
}

func TestReadAtOfAFullFile(t *testing.T) {
	b := pattern(api.MaxFile)
	f := fileOf(t, b...)
	wantRead(t, f, 0, api.MaxFile, api.OK, b...)
	wantRead(t, f, 1, api.MaxFile, api.OK, b[1:]...)
	wantRead(t, f, api.MaxFile-1, 1, api.OK, b[api.MaxFile-1])
	wantRead(t, f, api.MaxFile-1, api.MaxFile, api.OK, b[api.MaxFile-1])
	wantRead(t, f, api.MaxFile, 1, api.OK)
}

func TestReadAtRange(t *testing.T) {
	f := fileOf(t, 1, 2, 3)
	for _, n := range outside {
		wantRead(t, f, n, 0, api.ErrRange)
		wantRead(t, f, n, 1, api.ErrRange)
		wantRead(t, f, 0, n, api.ErrRange)
		wantRead(t, f, 1, n, api.ErrRange)
		wantRead(t, f, api.MaxFile, n, api.ErrRange)
		wantRead(t, f, n, api.MaxFile, api.ErrRange)
		wantRead(t, f, n, n, api.ErrRange)
		if b, _ := f.ReadAt(n, 1); len(b) != 0 {
			t.Errorf("P4: ReadAt(%d, 1): %v beside an error", n, b)
		}
	}
	wantBytes(t, f, 1, 2, 3)
}

func TestWriteAt(t *testing.T) {
	f := fileOf(t, 1, 2, 3, 4)
	wantWrite(t, f, 0, []byte{11}, api.OK)
	wantBytes(t, f, 11, 2, 3, 4)
	wantWrite(t, f, 1, []byte{12, 13}, api.OK)
	wantBytes(t, f, 11, 12, 13, 4)
	wantWrite(t, f, 3, []byte{14}, api.OK)
	wantBytes(t, f, 11, 12, 13, 14)
	wantWrite(t, f, 3, []byte{24, 25}, api.OK)
	wantBytes(t, f, 11, 12, 13, 24, 25)
	wantWrite(t, f, 5, []byte{26}, api.OK)
	wantBytes(t, f, 11, 12, 13, 24, 25, 26)
	wantWrite(t, f, 7, []byte{28, 29}, api.OK)
	wantBytes(t, f, 11, 12, 13, 24, 25, 26, 0, 28, 29)
	wantWrite(t, f, 6, []byte{0}, api.OK)
	wantWrite(t, f, 0, []byte{0, 0}, api.OK)
	wantBytes(t, f, 0, 0, 13, 24, 25, 26, 0, 28, 29)
}

// TestWriteAtNoBytes: nothing, wherever: the file does not grow up to the place.
func TestWriteAtNoBytes(t *testing.T) {
	f := fileOf(t, 1, 2, 3)
	for _, off := range []int{0, 1, 3, 4, 100, api.MaxFile - 1, api.MaxFile} {
		wantWrite(t, f, off, nil, api.OK)
		wantWrite(t, f, off, []byte{}, api.OK)
		wantBytes(t, f, 1, 2, 3)
	}
	for _, off := range outside {
		wantWrite(t, f, off, nil, api.ErrRange)
		wantWrite(t, f, off, []byte{}, api.ErrRange)
	}
	wantBytes(t, f, 1, 2, 3)
}

func TestWriteAtFull(t *testing.T) {
	full := pattern(api.MaxFile)
	cases := []struct {
		off, n int
		e      api.Errno
	}{
		{api.MaxFile - 1, 1, api.OK},
		{api.MaxFile - 2, 2, api.OK},
		{1, api.MaxFile - 1, api.OK},
		{0, api.MaxFile, api.OK},
		{api.MaxFile, 1, api.ErrFull},
		{api.MaxFile - 1, 2, api.ErrFull},
		{api.MaxFile - 2, 3, api.ErrFull},
		{1, api.MaxFile, api.ErrFull},
		{0, api.MaxFile + 1, api.ErrFull},
		{api.MaxFile, api.MaxFile + 1, api.ErrFull},
		{0, 2 * api.MaxFile, api.ErrFull},
	}
	for _, c := range cases {
		f := fileOf(t, 1, 2, 3)
		b := pattern(c.n)
		wantWrite(t, f, c.off, b, c.e)
		if c.e != api.OK {
			wantBytes(t, f, 1, 2, 3)
			continue
		}
		want := append([]byte{1, 2, 3}, make([]byte, api.MaxFile-3)...)
		copy(want[c.off:], b)
		wantBytes(t, f, want...)

		f = fileOf(t, full...)
		wantWrite(t, f, c.off, b, c.e)
		wantRead(t, f, c.off, c.n, api.OK, b...)
	}
	f := fileOf(t, full...)
	wantWrite(t, f, api.MaxFile, []byte{1}, api.ErrFull)
	wantWrite(t, f, api.MaxFile-1, []byte{1, 1}, api.ErrFull)
	wantBytes(t, f, full...)
}

// TestWriteAtRangeFirst: a place out of range goes ahead of too many bytes.
func TestWriteAtRangeFirst(t *testing.T) {
	f := fileOf(t, 1, 2, 3)
	for _, off := range outside {
		wantWrite(t, f, off, []byte{9}, api.ErrRange)
		wantWrite(t, f, off, make([]byte, api.MaxFile+1), api.ErrRange)
	}
	wantBytes(t, f, 1, 2, 3)
}

func TestTruncate(t *testing.T) {
	f := fileOf(t, 1, 2, 3, 4)
	wantTruncate(t, f, 4, api.OK)
	wantBytes(t, f, 1, 2, 3, 4)
	wantTruncate(t, f, 3, api.OK)
	wantBytes(t, f, 1, 2, 3)
	wantTruncate(t, f, 5, api.OK)
	wantBytes(t, f, 1, 2, 3, 0, 0)
	wantTruncate(t, f, 6, api.OK)
	wantBytes(t, f, 1, 2, 3, 0, 0, 0)
	wantTruncate(t, f, 0, api.OK)
	wantBytes(t, f)
	wantTruncate(t, f, 2, api.OK)
	wantBytes(t, f, 0, 0)
	wantTruncate(t, f, api.MaxFile-1, api.OK)
	wantBytes(t, f, make([]byte, api.MaxFile-1)...)
	wantTruncate(t, f, api.MaxFile, api.OK)
	wantBytes(t, f, make([]byte, api.MaxFile)...)
	for _, n := range outside {
		wantTruncate(t, f, n, api.ErrRange)
	}
	wantBytes(t, f, make([]byte, api.MaxFile)...)
	wantTruncate(t, f, 1, api.OK)
	for _, n := range outside {
		wantTruncate(t, f, n, api.ErrRange)
	}
	wantBytes(t, f, 0)
}

// TestCutBytesAreGone: what was cut off is not seen again, however the file grows back over it (P3.3).
func TestCutBytesAreGone(t *testing.T) {
	for _, size := range []int{5, 100, 4096, api.MaxFile} {
		for _, cut := range []int{0, 1, size / 2, size - 1} {
			b := pattern(size)
			want := append(pattern(size)[:cut:cut], make([]byte, size-cut)...)

			f := fileOf(t, b...)
			wantTruncate(t, f, cut, api.OK)
			wantTruncate(t, f, size, api.OK)
			wantBytes(t, f, want...)

			f = fileOf(t, b...)
			wantTruncate(t, f, cut, api.OK)
			wantWrite(t, f, size-1, []byte{99}, api.OK)
			want[size-1] = 99
			wantBytes(t, f, want...)

			// A file that grew by writes has room to spare behind its end.
			f = fileOf(t)
			for i := range b[:min(size, 4096)] {
				wantWrite(t, f, i, b[i:i+1], api.OK)
			}
			wantWrite(t, f, 0, b, api.OK)
			wantTruncate(t, f, cut, api.OK)
			wantRead(t, f, cut, size, api.OK)
			wantWrite(t, f, size-1, []byte{99}, api.OK)
			wantBytes(t, f, want...)
		}
	}
}

func TestCopy(t *testing.T) {
	f := fileOf(t, 1, 2, 3)
	wantWrite(t, f, 4, []byte{5}, api.OK)
	c := f.Copy()
	if c == nil || c == f {
		t.Fatalf("P3.2: Copy: %p of %p", c, f)
	}
	wantBytes(t, c, 1, 2, 3, 0, 5)
	wantWrite(t, c, 0, []byte{77}, api.OK)
	wantTruncate(t, c, 2, api.OK)
	wantBytes(t, c, 77, 2)
	wantBytes(t, f, 1, 2, 3, 0, 5)
	wantWrite(t, f, 1, []byte{88, 89, 90, 91, 92, 93}, api.OK)
	wantBytes(t, c, 77, 2)
	wantWrite(t, c, 2, []byte{1}, api.OK)
	wantBytes(t, c, 77, 2, 1)
	wantBytes(t, f, 1, 88, 89, 90, 91, 92, 93)
	d := c.Copy()
	wantTruncate(t, c, 0, api.OK)
	wantBytes(t, d, 77, 2, 1)
}

// TestCopyGrowsAlone: a file and its copy grow at the same place, with room to spare and without.
func TestCopyGrowsAlone(t *testing.T) {
	f := fileOf(t)
	for i := range 1000 {
		wantWrite(t, f, i, []byte{1}, api.OK)
		c := f.Copy()
		wantWrite(t, f, i+1, []byte{2}, api.OK)
		wantWrite(t, c, i+1, []byte{3}, api.OK)
		wantRead(t, f, i+1, 2, api.OK, 2)
		wantRead(t, c, i+1, 2, api.OK, 3)
	}
}

// TestNoNewMadeIt: ErrMade goes ahead of every other error, and the file stays one that no New made.
func TestNoNewMadeIt(t *testing.T) {
	var zero File
	for _, f := range []*File{nil, {}, new(File), &zero} {
		for _, n := range append([]int{0, 1, api.MaxFile}, outside...) {
			wantRead(t, f, n, 1, api.ErrMade)
			wantRead(t, f, 0, n, api.ErrMade)
			wantWrite(t, f, n, []byte{1}, api.ErrMade)
			wantWrite(t, f, n, nil, api.ErrMade)
			wantWrite(t, f, n, make([]byte, api.MaxFile+1), api.ErrMade)
			wantTruncate(t, f, n, api.ErrMade)
		}
		if n := f.Size(); n != 0 {
			t.Errorf("P3.2: Size of one that no New made: %d", n)
		}
		if b := f.Bytes(); len(b) != 0 {
			t.Errorf("P3.2: Bytes of one that no New made: %v", b)
		}
		if c := f.Copy(); c != nil {
			t.Errorf("P3.2: Copy of one that no New made: %v", c)
		}
	}
}

// TestArgumentsAreNotKept: what was handed in is neither kept nor changed (P3.5).
func TestArgumentsAreNotKept(t *testing.T) {
	room := []byte{1, 2, 3, 50, 51, 52}
	f := fileOf(t, room[:3]...)
	wantWrite(t, f, 3, []byte{4, 5, 6}, api.OK)
	wantTruncate(t, f, 4, api.OK)
	wantTruncate(t, f, 6, api.OK)
	if !bytes.Equal(room, []byte{1, 2, 3, 50, 51, 52}) {
		t.Error("P3.5: what was handed in to New was changed:", room)
	}
	room[0], room[2] = 91, 92
	wantBytes(t, f, 1, 2, 3, 4, 0, 0)

	written := []byte{60, 61, 62, 63}
	wantWrite(t, f, 2, written[:2], api.OK)
	wantWrite(t, f, 6, written[:2], api.OK)
	wantWrite(t, f, 7, []byte{8, 8}, api.OK)
	if !bytes.Equal(written, []byte{60, 61, 62, 63}) {
		t.Error("P3.5: what was handed in to WriteAt was changed:", written)
	}
	written[0], written[1] = 93, 94
	wantBytes(t, f, 1, 2, 60, 61, 0, 0, 60, 8, 8)

	g := fileOf(t)
	wantWrite(t, g, 0, written, api.OK)
	written[3] = 95
	wantBytes(t, g, 93, 94, 62, 63)
}

// TestAnswersAreNewMemory: neither the bytes of an answer nor the room behind them are the file's or another answer's (P3.5).
func TestAnswersAreNewMemory(t *testing.T) {
	f := fileOf(t, 1, 2, 3, 4)
	all, again := f.Bytes(), f.Bytes()
	part, _ := f.ReadAt(1, 2)
	same, _ := f.ReadAt(1, 2)
	for _, b := range [][]byte{all, part} {
		for i := range b {
			b[i] = 70
		}
		_ = append(b, 71, 72, 73)
	}
	wantBytes(t, f, 1, 2, 3, 4)
	if !bytes.Equal(again, []byte{1, 2, 3, 4}) || !bytes.Equal(same, []byte{2, 3}) {
		t.Error("P3.5: two answers share memory:", again, same)
	}
	wantWrite(t, f, 0, []byte{80, 81, 82, 83}, api.OK)
	if !bytes.Equal(again, []byte{1, 2, 3, 4}) || !bytes.Equal(same, []byte{2, 3}) {
		t.Error("P3.5: an answer was changed by a write:", again, same)
	}
	none, _ := f.ReadAt(4, 1)
	_ = append(none, 99)
	wantWrite(t, f, 4, []byte{84}, api.OK)
	wantBytes(t, f, 80, 81, 82, 83, 84)
}

// model is a file told in the plainest way: what was written last at each place.
type model struct {
	size int
	at   map[int]byte
}

func (m *model) write(off int, b []byte) {
	for i, c := range b {
		m.at[off+i] = c
		m.size = max(m.size, off+len(b))
	}
}

func (m *model) truncate(n int) {
	for place := range m.at {
		if place >= n {
			delete(m.at, place)
		}
	}
	m.size = n
}

func (m *model) bytes() []byte {
	b := make([]byte, m.size)
	for place, c := range m.at {
		b[place] = c
	}
	return b
}

// TestAgainstModel: long runs of calls, some of them refused; a byte is what was written there last, or a zero (P3.3), and a refused call changes nothing (P3.4).
func TestAgainstModel(t *testing.T) {
	state := uint32(7)
	next := func(n int) int {
		state = state*1664525 + 1013904223
		return int(state>>8) % n
	}
	for range 30 {
		f, m := fileOf(t), model{at: map[int]byte{}}
		for range 200 {
			off, b := next(40), pattern(next(12))
			switch next(6) {
			case 0:
				wantTruncate(t, f, off, api.OK)
				m.truncate(off)
			case 1:
				wantTruncate(t, f, outside[next(len(outside))], api.ErrRange)
			case 2:
				wantWrite(t, f, outside[next(len(outside))], b, api.ErrRange)
			case 3:
				wantWrite(t, f, api.MaxFile-len(b), append(b, 1), api.ErrFull)
			default:
				wantWrite(t, f, off, b, api.OK)
				m.write(off, b)
			}
			want := m.bytes()
			wantBytes(t, f, want...)
			from := min(off, len(want))
			wantRead(t, f, off, len(b), api.OK, want[from:min(off+len(b), len(want))]...)
		}
		if t.Failed() {
			return
		}
	}
}

// TestManySmallWrites: a whole file, byte by byte, and a growth by each of them; slow means the file is laid anew for each.
func TestManySmallWrites(t *testing.T) {
	f, g := fileOf(t), fileOf(t)
	for i := range api.MaxFile {
		if e := f.WriteAt(i, []byte{byte(1 + i%251)}); e != api.OK {
			t.Fatalf("P3.1: WriteAt(%d): %d", i, e)
		}
		if e := g.Truncate(i + 1); e != api.OK {
			t.Fatalf("P3.1: Truncate(%d): %d", i+1, e)
		}
	}
	wantBytes(t, f, pattern(api.MaxFile)...)
	wantBytes(t, g, make([]byte, api.MaxFile)...)
}
