package bufmode

import (
	"bytes"
	"slices"
	"strings"
	"testing"

	"millrace/api"
	"millrace/stream"
)

func wantWrites(t *testing.T, mode, size int, b string, want ...int) {
	t.Helper()
	l, e := Writes(mode, size, []byte(b))
	if e != api.OK || !slices.Equal(l, want) {
		t.Errorf("P12.2: Writes(%d, %d, %.40q (%d)): %.80v, %d, not %.80v", mode, size, b, len(b), l, e, want)
	}
	wantSums(t, mode, size, len(b), l)
}

// wantSums: what follows of any text's writes (P12.3).
func wantSums(t *testing.T, mode, size, n int, l []int) {
	t.Helper()
	most := size
	if mode == 1 {
		most = 1
	}
	sum := 0
	for _, x := range l {
		sum += x
		if x < 1 || x > most {
			t.Errorf("P12.3: Writes(%d, %d) of %d bytes: one of %d", mode, size, n, x)
		}
	}
	if sum != n {
		t.Errorf("P12.3: Writes(%d, %d) of %d bytes: %d in all", mode, size, n, sum)
	}
	if mode == 3 && len(l) > n/size+1 {
		t.Errorf("P12.3: Writes(%d, %d) of %d bytes: %d writes", mode, size, n, len(l))
	}
}

// times is a list of n times x.
func times(n, x int) []int {
	return slices.Repeat([]int{x}, n)
}

// TestWrites: the chapter's examples; none, a part, the whole and some more of a buffer (P12.2).
func TestWrites(t *testing.T) {
	wantWrites(t, 3, 4, strings.Repeat("x", 10), 4, 4, 2)
	wantWrites(t, 2, 4, "ab\ncdefgh", 3, 4, 2)
	for mode := 1; mode <= 3; mode++ {
		for _, size := range sizes {
			wantWrites(t, mode, size, "")
			wantWrites(t, mode, size, "a", 1)
			wantWrites(t, mode, size, "\n", 1)
		}
	}
	for _, size := range []int{1, 2, 4, 7, api.MaxBuf - 1, api.MaxBuf} {
		for _, mode := range []int{2, 3} {
			wantWrites(t, mode, size, strings.Repeat("x", size), size)
			wantWrites(t, mode, size, strings.Repeat("x", size+1), size, 1)
			wantWrites(t, mode, size, strings.Repeat("x", 3*size), size, size, size)
			wantWrites(t, mode, size, strings.Repeat("x", 3*size+1), size, size, size, 1)
			if size > 1 {
				wantWrites(t, mode, size, strings.Repeat("x", size-1), size-1)
				wantWrites(t, mode, size, strings.Repeat("x", 3*size-1), size, size, size-1)
			}
		}
		wantWrites(t, 1, size, strings.Repeat("x", 9), times(9, 1)...)
	}
}

// TestWritesLines: a newline first, last, alone, at the buffer's end, one behind the other, in each mode (P12.2).
func TestWritesLines(t *testing.T) {
	for _, c := range []struct {
		text        string
		lines, full []int
	}{
		{"\nab", []int{1, 2}, []int{3}},
		{"ab\n", []int{3}, []int{3}},
		{"\n", []int{1}, []int{1}},
		{"abc\n", []int{4}, []int{4}},
		{"abcd\n", []int{4, 1}, []int{4, 1}},
		{"abc\nd", []int{4, 1}, []int{4, 1}},
		{"ab\ncd", []int{3, 2}, []int{4, 1}},
		{"\n\n", []int{1, 1}, []int{2}},
		{"ab\n\n\ncd", []int{3, 1, 1, 2}, []int{4, 3}},
		{"abc\n\n", []int{4, 1}, []int{4, 1}},
		{"abcdefgh\n", []int{4, 4, 1}, []int{4, 4, 1}},
		{"abcdefg\n", []int{4, 4}, []int{4, 4}},
		{"a\nbcdefghi\nj", []int{2, 4, 4, 1, 1}, []int{4, 4, 4}},
		{"\n\n\n\n\n", []int{1, 1, 1, 1, 1}, []int{4, 1}},
		{"a\rb\x00c\x8a", []int{4, 2}, []int{4, 2}},
	} {
		wantWrites(t, 1, 4, c.text, times(len(c.text), 1)...)
		wantWrites(t, 2, 4, c.text, c.lines...)
		wantWrites(t, 3, 4, c.text, c.full...)
		wantWrites(t, 2, 1, c.text, times(len(c.text), 1)...)
		wantWrites(t, 3, 1, c.text, times(len(c.text), 1)...)
		wantWrites(t, 3, api.MaxBuf, c.text, len(c.text))
	}
	wantWrites(t, 2, api.MaxBuf, "ab\ncdefgh", 3, 6)
}

// TestWritesGreatest: MaxFile bytes, and one more (P12.2).
func TestWritesGreatest(t *testing.T) {
	const most = api.MaxFile
	plain, newlines := strings.Repeat("x", most), strings.Repeat("\n", most)
	for _, size := range []int{1, 16, api.MaxBuf} {
		wantWrites(t, 1, size, plain, times(most, 1)...)
		wantWrites(t, 2, size, plain, times(most/size, size)...)
		wantWrites(t, 2, size, newlines, times(most, 1)...)
		wantWrites(t, 3, size, plain, times(most/size, size)...)
		wantWrites(t, 3, size, newlines, times(most/size, size)...)
	}
	wantWrites(t, 3, api.MaxBuf-1, plain, append(times(16, api.MaxBuf-1), 16)...)
	wantWrites(t, 3, api.MaxBuf, plain[1:], append(times(15, api.MaxBuf), api.MaxBuf-1)...)
	for mode := 1; mode <= 3; mode++ {
		for _, n := range []int{most + 1, most + 2, 2 * most, 3*most + 1} {
			wantNoWrites(t, mode, 1, n, api.ErrLong)
			wantNoWrites(t, mode, api.MaxBuf, n, api.ErrLong)
		}
	}
}

func wantNoWrites(t *testing.T, mode, size, n int, want api.Errno) {
	t.Helper()
	if l, e := Writes(mode, size, make([]byte, n)); e != want || len(l) > 0 {
		t.Errorf("P12.2: Writes(%d, %d) of %d bytes: %d writes, %d, not %d", mode, size, n, len(l), e, want)
	}
}

// TestWritesRefusals: each error, and which goes ahead (P12.2).
func TestWritesRefusals(t *testing.T) {
	for _, n := range []int{0, 1, 10, api.MaxFile + 1} {
		for _, mode := range wrongModes {
			for _, size := range []int{1, 4, api.MaxBuf, 0, -1, api.MaxBuf + 1} {
				wantNoWrites(t, mode, size, n, api.ErrArg)
			}
		}
		for mode := 1; mode <= 3; mode++ {
			for _, size := range wrongSizes {
				wantNoWrites(t, mode, size, n, api.ErrRange)
			}
		}
	}
}

// writesMade puts a text on a new stream and closes it: the writes that this makes.
func writesMade(t *testing.T, mode, size int, b string) []int {
	t.Helper()
	r := &counting{}
	s, e := stream.New(api.Mode{Writes: true, Create: true, Truncate: true}, mode, size)
	if e != api.OK {
		t.Fatalf("there is no stream of mode %d, size %d: %d", mode, size, e)
	}
	closed(t, put(t, s, r, b), r)
	if string(r.taken) != b {
		t.Errorf("P12.4: mode %d, size %d: %.40q was taken of %.40q", mode, size, r.taken, b)
	}
	return r.writes
}

// TestWritesAreMade: each short text of newlines and others, by each mode and small sizes, as a stream makes its writes (P12.2, P12.3).
func TestWritesAreMade(t *testing.T) {
	for n := range 10 {
		for bits := range 1 << n {
			b := bytes.Repeat([]byte("x"), n)
			for i := range b {
				if bits>>i&1 == 1 {
					b[i] = '\n'
				}
			}
			for mode := 1; mode <= 3; mode++ {
				for _, size := range []int{1, 2, 3, 4, 9, api.MaxBuf} {
					wantWrites(t, mode, size, string(b), writesMade(t, mode, size, string(b))...)
				}
			}
		}
	}
}

// TestLongWritesAreMade: likewise of long texts (P12.2, P12.3).
func TestLongWritesAreMade(t *testing.T) {
	for seed := range 60 {
		roll := dice(uint64(seed))
		b := make([]byte, roll(3000))
		rare := 1 + roll(60)
		for i := range b {
			b[i] = byte(roll(256))
			if roll(rare) == 0 {
				b[i] = '\n'
			}
		}
		for mode := 1; mode <= 3; mode++ {
			for _, size := range []int{1, 2, 1 + roll(50), 1 + roll(1000), len(b) + 1, max(len(b), 1)} {
				wantWrites(t, mode, size, string(b), writesMade(t, mode, size, string(b))...)
			}
		}
	}
	wantWrites(t, 1, 7, text(api.MaxFile), writesMade(t, 1, 7, text(api.MaxFile))...)
	wantWrites(t, 2, 50, text(api.MaxFile), writesMade(t, 2, 50, text(api.MaxFile))...)
	wantWrites(t, 3, 33, text(api.MaxFile), writesMade(t, 3, 33, text(api.MaxFile))...)
}

// TestWritesNilText: no list is a text of no bytes (P1).
func TestWritesNilText(t *testing.T) {
	for mode := 1; mode <= 3; mode++ {
		if l, e := Writes(mode, 1, nil); len(l) > 0 || e != api.OK {
			t.Errorf("P1: Writes(%d, 1, nil): %v, %d", mode, l, e)
		}
	}
}

// TestLengthsStop: who ranges over a text's writes may leave off.
func TestLengthsStop(t *testing.T) {
	var l []int
	for n := range lengths(byLines, 4, []byte("ab\ncdefgh")) {
		l = append(l, n)
		if len(l) == 2 {
			break
		}
	}
	if !slices.Equal(l, []int{3, 4}) {
		t.Errorf("the first writes: %v", l)
	}
}

func wantReads(t *testing.T, mode, size, n, have, want int) {
	t.Helper()
	if x, e := Reads(mode, size, n, have); x != want || e != api.OK {
		t.Errorf("P12.2: Reads(%d, %d, %d, %d): %d, %d, not %d", mode, size, n, have, x, e, want)
	}
}

// TestReads: the chapter's example; n below, at and above have, at a multiple of size and off it (P12.2).
func TestReads(t *testing.T) {
	wantReads(t, 3, 4, 10, 6, 3)
	for _, mode := range []int{2, 3} {
		for _, c := range []struct{ n, have, want int }{
			{0, 0, 0}, {0, 9, 0}, {1, 0, 1}, {9, 0, 1}, {1, 1, 1}, {2, 1, 2}, {1, 2, 1},
			{3, 8, 1}, {4, 8, 1}, {5, 8, 2}, {7, 8, 2}, {8, 8, 2}, {9, 8, 3}, {99, 8, 3},
			{4, 4, 1}, {5, 4, 2}, {3, 4, 1}, {4, 3, 2}, {4, 5, 1}, {5, 5, 2}, {6, 5, 3},
			{12, 12, 3}, {13, 12, 4}, {11, 12, 3}, {12, 11, 4}, {12, 13, 3}, {13, 13, 4}, {14, 13, 5},
		} {
			wantReads(t, mode, 4, c.n, c.have, c.want)
		}
	}
	for _, size := range []int{1, 4, api.MaxBuf} {
		for _, c := range []struct{ n, have, want int }{{0, 0, 0}, {0, 5, 0}, {1, 0, 1}, {7, 0, 1}, {4, 5, 4}, {5, 5, 5}, {6, 5, 6}, {50, 5, 6}} {
			wantReads(t, 1, size, c.n, c.have, c.want)
		}
	}
}

// TestReadsGreatest: n and have of MaxFile, and next to it (P12.2).
func TestReadsGreatest(t *testing.T) {
	const most = api.MaxFile
	for mode := 1; mode <= 3; mode++ {
		wantReads(t, mode, 1, most, most, most)
		wantReads(t, mode, 1, most, most-1, most)
		wantReads(t, mode, 1, most-1, most, most-1)
		wantReads(t, mode, 1, most, 0, 1)
		wantReads(t, mode, 1, 0, most, 0)
		wantReads(t, mode, api.MaxBuf, most, 0, 1)
		wantReads(t, mode, api.MaxBuf, 0, most, 0)
	}
	wantReads(t, 1, api.MaxBuf, most, most, most)
	for _, mode := range []int{2, 3} {
		wantReads(t, mode, api.MaxBuf, most, most, 16)
		wantReads(t, mode, api.MaxBuf, most-1, most, 16)
		wantReads(t, mode, api.MaxBuf, most, most-1, 17)
		wantReads(t, mode, api.MaxBuf-1, most, most, 17)
		wantReads(t, mode, api.MaxBuf, api.MaxBuf, most, 1)
		wantReads(t, mode, api.MaxBuf, api.MaxBuf+1, most, 2)
		wantReads(t, mode, api.MaxBuf, api.MaxBuf+1, api.MaxBuf, 2)
	}
}

// TestReadsRefusals: each error, and which goes ahead (P12.2).
func TestReadsRefusals(t *testing.T) {
	refused := func(mode, size, n, have int, want api.Errno) {
		t.Helper()
		if x, e := Reads(mode, size, n, have); x != 0 || e != want {
			t.Errorf("P12.2: Reads(%d, %d, %d, %d): %d, %d, not %d", mode, size, n, have, x, e, want)
		}
	}
	for _, mode := range wrongModes {
		for _, other := range append([]int{0, 1, api.MaxFile}, outside...) {
			refused(mode, other, 3, 3, api.ErrArg)
			refused(mode, 1, other, 3, api.ErrArg)
			refused(mode, 1, 3, other, api.ErrArg)
		}
	}
	for mode := 1; mode <= 3; mode++ {
		for _, size := range wrongSizes {
			refused(mode, size, 3, 3, api.ErrRange)
			refused(mode, size, 0, 0, api.ErrRange)
			refused(mode, size, -1, api.MaxFile+1, api.ErrRange)
		}
		for _, x := range outside {
			for _, size := range []int{1, 4, api.MaxBuf} {
				refused(mode, size, x, 3, api.ErrRange)
				refused(mode, size, 3, x, api.ErrRange)
				refused(mode, size, 0, x, api.ErrRange)
				refused(mode, size, x, 0, api.ErrRange)
				refused(mode, size, x, x, api.ErrRange)
			}
		}
	}
}

// readsMade gets n times of a new stream: the reads that this makes.
func readsMade(t *testing.T, mode, size, n, have int) int {
	t.Helper()
	r := &counting{have: have}
	s, e := stream.New(api.Mode{Reads: true}, mode, size)
	if e != api.OK {
		t.Fatalf("there is no stream of mode %d, size %d: %d", mode, size, e)
	}
	for i := range n {
		want := api.OK
		if i >= have {
			want = api.ErrEnd
		}
		if s, _, e = stream.Get(s, r); e != want {
			t.Errorf("Get %d of %d, mode %d, size %d: %d, not %d", i, have, mode, size, e, want)
		}
	}
	return r.reads
}

// TestReadsAreMade: as a stream makes its reads (P12.2).
func TestReadsAreMade(t *testing.T) {
	for mode := 1; mode <= 3; mode++ {
		for _, size := range []int{1, 2, 3, 4, 5, 7, 16, api.MaxBuf} {
			for n := range 20 {
				for have := range 20 {
					wantReads(t, mode, size, n, have, readsMade(t, mode, size, n, have))
				}
			}
		}
		for _, have := range []int{api.MaxFile, api.MaxFile - 1, 99} {
			wantReads(t, mode, 50, api.MaxFile, have, readsMade(t, mode, 50, api.MaxFile, have))
		}
	}
}
