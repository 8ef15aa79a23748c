package blocks

import (
	"fmt"
	"slices"
	"testing"

	"millrace/api"
	"millrace/lines"
	"millrace/memory"
	"millrace/retry"
	"millrace/stream"
)

// TestWriteAtOnce: without a buffer all elements are one raw write; behind it Dir is 2, and all else stays (P16.1).
func TestWriteAtOnce(t *testing.T) {
	for _, bufSize := range []int{1, 4, api.MaxBuf} {
		for _, b := range []string{"a", "ab\ncd\n", text(96)} {
			for size, count := range shapes(len(b)) {
				for _, s := range []stream.State{both(1, bufSize), holding(1, bufSize, ""), bad(both(1, bufSize)), ended(got(1, bufSize, "", ""))} {
					x := &scripted{}
					want := with(s, func(s *stream.State) { s.Dir = 2 })
					wantState(t, "P16.1: Write", write(t, s, x, b, size, count, count, api.OK), want)
					wantCalls(t, "Write", x, writeCall(b))
				}
			}
		}
	}
}

// TestWriteThrough: through a buffer a full one is delivered, by lines a newline too (P16.1).
func TestWriteThrough(t *testing.T) {
	const b = "ab\ncdefgh\n\ni"
	for size, count := range shapes(len(b)) {
		x := &scripted{}
		wantState(t, "P16.1: Write", write(t, both(2, 4), x, b, size, count, count, api.OK), holding(2, 4, "i"))
		wantCalls(t, "Write", x, "write ab\n", "write cdef", "write gh\n", "write \n")
		x = &scripted{}
		wantState(t, "P16.1: Write", write(t, holding(3, 5, "0"), x, b, size, count, count, api.OK), holding(3, 5, "\n\ni"))
		wantCalls(t, "Write", x, "write 0ab\nc", "write defgh")
		x = &scripted{}
		wantState(t, "P16.1: Write", write(t, both(3, 99), x, b, size, count, count, api.OK), holding(3, 99, b))
		wantCalls(t, "Write", x)
	}
}

// TestWriteCount: just as many bytes as size and count say, neither one fewer nor one more, nor as many as another shape has (P16.1).
func TestWriteCount(t *testing.T) {
	states := []stream.State{both(3, 4), both(1, 4), holding(3, 4, "out"), holding(3, 4, "full"), got(2, 4, "in", "back"), {Reads: true, Mode: 3, Size: 4}, {Mode: 1, Size: 1}}
	for n := 1; n <= 12; n++ {
		for size, count := range shapes(n) {
			for _, many := range []int{0, n - 1, n + 1, n + size, n - size, size + count, 2 * n, api.MaxFile + 1} {
				if many == n {
					continue
				}
				for _, s := range states {
					x := &scripted{}
					wantState(t, "P16.1: Write", write(t, s, x, letters(many), size, count, 0, api.ErrCount), s)
					wantCalls(t, "Write", x)
				}
			}
			write(t, both(3, 4), &scripted{}, letters(n), size, count, count, api.OK)
		}
	}
	if x := writing(both(3, 4), &scripted{}, nil, 1, 1); !x.is(outcome{s: both(3, 4), e: api.ErrCount}) {
		t.Errorf("P16.1: Write(nil, 1, 1): %s", x)
	}
}

// TestWriteAtOnceFails: how many whole elements were taken ahead of the error; it sets Bad, but ErrBlock (P16.1).
func TestWriteAtOnceFails(t *testing.T) {
	for _, e := range append([]api.Errno{api.ErrBlock}, rawErrors...) {
		for size, count := range shapes(12) {
			for taken := range 12 {
				for _, s := range []stream.State{both(1, 9), ended(got(1, 9, "", "")), holding(1, 9, "")} {
					x := writesOf(answer{n: taken}, answer{1, e})
					if taken == 0 {
						x = writesOf(answer{1, e})
					}
					want := with(s, func(s *stream.State) { s.Dir, s.Bad = 2, e != api.ErrBlock })
					wantState(t, "P16.1: Write", write(t, s, x, "abcdefghijkl", size, count, taken/size, e), want)
				}
			}
		}
	}
}

// TestWriteByParts: what is short goes on with what is left, what was interrupted is begun anew; all elements are whole then (P16.1, P8.3).
func TestWriteByParts(t *testing.T) {
	for size, count := range shapes(6) {
		for mode := 1; mode <= 3; mode++ {
			x := writesOf(answer{n: 2}, answer{e: api.ErrIntr}, answer{n: 0}, answer{e: api.ErrAgain}, answer{n: 1})
			wantState(t, "P16.1: Write", write(t, both(mode, 6), x, "abcdef", size, count, count, api.OK), holding(mode, 6, ""))
			wantCalls(t, "Write", x, "write abcdef", "write cdef", "write cdef", "write cdef", "write cdef", "write def")
			if x.taken != "abcdef" {
				t.Errorf("P16.1: Write: %q was taken", x.taken)
			}
		}
	}
}

// TestWriteWrong: a Raw that never goes on, and one that answers numbers that may not be (P16.1, P8.3).
func TestWriteWrong(t *testing.T) {
	for _, try := range []answer{{e: api.ErrIntr}, {e: api.ErrAgain}, {}} {
		x := writesOf(append([]answer{{n: 3}}, slices.Repeat([]answer{try}, api.MaxTries)...)...)
		wantState(t, "P16.1: Write", write(t, both(1, 9), x, "abcd", 2, 2, 1, api.ErrTries), bad(holding(1, 9, "")))
	}
	for _, n := range []int{-1, 2, 1 << 40, -1 << 62} {
		x := writesOf(answer{n: 3}, answer{n: n})
		wantState(t, "P16.1: Write", write(t, both(1, 9), x, "abcd", 2, 2, 1, api.ErrRaw), bad(holding(1, 9, "")))
	}
}

// TestWriteThroughFails: the bytes that were taken into the buffer count, the one taken beside the error too; only whole elements of them are told (P16.1).
func TestWriteThroughFails(t *testing.T) {
	const b = "abcdefghijkl"
	for _, e := range append([]api.Errno{api.ErrBlock}, rawErrors...) {
		marked := func(s stream.State) stream.State {
			return with(s, func(s *stream.State) { s.Bad = e != api.ErrBlock })
		}
		for size, count := range shapes(len(b)) {
			// e fills the buffer.
			s := write(t, both(3, 5), writesOf(answer{e: e}), b, size, count, 5/size, e)
			wantState(t, "P16.1: Write", s, marked(holding(3, 5, "abcde")))
			// The full buffer goes first: nothing is taken.
			again := write(t, s, writesOf(answer{n: 3}, answer{e: e}), b, size, count, 0, e)
			wantState(t, "P16.1: Write", again, marked(holding(3, 5, "de")))
			again = write(t, again, writesOf(answer{n: 5}, answer{n: 4}, answer{e: e}), b, size, count, 8/size, e)
			wantState(t, "P16.1: Write", again, marked(holding(3, 5, "h")))
			again = write(t, again, &scripted{}, b, size, count, count, api.OK)
			wantState(t, "P16.1: Write", again, marked(holding(3, 5, "jkl")))
			// The last byte of all is taken beside the error: all elements are.
			s = write(t, both(3, 6), writesOf(answer{n: 6}, answer{n: 2}, answer{e: e}), b, size, count, count, e)
			wantState(t, "P16.1: Write", s, marked(holding(3, 6, "ijkl")))
		}
		s := write(t, both(2, 9), writesOf(answer{n: 1}, answer{e: e}), "abc\ndef\n", 2, 4, 2, e)
		wantState(t, "P16.1: Write", s, marked(holding(2, 9, "bc\n")))
		s = write(t, both(2, 9), writesOf(answer{e: e}), "abc\ndef\n", 8, 1, 0, e)
		wantState(t, "P16.1: Write", s, marked(holding(2, 9, "abc\n")))
	}
}

// TestWriteNotSo: a stream that does not write, and one that is being read; nothing is changed, and no raw call is made (P16.1).
func TestWriteNotSo(t *testing.T) {
	for mode := 1; mode <= 3; mode++ {
		cases := map[api.Errno][]stream.State{
			api.ErrMode: {{Reads: true, Mode: mode, Size: 4}, {Mode: mode, Size: 4}, ended(stream.State{Reads: true, Mode: mode, Size: 4, Dir: 1})},
			api.ErrDir:  {got(mode, 4, "", ""), got(mode, 4, "in", "back"), ended(got(mode, 4, "i", "")), ended(got(mode, 4, "", "b")), bad(got(mode, 4, "", ""))},
		}
		for e, states := range cases {
			for _, s := range states {
				for size, count := range shapes(6) {
					x := &scripted{}
					wantState(t, "P16.1: Write", write(t, s, x, "ab\ncd\n", size, count, 0, e), s)
					wantCalls(t, "Write", x)
				}
			}
		}
	}
}

// TestWriteOverAReader: the Raw's own ErrMode marks the stream (P16.1).
func TestWriteOverAReader(t *testing.T) {
	r, _ := memory.NewReader([]byte("abc"))
	wantState(t, "P16.1: Write", write(t, both(1, 4), r, "wxyz", 2, 2, 0, api.ErrMode), bad(holding(1, 4, "")))
	wantState(t, "P16.1: Write", write(t, both(3, 3), r, "wxyz", 2, 2, 1, api.ErrMode), bad(holding(3, 3, "wxy")))
}

// TestWriteGreat: as many bytes as may be, by great and small buffers and elements; one more is refused (P16.1).
func TestWriteGreat(t *testing.T) {
	said := text(api.MaxFile + 1)
	for mode, bufSize := range fewBuffers {
		for _, c := range [][2]int{{1, api.MaxFile}, {api.MaxFile, 1}, {1 << 10, 1 << 10}} {
			g, _ := memory.NewGrowing(nil)
			s := write(t, both(mode, bufSize), g, said[1:], c[0], c[1], c[1], api.OK)
			if _, e := stream.Close(s, g); e != api.OK || string(g.Bytes()) != said[1:] {
				t.Errorf("P16.1: mode %d, size %d: Close: %d, %d bytes", mode, bufSize, e, len(g.Bytes()))
			}
		}
		x := &scripted{}
		wantState(t, "P16.1: Write", write(t, both(mode, bufSize), x, said, 17, 61681, 0, api.ErrRange), both(mode, bufSize))
		wantCalls(t, "Write", x)
	}
}

// byLines is what the chapter says of Write: lines.Put, and the whole elements of what was taken.
func byLines(s stream.State, r retry.Raw, b []byte, size int) outcome {
	after, n, e := lines.Put(s, r, b)
	return outcome{s: after, n: n / size, e: e}
}

// TestIsPuts: over Raws whose writes answer by chance Write answers as lines.Put does, by the same raw calls (P16.1).
func TestIsPuts(t *testing.T) {
	for seed := range 1500 {
		roll := dice(uint64(seed))
		one, two := randomWrites(dice(uint64(seed))), randomWrites(dice(uint64(seed)))
		s := both(1+roll(3), 1+roll([]int{3, 12, 100}[roll(3)]))
		for range 12 {
			size, count := 1+roll(8), 1+roll(8)
			b := randomText(roll, size*count)
			answered, want := writing(s, one, b, size, count), byLines(s, two, b, size)
			if !answered.is(want) || one.taken != two.taken || fmt.Sprint(one.calls) != fmt.Sprint(two.calls) {
				t.Fatalf("P16.1: seed %d, Write(%q, %d, %d), %s: %s, not %s; %.200q, not %.200q", seed, b, size, count, show(s), answered, want, one.calls, two.calls)
			}
			s = answered.s
		}
	}
}

// randomText is n bytes, some of them newlines.
func randomText(roll func(int) int, n int) []byte {
	b := []byte(letters(n))
	for i := range b {
		if roll(5) == 0 {
			b[i] = '\n'
		}
	}
	return b
}

// randomWrites is a Raw whose writes take a part, all, none, or fail.
func randomWrites(roll func(int) int) *scripted {
	x := &scripted{}
	for range 20 {
		switch roll(4) {
		case 0:
			x.writes = append(x.writes, answer{e: []api.Errno{api.ErrBlock, api.ErrCustom, api.ErrIntr, api.ErrMode, api.ErrDir}[roll(5)]})
		default:
			x.writes = append(x.writes, answer{n: roll(6)})
		}
	}
	return x
}
