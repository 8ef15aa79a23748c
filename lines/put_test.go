package lines

import (
	"fmt"
	"slices"
	"testing"

	"millrace/api"
	"millrace/memory"
	"millrace/retry"
	"millrace/stream"
)

// TestPutAtOnce: without a buffer all is one raw write; behind it Dir is 2, and all else stays (P15.2, P15.5).
func TestPutAtOnce(t *testing.T) {
	for _, size := range []int{1, 4, api.MaxBuf} {
		for _, b := range []string{"a", "\n", "ab\ncd\n", text(1000)} {
			for _, s := range []stream.State{both(1, size), holding(1, size, ""), bad(both(1, size)), ended(got(1, size, "", "")), bad(ended(holding(1, size, "")))} {
				want := with(s, func(s *stream.State) { s.Dir = 2 })
				x := &scripted{}
				wantState(t, "P15.2: Put", put(t, s, x, b, len(b), api.OK), want)
				wantCalls(t, "Put", x, writeCall(b))
				x = &scripted{}
				wantState(t, "P15.2: PutLine", putLine(t, s, x, b, len(b)+1, api.OK), want)
				wantCalls(t, "PutLine", x, writeCall(b+"\n"))
			}
		}
	}
}

// TestPutAtOnceByParts: what is short goes on with what is left, what was interrupted is begun anew (P15.2, P8.3).
func TestPutAtOnceByParts(t *testing.T) {
	x := writesOf(answer{n: 2}, answer{e: api.ErrIntr}, answer{n: 0}, answer{e: api.ErrAgain}, answer{n: 1})
	wantState(t, "P15.2: Put", put(t, both(1, 9), x, "abcdef", 6, api.OK), holding(1, 9, ""))
	wantCalls(t, "Put", x, "write abcdef", "write cdef", "write cdef", "write cdef", "write cdef", "write def")
	if x.taken != "abcdef" {
		t.Errorf("P15.2: %q was taken", x.taken)
	}
}

// TestPutAtOnceFails: how many were taken ahead of the error; it sets Bad, but ErrBlock (P15.2).
func TestPutAtOnceFails(t *testing.T) {
	for _, e := range append([]api.Errno{api.ErrBlock, api.ErrEnd}, rawErrors...) {
		for taken := range 4 {
			for _, s := range []stream.State{both(1, 9), ended(got(1, 9, "", "")), holding(1, 9, "")} {
				want := with(s, func(s *stream.State) { s.Dir, s.Bad = 2, e != api.ErrBlock })
				fails := func() *scripted {
					if taken == 0 {
						return writesOf(answer{1, e})
					}
					return writesOf(answer{n: taken}, answer{1, e})
				}
				wantState(t, "P15.2: Put", put(t, s, fails(), "abcd", taken, e), want)
				wantState(t, "P15.2: PutLine", putLine(t, s, fails(), "abc", taken, e), want)
				// One that was Bad stays so.
				wantState(t, "P15.2: Put", put(t, bad(s), fails(), "abcd", taken, e), bad(want))
			}
		}
	}
}

// TestPutAtOnceWrong: a Raw that never goes on, and one that answers numbers that may not be (P15.2, P8.3).
func TestPutAtOnceWrong(t *testing.T) {
	for _, try := range []answer{{e: api.ErrIntr}, {e: api.ErrAgain}, {}} {
		x := writesOf(append([]answer{{n: 1}}, slices.Repeat([]answer{try}, api.MaxTries)...)...)
		wantState(t, "P15.2: Put", put(t, both(1, 9), x, "abc", 1, api.ErrTries), bad(holding(1, 9, "")))
	}
	for _, n := range []int{-1, 3, 1 << 40, -1 << 62} {
		x := writesOf(answer{n: 1}, answer{n: n})
		wantState(t, "P15.2: Put", put(t, both(1, 9), x, "abc", 1, api.ErrRaw), bad(holding(1, 9, "")))
	}
}

// TestPutNotSo: what stream.Put says ahead of its raw call is said ahead of any, in each mode; nothing is changed (P15.2).
func TestPutNotSo(t *testing.T) {
	for mode := 1; mode <= 3; mode++ {
		cases := map[api.Errno][]stream.State{
			api.ErrMode: {{Reads: true, Mode: mode, Size: 4}, {Mode: mode, Size: 4}, {Reads: true, Mode: mode, Size: 4, Dir: 1, In: []byte("i")}, ended(stream.State{Reads: true, Mode: mode, Size: 4, Dir: 1})},
			api.ErrDir:  {got(mode, 4, "", ""), got(mode, 4, "in", "back"), ended(got(mode, 4, "i", "")), ended(got(mode, 4, "", "b")), bad(got(mode, 4, "", ""))},
		}
		for e, states := range cases {
			for _, s := range states {
				for name, call := range puts {
					for _, b := range []string{"a", "\n", "abcdefghi", "a\nb\nc"} {
						// A Raw that says the same, or takes all, is not asked.
						for _, x := range []*scripted{{}, writesOf(answer{e: e}), writesOf(answer{e: api.ErrBlock})} {
							if answered := call(s, x, []byte(b)); !answered.is(outcome{s: s, e: e}) || len(x.calls) != 0 {
								t.Errorf("P15.2: %s(%q), %s: %s, %q", name, b, show(s), answered, x.calls)
							}
						}
					}
				}
			}
		}
	}
}

// TestPutBehindTheEnd: where the end was met and nothing is held the stream is turned to writing (P15.2).
func TestPutBehindTheEnd(t *testing.T) {
	for mode := 2; mode <= 3; mode++ {
		s := put(t, ended(got(mode, 4, "", "")), &scripted{}, "ab", 2, api.OK)
		wantState(t, "P15.2: Put", s, ended(holding(mode, 4, "ab")))
	}
}

// TestPutOfNone: of no bytes nothing is put, said or changed, whatever the stream is open for; PutLine puts a newline (P15.2).
func TestPutOfNone(t *testing.T) {
	for mode := 1; mode <= 3; mode++ {
		for _, s := range []stream.State{both(mode, 4), {Mode: mode, Size: 4}, {Reads: true, Mode: mode, Size: 4}, got(mode, 4, "in", "back"), holding(mode, 4, ""), bad(ended(got(mode, 4, "", "")))} {
			x := writesOf(answer{e: api.ErrCustom})
			wantState(t, "P15.2: Put of none", put(t, s, x, "", 0, api.OK), s)
			if after, n, e := Put(s, x, nil); n != 0 || e != api.OK || !same(after, s) {
				t.Errorf("P15.2: Put of nil, %s: %d, %d, %s", show(s), n, e, show(after))
			}
			wantCalls(t, "Put of none", x)
		}
	}
	// A full buffer is not delivered by it either.
	x := &scripted{}
	wantState(t, "P15.2: Put of none", put(t, holding(3, 3, "out"), x, "", 0, api.OK), holding(3, 3, "out"))
	wantCalls(t, "Put of none", x)
	for mode := 1; mode <= 2; mode++ {
		x := &scripted{}
		wantState(t, "P15.2: PutLine of none", putLine(t, both(mode, 4), x, "", 1, api.OK), holding(mode, 4, ""))
		wantCalls(t, "PutLine of none", x, "write \n")
	}
	wantState(t, "P15.2: PutLine of none", putLine(t, both(3, 4), x, "", 1, api.OK), holding(3, 4, "\n"))
}

// TestPutLong: as many bytes as may be, and one more; a newline counts (P15.2).
func TestPutLong(t *testing.T) {
	whole := text(api.MaxFile)
	for mode, size := range fewBuffers {
		g, _ := memory.NewGrowing(nil)
		s := put(t, both(mode, size), g, whole, api.MaxFile, api.OK)
		if _, e := stream.Close(s, g); e != api.OK || string(g.Bytes()) != whole {
			t.Errorf("P15.2: mode %d, size %d: Close: %d, %d bytes", mode, size, e, len(g.Bytes()))
		}
		g, _ = memory.NewGrowing(nil)
		s = putLine(t, both(mode, size), g, whole[1:], api.MaxFile, api.OK)
		if _, e := stream.Close(s, g); e != api.OK || string(g.Bytes()) != whole[1:]+"\n" {
			t.Errorf("P15.2: mode %d, size %d: Close: %d, %d bytes", mode, size, e, len(g.Bytes()))
		}
		x := &scripted{}
		for _, s := range []stream.State{both(mode, size), got(mode, size, "in", "back"), {Mode: mode, Size: size}} {
			wantState(t, "P15.2: Put of too many", put(t, s, x, whole+"x", 0, api.ErrLong), s)
			wantState(t, "P15.2: PutLine of too many", putLine(t, s, x, whole, 0, api.ErrLong), s)
		}
		wantCalls(t, "Put of too many", x)
	}
}

// TestPutByLines: by lines each newline and each full buffer is delivered, full only the latter (P15.2).
func TestPutByLines(t *testing.T) {
	x := &scripted{}
	s := put(t, both(2, 4), x, "ab\ncdefgh\n\ni", 12, api.OK)
	wantState(t, "P15.2: Put", s, holding(2, 4, "i"))
	wantCalls(t, "Put", x, "write ab\n", "write cdef", "write gh\n", "write \n")
	s = putLine(t, s, x, "jkl", 4, api.OK)
	wantState(t, "P15.2: PutLine", s, holding(2, 4, ""))
	wantCalls(t, "PutLine", x, "write ab\n", "write cdef", "write gh\n", "write \n", "write ijkl", "write \n")

	x = &scripted{}
	s = put(t, holding(3, 4, "0"), x, "ab\ncdefg\n\ni", 11, api.OK)
	wantState(t, "P15.2: Put", s, holding(3, 4, ""))
	wantCalls(t, "Put", x, "write 0ab\n", "write cdef", "write g\n\ni")
	s = putLine(t, s, x, "jkl", 4, api.OK)
	wantCalls(t, "PutLine", x, "write 0ab\n", "write cdef", "write g\n\ni", "write jkl\n")
	wantState(t, "P15.2: PutLine", putLine(t, s, x, "mn", 3, api.OK), holding(3, 4, "mn\n"))
}

// TestPutFails: one that was taken beside an error counts, one that was not does not; those behind it are not put (P15.2).
func TestPutFails(t *testing.T) {
	for _, e := range append([]api.Errno{api.ErrBlock, api.ErrEnd}, rawErrors...) {
		marked := func(s stream.State) stream.State {
			return with(s, func(s *stream.State) { s.Bad = e != api.ErrBlock })
		}
		// d fills the buffer: it is taken, and none of them is delivered.
		s := put(t, both(3, 4), writesOf(answer{e: e}), "abcdefgh", 4, e)
		wantState(t, "P15.2: Put", s, marked(holding(3, 4, "abcd")))
		// The buffer is full: e is not taken.
		again := put(t, s, writesOf(answer{e: e}), "efgh", 0, e)
		wantState(t, "P15.2: Put", again, marked(holding(3, 4, "abcd")))
		again = put(t, s, writesOf(answer{n: 3}, answer{e: e}), "efgh", 0, e)
		wantState(t, "P15.2: Put", again, marked(holding(3, 4, "d")))
		// It goes on with what is left, and comes to an error again.
		again = put(t, again, writesOf(answer{n: 2}, answer{e: e}), "efghi", 3, e)
		wantState(t, "P15.2: Put", again, marked(holding(3, 4, "fg")))
		again = put(t, s, writesOf(answer{n: 4}, answer{n: 1}, answer{e: e}), "efghi", 4, e)
		wantState(t, "P15.2: Put", again, marked(holding(3, 4, "fgh")))
		// The first is taken beside an error.
		s = put(t, holding(2, 4, "x"), writesOf(answer{n: 1}, answer{e: e}), "\nabc", 1, e)
		wantState(t, "P15.2: Put", s, marked(holding(2, 4, "\n")))
		s = putLine(t, both(2, 4), writesOf(answer{n: 2}, answer{e: e}), "ab", 3, e)
		wantState(t, "P15.2: PutLine", s, marked(holding(2, 4, "\n")))
		// The last is.
		s = put(t, both(2, 9), writesOf(answer{n: 3}, answer{e: e}), "ab\ncd\n", 6, e)
		wantState(t, "P15.2: Put", s, marked(holding(2, 9, "cd\n")))
	}
}

// TestPutTwins: states that are one behind an error, of which one has taken the byte and the other has not (P15.2).
func TestPutTwins(t *testing.T) {
	want := bad(holding(2, 2, "\n"))
	s := holding(2, 2, "x\n")
	wantState(t, "P15.2: Put", put(t, s, writesOf(answer{n: 1}, answer{e: api.ErrCustom}), "\n", 0, api.ErrCustom), want)
	wantState(t, "P15.2: Put", put(t, s, writesOf(answer{n: 2}, answer{e: api.ErrCustom}), "\n", 1, api.ErrCustom), want)
	want = bad(holding(3, 1, "a"))
	s = holding(3, 1, "a")
	wantState(t, "P15.2: Put", put(t, s, writesOf(answer{e: api.ErrCustom}), "a", 0, api.ErrCustom), want)
	wantState(t, "P15.2: Put", put(t, s, writesOf(answer{n: 1}, answer{e: api.ErrCustom}), "a", 1, api.ErrCustom), want)
}

// TestPutOverAReader: the Raw's own ErrMode is no word of stream.Put's ahead of the raw call (P15.2).
func TestPutOverAReader(t *testing.T) {
	r, _ := memory.NewReader([]byte("abc"))
	wantState(t, "P15.2: Put", put(t, both(1, 4), r, "xyz", 0, api.ErrMode), bad(holding(1, 4, "")))
	wantState(t, "P15.2: Put", put(t, both(3, 2), r, "xyz", 2, api.ErrMode), bad(holding(3, 2, "xy")))
	wantState(t, "P15.2: PutLine", putLine(t, both(2, 9), r, "xyz", 4, api.ErrMode), bad(holding(2, 9, "xyz\n")))
}

// byPuts is what the chapter says of Put in the modes with a buffer: stream.Put byte by byte, till one told an error. How many were put is told by where they are: with the Raw, or in Out.
func byPuts(s stream.State, x *scripted, b []byte) outcome {
	were, taken := len(s.Out), len(x.taken)
	for _, c := range b {
		after, e := stream.Put(s, x, c)
		s = after
		if e != api.OK {
			return outcome{s: s, n: len(x.taken) - taken + len(s.Out) - were, e: e}
		}
	}
	return outcome{s: s, n: len(b)}
}

// TestIsPuts: over Raws whose writes answer by chance Put is stream.Put of each byte: the same Out, the same that was taken, the same raw calls (P15.5).
func TestIsPuts(t *testing.T) {
	for seed := range 1500 {
		roll := dice(uint64(seed))
		one, two := randomWrites(dice(uint64(seed))), randomWrites(dice(uint64(seed)))
		s := both(2+roll(2), 1+roll([]int{3, 12, 100}[roll(3)]))
		for range 12 {
			b := randomText(roll)
			var answered, want outcome
			if roll(3) == 0 {
				answered, want = puts["PutLine"](s, one, b), byPuts(s, two, append(b, '\n'))
			} else {
				answered, want = puts["Put"](s, one, b), byPuts(s, two, b)
			}
			if !answered.is(want) || one.taken != two.taken || fmt.Sprint(one.calls) != fmt.Sprint(two.calls) {
				t.Fatalf("P15.5: seed %d, %q, %s: %s, not %s; %.200q, not %.200q", seed, b, show(s), answered, want, one.calls, two.calls)
			}
			s = answered.s
		}
	}
}

// randomText is some bytes, many of them newlines, or none.
func randomText(roll func(int) int) []byte {
	b := []byte(letters(roll([]int{4, 20, 300}[roll(3)])))
	for i := range b {
		if roll(5) == 0 {
			b[i] = '\n'
		}
	}
	return b
}

// randomWrites is a Raw whose writes take a part, all, none, or fail.
func randomWrites(roll func(int) int) *scripted {
	x := &scripted{}
	for range 20 {
		switch roll(4) {
		case 0:
			x.writes = append(x.writes, answer{e: []api.Errno{api.ErrBlock, api.ErrCustom, api.ErrIntr, api.ErrMode, api.ErrDir}[roll(5)]})
		default:
			x.writes = append(x.writes, answer{n: roll(6)})
		}
	}
	return x
}

// TestIsPutsAtOnce: without a buffer, over a Raw that takes it whole, what is taken and the state are those of stream.Put of each byte, in one raw write (P15.5).
func TestIsPutsAtOnce(t *testing.T) {
	for _, s := range []stream.State{both(1, 4), bad(both(1, 4)), ended(got(1, 4, "", "")), holding(1, 9, "")} {
		for _, b := range []string{"a", "ab\n\nc", text(300)} {
			one, two := &scripted{}, &scripted{}
			answered, want := puts["Put"](s, one, []byte(b)), byPuts(s, two, []byte(b))
			if !answered.is(want) || one.taken != two.taken || len(one.calls) != 1 {
				t.Errorf("P15.5: %s: %s, not %s; %d raw calls", show(s), answered, want, len(one.calls))
			}
		}
	}
}

// TestShut: a Raw that takes nothing is the Raw in all but its writes.
func TestShut(t *testing.T) {
	x := texts("ab")
	var r retry.Raw = shut{x}
	if n, e := r.Write([]byte("c")); n != 0 || e != api.ErrBlock || x.taken != "" {
		t.Errorf("P15.2: Write: %d, %d, %q was taken", n, e, x.taken)
	}
	if b, e := r.Read(9); string(b) != "ab" || e != api.OK {
		t.Errorf("P15.2: Read: %q, %d", b, e)
	}
}
