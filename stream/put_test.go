package stream

import (
	"strings"
	"testing"

	"millrace/api"
)

// TestFirstExample: the chapter's (P11.2, P11.3, P11.4).
func TestFirstExample(t *testing.T) {
	r := rawOf(2, 1, "xyz")
	s := put(t, both(3, 2), r, 'a', api.OK)
	wantState(t, "P11.2: Put", s, holding(3, 2, "a"))
	wantCalls(t, r)
	s = put(t, s, r, 'b', api.OK)
	wantState(t, "P11.2: Put", s, holding(3, 2, ""))
	wantCalls(t, r, "ab")
	s = put(t, s, r, 'c', api.OK)
	getNone(t, s, r, api.ErrDir)
	s = flush(t, s, r, api.OK)
	wantState(t, "P11.4: Flush", s, both(3, 2))
	wantCalls(t, r, "c")
	r = rawOf("xy")
	s = get(t, s, r, 'x')
	wantState(t, "P11.3: Get", s, got(3, 2, "y", ""))
	wantCalls(t, r, "2")
}

// TestSecondExample: the chapter's (P11.2, P11.3).
func TestSecondExample(t *testing.T) {
	r := rawOf()
	s := putAll(t, both(2, 9), r, "ab")
	wantCalls(t, r)
	s = put(t, s, r, '\n', api.OK)
	wantState(t, "P11.2: Put", s, holding(2, 9, ""))
	wantCalls(t, r, "ab\n")
	after := getNone(t, s, r, api.ErrDir)
	wantState(t, "P11.3: Get behind a Put", after, s)
}

// TestPutUnbuffered: each byte is a write, a newline as all others (P11.2).
func TestPutUnbuffered(t *testing.T) {
	for _, size := range []int{1, 2, api.MaxBuf} {
		r := rawOf()
		s := putAll(t, both(1, size), r, "a\nb")
		wantState(t, "P11.2: Put", s, holding(1, size, ""))
		wantCalls(t, r, "a", "\n", "b")
	}
}

// TestPutByLines: writes behind a newline and where the buffer is full, once where both hold (P11.2).
func TestPutByLines(t *testing.T) {
	r := rawOf()
	s := putAll(t, both(2, 4), r, "ab\n\ncdefgh\nxyz\nu")
	wantState(t, "P11.2: Put", s, holding(2, 4, "u"))
	wantCalls(t, r, "ab\n", "\n", "cdef", "gh\n", "xyz\n")
	// Byte 13 and the others ends no line.
	s = both(2, 300)
	for c := range 256 {
		if c != 10 {
			s = put(t, s, r, byte(c), api.OK)
		}
	}
	wantCalls(t, r)
	if len(s.Out) != 255 {
		t.Errorf("P11.2: Put: %d bytes are held, not 255", len(s.Out))
	}
}

// TestPutFull: writes where the buffer is full alone (P11.2).
func TestPutFull(t *testing.T) {
	r := rawOf()
	s := putAll(t, both(3, 4), r, "a\n\nbcd\n")
	wantState(t, "P11.2: Put", s, holding(3, 4, "cd\n"))
	wantCalls(t, r, "a\n\nb")
	s = put(t, s, r, '\n', api.OK)
	wantCalls(t, r, "cd\n\n")
	wantState(t, "P11.2: Put", s, holding(3, 4, ""))
}

// TestPutSizeOne: a buffer of one byte is full by each (P11.2).
func TestPutSizeOne(t *testing.T) {
	for _, mode := range []int{2, 3} {
		r := rawOf()
		s := putAll(t, both(mode, 1), r, "a\nb")
		wantState(t, "P11.2: Put", s, holding(mode, 1, ""))
		wantCalls(t, r, "a", "\n", "b")
		// Of one that is full already both what it holds and the byte are delivered.
		s = put(t, holding(mode, 1, "x"), r, 'y', api.OK)
		wantState(t, "P11.2: Put", s, holding(mode, 1, ""))
		wantCalls(t, r, "x", "y")
	}
}

// TestPutGreatest: the greatest buffer is full by its last byte (P11.2).
func TestPutGreatest(t *testing.T) {
	whole := text(api.MaxBuf)
	for _, mode := range []int{2, 3} {
		r := rawOf()
		almost := strings.ReplaceAll(whole[:api.MaxBuf-2], "\n", "_")
		s := put(t, holding(mode, api.MaxBuf, almost), r, 'y', api.OK)
		wantState(t, "P11.2: Put", s, holding(mode, api.MaxBuf, almost+"y"))
		wantCalls(t, r)
		s = put(t, s, r, 'z', api.OK)
		wantState(t, "P11.2: Put", s, holding(mode, api.MaxBuf, ""))
		wantCalls(t, r, almost+"yz")
	}
}

// TestPutFindsFull: a full buffer is delivered ahead of the byte, which is held behind (P11.2).
func TestPutFindsFull(t *testing.T) {
	r := rawOf()
	s := put(t, holding(3, 3, "abc"), r, 'd', api.OK)
	wantState(t, "P11.2: Put", s, holding(3, 3, "d"))
	wantCalls(t, r, "abc")
	s = put(t, holding(3, 3, "abc"), r, '\n', api.OK)
	wantState(t, "P11.2: Put", s, holding(3, 3, "\n"))
	wantCalls(t, r, "abc")
	// By lines the newline is delivered too.
	s = put(t, holding(2, 3, "abc"), r, '\n', api.OK)
	wantState(t, "P11.2: Put", s, holding(2, 3, ""))
	wantCalls(t, r, "abc", "\n")
}

// TestPutFindsFullFails: the byte is not taken, be it that a part was delivered (P11.2).
func TestPutFindsFullFails(t *testing.T) {
	for _, mode := range []int{2, 3} {
		for _, c := range []byte("d\n") {
			r := rawOf(api.ErrCustom)
			s := put(t, holding(mode, 3, "abc"), r, c, api.ErrCustom)
			wantState(t, "P11.2: Put", s, bad(holding(mode, 3, "abc")))
			wantCalls(t, r, "abc")
			r = rawOf(2, api.ErrFull)
			s = put(t, holding(mode, 3, "abc"), r, c, api.ErrFull)
			wantState(t, "P11.2: Put", s, bad(holding(mode, 3, "c")))
			wantCalls(t, r, "abc", "c")
			r = rawOf(1, api.ErrBlock)
			s = put(t, holding(mode, 3, "abc"), r, c, api.ErrBlock)
			wantState(t, "P11.2: Put", s, holding(mode, 3, "bc"))
			wantCalls(t, r, "abc", "bc")
		}
	}
}

// TestPutFillsAndFails: the byte is taken, and the error told (P11.2).
func TestPutFillsAndFails(t *testing.T) {
	for _, mode := range []int{2, 3} {
		r := rawOf(api.ErrCustom)
		s := put(t, holding(mode, 3, "ab"), r, 'c', api.ErrCustom)
		wantState(t, "P11.2: Put", s, bad(holding(mode, 3, "abc")))
		wantCalls(t, r, "abc")
		// The next one finds it full, and Bad is no refusal.
		s = put(t, s, r, 'd', api.OK)
		wantState(t, "P11.2: Put", s, bad(holding(mode, 3, "d")))
		wantCalls(t, r, "abc")
		r = rawOf(2, api.ErrPipe)
		s = put(t, holding(mode, 3, "ab"), r, 'c', api.ErrPipe)
		wantState(t, "P11.2: Put", s, bad(holding(mode, 3, "c")))
		r = rawOf(1, api.ErrBlock)
		s = put(t, holding(mode, 3, "ab"), r, 'c', api.ErrBlock)
		wantState(t, "P11.2: Put", s, holding(mode, 3, "bc"))
	}
	r := rawOf(1, api.ErrCustom)
	s := put(t, holding(2, 9, "ab"), r, '\n', api.ErrCustom)
	wantState(t, "P11.2: Put of a newline", s, bad(holding(2, 9, "b\n")))
	wantCalls(t, r, "ab\n", "b\n")
}

// TestPutUnbufferedFails: the byte is not held (P11.2).
func TestPutUnbufferedFails(t *testing.T) {
	for _, e := range rawErrors {
		r := rawOf(e)
		s := put(t, both(1, 5), r, 'a', e)
		wantState(t, "P11.2: Put", s, bad(holding(1, 5, "")))
		wantCalls(t, r, "a")
		s = put(t, s, r, 'b', api.OK)
		wantState(t, "P11.2: Put", s, bad(holding(1, 5, "")))
	}
	r := rawOf(api.ErrBlock)
	s := put(t, both(1, 5), r, 'a', api.ErrBlock)
	wantState(t, "P11.2: Put", s, holding(1, 5, ""))
	s = put(t, bad(both(1, 5)), rawOf(api.ErrBlock), 'a', api.ErrBlock)
	wantState(t, "P11.2: Put", s, bad(holding(1, 5, "")))
}

// TestRawErrors: whatever error a Raw answers is told and sets Bad, also one by which a stream refuses (P11.2, P11.4).
func TestRawErrors(t *testing.T) {
	for _, e := range rawErrors {
		s := put(t, holding(3, 2, "a"), rawOf(1, e), 'b', e)
		wantState(t, "P11.2: Put", s, bad(holding(3, 2, "b")))
		s = put(t, holding(3, 2, "ab"), rawOf(1, e), 'c', e)
		wantState(t, "P11.2: Put", s, bad(holding(3, 2, "b")))
		s = flush(t, holding(3, 2, "ab"), rawOf(1, e), e)
		wantState(t, "P11.4: Flush", s, bad(holding(3, 2, "b")))
		s = closed(t, holding(3, 2, "ab"), rawOf(1, e), e)
		wantState(t, "P11.4: Close", s, bad(with(both(3, 2), func(s *State) { s.Closed = true })))
	}
	// Too many tries, and numbers that may not be, are told as layer 8 tells them.
	many := make([]any, api.MaxTries)
	for i := range many {
		many[i] = []api.Errno{api.ErrIntr, api.ErrAgain}[i%2]
	}
	r := rawOf(many...)
	s := put(t, holding(3, 2, "a"), r, 'b', api.ErrTries)
	wantState(t, "P11.2: Put", s, bad(holding(3, 2, "ab")))
	for _, n := range []int{-1, 3} {
		s = put(t, holding(3, 2, "a"), rawOf(n), 'b', api.ErrRaw)
		wantState(t, "P11.2: Put", s, bad(holding(3, 2, "ab")))
	}
}

// TestPutGoesOn: interrupted and short writes are not seen (P11.2).
func TestPutGoesOn(t *testing.T) {
	r := rawOf(api.ErrIntr, 1, 0, api.ErrAgain, 1)
	s := put(t, holding(3, 3, "ab"), r, 'c', api.OK)
	wantState(t, "P11.2: Put", s, holding(3, 3, ""))
	wantCalls(t, r, "abc", "abc", "bc", "bc", "bc", "c")
	r = rawOf(0, api.ErrIntr, 1)
	s = put(t, both(1, 3), r, 'c', api.OK)
	wantState(t, "P11.2: Put", s, holding(1, 3, ""))
	wantCalls(t, r, "c", "c", "c")
}

// TestPutBehindReading: only behind the end, with nothing left to be got; End stays (P11.2).
func TestPutBehindReading(t *testing.T) {
	for mode := 1; mode <= 3; mode++ {
		for _, c := range []struct {
			in, back string
			end      bool
			e        api.Errno
		}{
			{"", "", true, api.OK},
			{"", "", false, api.ErrDir},
			{"i", "", true, api.ErrDir},
			{"", "b", true, api.ErrDir},
			{"i", "b", true, api.ErrDir},
			{"i", "b", false, api.ErrDir},
		} {
			r := rawOf()
			s := with(got(mode, 4, c.in, c.back), func(s *State) { s.End = c.end })
			after := put(t, s, r, 'x', c.e)
			want, held := s, ""
			if c.e == api.OK {
				if mode != unbuffered {
					held = "x"
				}
				want = ended(holding(mode, 4, held))
			}
			wantState(t, "P11.2: Put", after, want)
		}
	}
}

// TestPutTurns: in Dir 0, whatever the marks are, the way is writing then (P11.2).
func TestPutTurns(t *testing.T) {
	for _, s := range []State{both(3, 2), ended(both(3, 2)), bad(both(3, 2)), bad(ended(both(3, 2))), {Writes: true, Mode: 3, Size: 2}} {
		after := put(t, s, rawOf(), 'x', api.OK)
		wantState(t, "P11.2: Put", after, with(s, func(s *State) { s.Out, s.Dir = []byte("x"), writing }))
	}
}

// TestPutEachByte: bytes of all values are put as they are (P11.2).
func TestPutEachByte(t *testing.T) {
	for mode := 1; mode <= 3; mode++ {
		r := rawOf()
		s := putAll(t, both(mode, 100), r, text(1000))
		closed(t, s, r, api.OK)
		if r.taken != text(1000) {
			t.Errorf("P11.5: Mode %d: what was taken is not what was put: %.60q", mode, r.taken)
		}
	}
}

// TestPanicGoesThrough: that of a custom Write, and the state that was handed in is as it was (P1).
func TestPanicGoesThrough(t *testing.T) {
	for _, call := range []string{"Put", "Flush", "Close"} {
		s := holding(3, 3, "ab")
		func() {
			defer func() {
				if recover() == nil {
					t.Errorf("P1: %s: the Raw's panic is lost", call)
				}
			}()
			callOf(call, s, panicking{})
		}()
		wantState(t, "P11.9: "+call, s, holding(3, 3, "ab"))
	}
}

// panicking is a Raw whose writes panic.
type panicking struct{ *scripted }

func (panicking) Write([]byte) (int, api.Errno) { panic("no") }
