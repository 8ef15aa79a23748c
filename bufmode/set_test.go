package bufmode

import (
	"fmt"
	"testing"

	"millrace/api"
	"millrace/memory"
	"millrace/retry"
	"millrace/stream"
)

// TestSet: what is held to be delivered is, the mode and the size are the new ones, all else stays, in each Dir (P12.1).
func TestSet(t *testing.T) {
	for was := 1; was <= 3; was++ {
		states := []stream.State{
			both(was, 4),
			got(was, 4, "", ""),
			got(was, 4, "in", "back"),
			got(was, 4, "in", ""),
			got(was, 4, "", "12345678"),
			holding(was, 4, ""),
			{Reads: true, Mode: was, Size: 4, Dir: 1, In: []byte("i")},
			{Writes: true, Mode: was, Size: 4, Dir: 2},
			{Mode: was, Size: 4},
		}
		if was != 1 {
			states = append(states, holding(was, 4, "a"), holding(was, 4, "abc"), holding(was, 4, "a\nbc"))
		}
		for _, s := range states {
			for _, s := range []stream.State{s, ended(s), bad(s), ended(bad(s))} {
				wantSet(t, s)
			}
		}
	}
}

// wantSet sets all modes and some sizes over a Raw that takes all.
func wantSet(t *testing.T, s stream.State) {
	t.Helper()
	for mode := 1; mode <= 3; mode++ {
		for _, size := range sizes {
			r := rawOf()
			after := set(t, s, r, mode, size, api.OK)
			wantState(t, "P12.1: Set", after, with(s, func(s *stream.State) { s.Mode, s.Size, s.Out = mode, size, nil }))
			if len(s.Out) > 0 {
				wantCalls(t, r, string(s.Out))
			} else {
				wantCalls(t, r)
			}
		}
	}
}

// TestSetSame: also where mode and size are as they were, what is held is delivered (P12.1).
func TestSetSame(t *testing.T) {
	for _, mode := range []int{2, 3} {
		r := rawOf()
		wantState(t, "P12.1: Set", set(t, holding(mode, 4, "ab"), r, mode, 4, api.OK), holding(mode, 4, ""))
		wantCalls(t, r, "ab")
	}
}

// TestSetWhole: the greatest buffer, full, is delivered in one write (P12.1).
func TestSetWhole(t *testing.T) {
	r := rawOf()
	s := set(t, holding(3, api.MaxBuf, text(api.MaxBuf)), r, 1, 1, api.OK)
	wantState(t, "P12.1: Set", s, holding(1, 1, ""))
	wantCalls(t, r, text(api.MaxBuf))
	// What was read stays, be it more than the new size.
	s = set(t, got(3, api.MaxBuf, text(api.MaxBuf), "12345678"), r, 3, 1, api.OK)
	wantState(t, "P12.1: Set", s, got(3, 1, text(api.MaxBuf), "12345678"))
	wantCalls(t, r)
}

// TestSetGoesOn: behind Set the stream goes on in its Dir, by the new mode and size (P12.1).
func TestSetGoesOn(t *testing.T) {
	r := rawOf()
	s := put(t, both(3, 8), r, "ab")
	s = set(t, s, r, 2, 4, api.OK)
	if _, _, e := stream.Get(s, r); e != api.ErrDir {
		t.Errorf("P12.1: Get behind Put and Set: %d", e)
	}
	s = put(t, s, r, "c\ndefghi")
	wantCalls(t, r, "ab", "c\n", "defg")
	s = set(t, s, r, 1, 9, api.OK)
	wantCalls(t, r, "hi")
	s = put(t, s, r, "jk")
	wantCalls(t, r, "j", "k")
	s = set(t, s, r, 3, 2, api.OK)
	s = put(t, s, r, "lmn")
	wantCalls(t, r, "lm")
	closed(t, s, r)
	wantCalls(t, r, "n")
	if r.taken != "abc\ndefghijklmn" {
		t.Errorf("P12.4: %q was taken", r.taken)
	}

	r = rawOf("abcd", "e", "fg", "", "h")
	s = get(t, both(3, 4), r, "a")
	s = set(t, s, r, 1, 4, api.OK)
	if _, e := stream.Put(s, r, '!'); e != api.ErrDir {
		t.Errorf("P12.1: Put behind Get and Set: %d", e)
	}
	s = get(t, s, r, "bcd")
	wantCalls(t, r, "4")
	s = get(t, s, r, "e")
	wantCalls(t, r, "1")
	s = set(t, s, r, 3, 2, api.OK)
	s = get(t, s, r, "fg")
	wantCalls(t, r, "2")
	s, _, e := stream.Get(s, r)
	s = set(t, s, r, 2, 7, api.OK)
	if _, _, again := stream.Get(s, r); e != api.ErrEnd || again != api.ErrEnd {
		t.Errorf("P12.1: Get at the end, and behind Set: %d, %d", e, again)
	}
	wantCalls(t, r, "2")
}

// TestSetBlocked: what was taken is gone, the rest is held, mode and size stay, Bad is not set; it may be tried again (P12.1).
func TestSetBlocked(t *testing.T) {
	for _, mode := range []int{2, 3} {
		r := rawOf(api.ErrBlock)
		s := set(t, holding(mode, 4, "abcd"), r, 1, 9, api.ErrBlock)
		wantState(t, "P12.1: Set that is blocked", s, holding(mode, 4, "abcd"))
		wantCalls(t, r, "abcd")
		s = set(t, bad(ended(s)), rawOf(api.ErrBlock), 3, 1, api.ErrBlock)
		wantState(t, "P12.1: Set that is blocked", s, bad(ended(holding(mode, 4, "abcd"))))
		r = rawOf(1, 2, api.ErrBlock)
		s = set(t, holding(mode, 4, "abcd"), r, 1, 9, api.ErrBlock)
		wantState(t, "P12.1: Set that delivers a part", s, holding(mode, 4, "d"))
		wantCalls(t, r, "abcd", "bcd", "d")
		s = set(t, s, r, 1, 9, api.OK)
		wantState(t, "P12.1: Set of the rest", s, holding(1, 9, ""))
		wantCalls(t, r, "d")
	}
}

// rawErrors are errors that a Raw may answer, and that are told as they are; the last ones are no known errors.
var rawErrors = []api.Errno{api.ErrArg, api.ErrMade, api.ErrRange, api.ErrFull, api.ErrState, api.ErrPipe, api.ErrDesc, api.ErrMode, api.ErrCustom, api.ErrEnd, api.ErrDir, api.ErrClosed, api.ErrTries, api.ErrRaw, 7, -1, -52}

// TestSetFails: the Raw's error is told and sets Bad, mode and size stay (P12.1).
func TestSetFails(t *testing.T) {
	for _, mode := range []int{2, 3} {
		for _, e := range rawErrors {
			s := set(t, holding(mode, 4, "abcd"), rawOf(e), 1, 9, e)
			wantState(t, "P12.1: Set that fails", s, bad(holding(mode, 4, "abcd")))
			r := rawOf(3, e)
			s = set(t, ended(holding(mode, 4, "abcd")), r, 1, 9, e)
			wantState(t, "P12.1: Set that fails behind a part", s, bad(ended(holding(mode, 4, "d"))))
			wantCalls(t, r, "abcd", "d")
			// Bad stays, be it that the rest is delivered.
			wantState(t, "P12.1: Set of the rest", set(t, s, r, 3, 9, api.OK), bad(ended(holding(3, 9, ""))))
		}
		for _, n := range []int{-1, 5} {
			s := set(t, holding(mode, 4, "abcd"), rawOf(n), 1, 9, api.ErrRaw)
			wantState(t, "P12.1: Set over a wrong Raw", s, bad(holding(mode, 4, "abcd")))
		}
		tries := make([]any, api.MaxTries)
		for i := range tries {
			tries[i] = []any{api.ErrIntr, api.ErrAgain, 0}[i%3]
		}
		s := set(t, holding(mode, 4, "abcd"), rawOf(tries...), 1, 9, api.ErrTries)
		wantState(t, "P12.1: Set that is tried too often", s, bad(holding(mode, 4, "abcd")))
	}
}

// TestSetTriesAgain: interrupted and short writes are not seen (P12.1).
func TestSetTriesAgain(t *testing.T) {
	r := rawOf(api.ErrIntr, 1, api.ErrAgain, 0, 2)
	wantState(t, "P12.1: Set", set(t, holding(3, 4, "abcd"), r, 2, 1, api.OK), holding(2, 1, ""))
	wantCalls(t, r, "abcd", "abcd", "bcd", "bcd", "bcd", "d")
	if r.taken != "abcd" {
		t.Errorf("P12.1: Set: %q was taken", r.taken)
	}
}

// TestSetWrongRaws: a Raw that is not nil is asked only if something is held; then its error is told and sets Bad (P12.1).
func TestSetWrongRaws(t *testing.T) {
	reader, _ := memory.NewReader([]byte("abc"))
	for _, c := range []struct {
		r retry.Raw
		e api.Errno
	}{
		{reader, api.ErrMode},
		{(*memory.Fixed)(nil), api.ErrMade},
		{&memory.Growing{}, api.ErrMade},
		{&memory.Custom{}, api.ErrMade},
	} {
		wantState(t, "P12.1: Set", set(t, holding(3, 4, ""), c.r, 2, 5, api.OK), holding(2, 5, ""))
		wantState(t, "P12.1: Set", set(t, got(3, 4, "in", "b"), c.r, 2, 5, api.OK), got(2, 5, "in", "b"))
		wantState(t, "P12.1: Set", set(t, holding(3, 4, "ab"), c.r, 2, 5, c.e), bad(holding(3, 4, "ab")))
	}
}

// mayBe is the chapter's list of what holds of a state, one by one.
func mayBe(s stream.State) bool {
	for _, broken := range []bool{
		s.Mode < 1 || s.Mode > 3,
		s.Size < 1 || s.Size > 65536,
		len(s.Out) > s.Size || s.Mode == 1 && len(s.Out) > 0,
		len(s.In) > 65536,
		len(s.Back) > 8,
		s.Dir < 0 || s.Dir > 2,
		s.Dir == 1 && !s.Reads,
		s.Dir == 2 && !s.Writes,
		len(s.Out) != 0 && s.Dir != 2,
		len(s.In) != 0 && s.Dir != 1,
		len(s.Back) != 0 && s.Dir != 1,
		s.Closed && s.Dir != 0,
	} {
		if broken {
			return false
		}
	}
	return true
}

// manyStates hands out states of all kinds, those that may be and others.
func manyStates(yield func(stream.State) bool) {
	lists := [][]byte{nil, []byte("a"), []byte("abc")}
	backs := [][]byte{nil, []byte("12345678"), []byte("123456789")}
	for bits := range 32 {
		on := func(i int) bool { return bits>>i&1 == 1 }
		s := stream.State{Reads: on(0), Writes: on(1), End: on(2), Bad: on(3), Closed: on(4)}
		for s.Mode = range 5 {
			for _, s.Size = range []int{0, 1, 2, api.MaxBuf, api.MaxBuf + 1} {
				for s.Dir = -1; s.Dir <= 3; s.Dir++ {
					for _, s.Out = range lists {
						for _, s.In = range lists[:2] {
							for _, s.Back = range backs {
								if !yield(s) {
									return
								}
							}
						}
					}
				}
			}
		}
	}
}

// refusalWanted is the first error that the chapter names for Set, in its order.
func refusalWanted(s stream.State, r retry.Raw, mode, size int) api.Errno {
	for _, c := range []struct {
		holds bool
		e     api.Errno
	}{
		{!mayBe(s), api.ErrState},
		{r == nil, api.ErrMade},
		{s.Closed, api.ErrClosed},
		{mode < 1 || mode > 3, api.ErrArg},
		{size < 1 || size > 65536, api.ErrRange},
	} {
		if c.holds {
			return c.e
		}
	}
	return api.OK
}

// buffersGiven are modes and sizes, right and wrong ones.
var buffersGiven = []struct{ mode, size int }{{0, 0}, {0, 1}, {1, 0}, {1, 1}, {3, api.MaxBuf}, {3, api.MaxBuf + 1}, {4, api.MaxBuf}, {4, api.MaxBuf + 1}}

// TestSetRefusals: in each kind of state Set is refused by the error that is named first, and then the state is the one handed in and there is no raw call (P12.1).
func TestSetRefusals(t *testing.T) {
	seen := map[api.Errno]int{}
	for s := range manyStates {
		for _, b := range buffersGiven {
			for _, raw := range []*scripted{nil, rawOf()} {
				var r retry.Raw
				if raw != nil {
					r = raw
				}
				want := refusalWanted(s, r, b.mode, b.size)
				seen[want]++
				after, e := Set(s, r, b.mode, b.size)
				wanted := s
				if want == api.OK {
					wanted.Mode, wanted.Size, wanted.Out = b.mode, b.size, nil
				}
				if e != want || !same(after, wanted) {
					t.Fatalf("P12.1: Set %d, %d, %s: %s, %d, not %s, %d", b.mode, b.size, show(s), show(after), e, show(wanted), want)
				}
				if e != api.OK && raw != nil && len(raw.calls)+raw.seeks > 0 {
					t.Fatalf("P5: Set %d, %d, %s: %d and yet the raw calls %q", b.mode, b.size, show(s), e, raw.calls)
				}
			}
		}
	}
	if len(seen) != 6 {
		t.Errorf("not all refusals were met: %v", seen)
	}
}

// TestSetNumbers: modes and sizes of any number (P12.1).
func TestSetNumbers(t *testing.T) {
	for _, s := range []stream.State{both(3, 4), holding(2, 4, "ab"), got(1, 4, "in", "b")} {
		r := rawOf()
		for _, mode := range wrongModes {
			for _, size := range append([]int{1, api.MaxBuf}, wrongSizes...) {
				wantState(t, "P12.1: Set", set(t, s, r, mode, size, api.ErrArg), s)
			}
		}
		for mode := 1; mode <= 3; mode++ {
			for _, size := range wrongSizes {
				wantState(t, "P12.1: Set", set(t, s, r, mode, size, api.ErrRange), s)
			}
		}
		wantCalls(t, r)
	}
}

// TestSetClosed: whatever it was open for (P12.1).
func TestSetClosed(t *testing.T) {
	for _, s := range []stream.State{both(3, 2), {Reads: true, Mode: 1, Size: 1}, {Writes: true, Mode: 2, Size: 9}, {Mode: 3, Size: 2}, ended(bad(both(2, 2)))} {
		r := rawOf()
		s := closed(t, s, r)
		wantState(t, "P12.1: Set", set(t, s, r, 1, 1, api.ErrClosed), s)
		wantState(t, "P12.1: Set", set(t, s, nil, 1, 1, api.ErrMade), s)
		wantState(t, "P12.1: Set", set(t, s, r, 0, 0, api.ErrClosed), s)
		wantCalls(t, r)
	}
}

// TestSetPanics: a custom stream's own panic goes through, and nothing that was handed in is changed (P1).
func TestSetPanics(t *testing.T) {
	c, _ := memory.NewCustom(nil, []int{-2})
	s := holding(3, 4, "ab")
	told := func() (told string) {
		defer func() { told = fmt.Sprint(recover()) }()
		Set(s, c, 1, 1)
		return ""
	}()
	if told == "<nil>" {
		t.Error("P1: Set over a custom stream that panics: no panic")
	}
	wantState(t, "P12.5: Set", s, holding(3, 4, "ab"))
	wantState(t, "P12.1: Set", set(t, s, c, 1, 1, api.OK), holding(1, 1, ""))
	if string(c.Taken()) != "ab" {
		t.Errorf("P12.1: Set: %q was taken", c.Taken())
	}
}
