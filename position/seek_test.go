package position

import (
	"math"
	"math/big"
	"testing"

	"millrace/api"
	"millrace/memory"
	"millrace/retry"
	"millrace/stream"
)

// TestSeekOutright: from the beginning and the end the Raw is asked for just that; behind it nothing is held, End is false, Dir is 0, all else stays (P14.1).
func TestSeekOutright(t *testing.T) {
	for s := range openStates {
		for _, whence := range []int{0, 2} {
			for _, off := range numbers {
				x := placedAt(3)
				want := off + []int{0, 0, 1000}[whence]
				after := seek(t, s, x, off, whence, want, api.OK)
				wantState(t, "P14.1: Seek", after, moveOf(s))
				wantCalls(t, x, s.Out, seekCall(off, whence))
				if x.taken != string(s.Out) {
					t.Errorf("P14.1: Seek, %s: %.20q was taken", show(s), x.taken)
				}
			}
		}
	}
}

// TestSeekFromPlace: an offset is counted from where Tell would be, edge by edge (P14.1).
func TestSeekFromPlace(t *testing.T) {
	for s := range openStates {
		ahead := len(s.In) + len(s.Back)
		for _, place := range []int{ahead, ahead + 5, api.MaxFile, ahead + api.MaxFile, 0, ahead - 1, -api.MaxFile} {
			told := place - ahead
			for _, to := range []int{0, 1, 5, api.MaxFile - 1, api.MaxFile} {
				x := placedAt(place)
				after := seek(t, s, x, to-told, 1, to, api.OK)
				wantState(t, "P14.1: Seek", after, moveOf(s))
				wantCalls(t, x, s.Out, seekCall(0, 1), seekCall(to, 0))
			}
			for _, to := range []int{-1, -2, api.MaxFile + 1, api.MaxFile + 2, -api.MaxFile, 1 << 32, -1 << 32} {
				wantRange(t, s, place, to-told)
			}
		}
	}
}

// wantRange seeks from a place to where none is: the state has all but what was delivered, and no place was set.
func wantRange(t *testing.T, s stream.State, place, off int) {
	t.Helper()
	x := placedAt(place)
	after := seek(t, s, x, off, 1, 0, api.ErrRange)
	wantState(t, "P14.1: Seek out of range", after, left(s, ""))
	wantCalls(t, x, s.Out, seekCall(0, 1))
	if x.place != place {
		t.Errorf("P4: Seek, %s: the raw place is %d, not %d", show(s), x.place, place)
	}
}

// TestSeekSums: whatever the Raw tells and the user asks for, the sum is not seen to wrap round (P14.1).
func TestSeekSums(t *testing.T) {
	for _, s := range []stream.State{both(3, 4), got(3, 4, "i", ""), got(3, 4, "in", "back"), holding(3, 4, "out")} {
		ahead := len(s.In) + len(s.Back)
		for _, place := range append([]int{math.MinInt + ahead, math.MinInt + ahead - 1, math.MaxInt - ahead}, numbers...) {
			for _, off := range append([]int{ahead, -ahead, ahead - place, ahead - place - 1, api.MaxFile + ahead - place, api.MaxFile + ahead - place + 1}, numbers...) {
				sum := big.NewInt(int64(place))
				sum.Sub(sum, big.NewInt(int64(ahead))).Add(sum, big.NewInt(int64(off)))
				if sum.Sign() < 0 || sum.Cmp(big.NewInt(api.MaxFile)) > 0 {
					wantRange(t, s, place, off)
					continue
				}
				after := seek(t, s, placedAt(place), off, 1, int(sum.Int64()), api.OK)
				wantState(t, "P14.1: Seek", after, moveOf(s))
			}
		}
	}
}

// TestSeekFromBelow: from a Tell's place that is below 0 a Seek may come to a place all the same (P14.1).
func TestSeekFromBelow(t *testing.T) {
	begin := func() (stream.State, *memory.Growing) {
		g, _ := memory.NewGrowing([]byte("hello"))
		s := unget(t, get(t, both(3, 4), g, "h"), "1234")
		return tell(t, s, g, 0, api.ErrRange), g
	}
	for off := range 8 {
		s, g := begin()
		if off < 3 {
			s = seek(t, s, g, off, 1, 0, api.ErrRange)
			get(t, s, g, "1234ello")
			continue
		}
		s = seek(t, s, g, off, 1, off-3, api.OK)
		s = tell(t, s, g, off-3, api.OK)
		getEnd(t, get(t, s, g, "hello"[off-3:]), g)
	}
	s, g := begin()
	seek(t, s, g, api.MaxFile+3, 1, api.MaxFile, api.OK)
	s, g = begin()
	seek(t, s, g, api.MaxFile+4, 1, 0, api.ErrRange)
}

// TestSeekAnswers: the place that is told is the one that the Raw tells (P14.1).
func TestSeekAnswers(t *testing.T) {
	for _, n := range numbers {
		s := got(3, 4, "in", "back")
		wantState(t, "P14.1: Seek", seek(t, s, seeksOf(answer{n: n}), 1, 0, n, api.OK), moveOf(s))
		wantState(t, "P14.1: Seek", seek(t, s, seeksOf(answer{n: n}), 1, 2, n, api.OK), moveOf(s))
		wantState(t, "P14.1: Seek", seek(t, s, seeksOf(answer{n: 9}, answer{n: n}), 1, 1, n, api.OK), moveOf(s))
	}
}

// TestSeekFails: the Raw's error is told as it is, with no place beside it; what was put is delivered, all else stays, and Bad is not set (P14.1, P14.2).
func TestSeekFails(t *testing.T) {
	for s := range openStates {
		ahead := len(s.In) + len(s.Back)
		for _, e := range append([]api.Errno{api.ErrBlock, api.ErrIntr, api.ErrAgain}, rawErrors...) {
			for _, whence := range []int{0, 2} {
				x := seeksOf(answer{3, e})
				wantState(t, "P14.1: Seek that fails", seek(t, s, x, 4, whence, 0, e), left(s, ""))
				wantCalls(t, x, s.Out, seekCall(4, whence))
			}
			x := seeksOf(answer{3, e})
			wantState(t, "P14.1: Seek that fails", seek(t, s, x, 4, 1, 0, e), left(s, ""))
			wantCalls(t, x, s.Out, seekCall(0, 1))
			// That error goes ahead of a place that may not be.
			x = seeksOf(answer{3, e})
			wantState(t, "P14.1: Seek that fails", seek(t, s, x, math.MinInt, 1, 0, e), left(s, ""))
			wantCalls(t, x, s.Out, seekCall(0, 1))
			x = seeksOf(answer{n: ahead}, answer{3, e})
			wantState(t, "P14.1: Seek that fails", seek(t, s, x, 4, 1, 0, e), left(s, ""))
			wantCalls(t, x, s.Out, seekCall(0, 1), seekCall(4, 0))
			x = seeksOf(answer{3, e})
			wantState(t, "P14.2: Rewind that fails", rewind(t, s, x, e), left(s, ""))
			wantCalls(t, x, s.Out, seekCall(0, 0))
		}
	}
}

// TestRewind: a Seek to the beginning, which takes Bad away (P14.2).
func TestRewind(t *testing.T) {
	for s := range openStates {
		x := placedAt(77)
		after := rewind(t, s, x, api.OK)
		wantState(t, "P14.2: Rewind", after, with(moveOf(s), func(s *stream.State) { s.Bad = false }))
		wantCalls(t, x, s.Out, seekCall(0, 0))
		if x.place != 0 || x.taken != string(s.Out) {
			t.Errorf("P14.2: Rewind, %s: the raw place is %d, %.20q was taken", show(s), x.place, x.taken)
		}
	}
}

// TestRewindBad: Bad is gone behind a Rewind that is OK, stays behind one that is not, and behind a Seek (P14.2).
func TestRewindBad(t *testing.T) {
	f, _ := memory.NewFixed(3, nil)
	s := put(t, both(3, 4), f, "abc")
	s, e := stream.Put(s, f, 'd')
	if e != api.ErrFull || !s.Bad {
		t.Fatalf("Put into a full Raw: %d, %s", e, show(s))
	}
	s = rewind(t, s, f, api.ErrFull)
	wantState(t, "P14.2: Rewind", s, bad(holding(3, 4, "d")))
	// Behind the end of the room there is no more of it: what is left is put elsewhere.
	s = seek(t, left(s, ""), f, 1, 0, 1, api.OK)
	wantState(t, "P14.1: Seek", s, bad(both(3, 4)))
	s = rewind(t, s, f, api.OK)
	wantState(t, "P14.2: Rewind", s, both(3, 4))
	get(t, s, f, "abc")
}

// TestNothingHeld: what was pushed back and read is gone behind a Seek, the end is not met any more, and either way may be gone (P14.1).
func TestNothingHeld(t *testing.T) {
	for mode := 1; mode <= 3; mode++ {
		g, _ := memory.NewGrowing([]byte("hello"))
		s := unget(t, get(t, both(mode, 4), g, "he"), "xy")
		s = seek(t, s, g, 2, 0, 2, api.OK)
		s = getEnd(t, get(t, s, g, "llo"), g)
		s = seek(t, s, g, -1, 2, 4, api.OK)
		s = put(t, s, g, "p!")
		s = seek(t, s, g, -6, 1, 0, api.OK)
		s = getEnd(t, get(t, s, g, "hellp!"), g)
		s = rewind(t, s, g, api.OK)
		s = put(t, s, g, "H")
		s = rewind(t, s, g, api.OK)
		getEnd(t, get(t, s, g, "Hellp!"), g)
	}
}

// TestWhences: from 0 to 2 no other one, which makes no raw call and changes nothing (P14.1).
func TestWhences(t *testing.T) {
	for s := range openStates {
		for _, whence := range wrongWhences {
			for _, off := range []int{0, -1, math.MaxInt} {
				x := placedAt(50)
				wantState(t, "P14.1: Seek", seek(t, s, x, off, whence, 0, api.ErrArg), s)
				wantCalls(t, x, nil)
			}
		}
		for whence := range 3 {
			if _, _, e := Seek(s, placedAt(api.MaxBuf+8), 0, whence); e != api.OK {
				t.Errorf("P14.1: Seek(0, %d), %s: %d", whence, show(s), e)
			}
		}
	}
}

// mayBe is the list of chapter 11 of what holds of a state, one by one.
func mayBe(s stream.State) bool {
	for _, broken := range []bool{
		s.Mode < 1 || s.Mode > 3,
		s.Size < 1 || s.Size > 65536,
		len(s.Out) > s.Size || s.Mode == 1 && len(s.Out) > 0,
		len(s.In) > 65536,
		len(s.Back) > 8,
		s.Dir < 0 || s.Dir > 2,
		s.Dir == 1 && !s.Reads,
		s.Dir == 2 && !s.Writes,
		len(s.Out) != 0 && s.Dir != 2,
		len(s.In) != 0 && s.Dir != 1,
		len(s.Back) != 0 && s.Dir != 1,
		s.Closed && s.Dir != 0,
	} {
		if broken {
			return false
		}
	}
	return true
}

// manyStates hands out states of all kinds, those that may be and others.
func manyStates(yield func(stream.State) bool) {
	lists := [][]byte{nil, []byte("a"), []byte("abc")}
	backs := [][]byte{nil, []byte("12345678"), []byte("123456789")}
	for bits := range 32 {
		on := func(i int) bool { return bits>>i&1 == 1 }
		s := stream.State{Reads: on(0), Writes: on(1), End: on(2), Bad: on(3), Closed: on(4)}
		for s.Mode = range 5 {
			for _, s.Size = range []int{0, 1, 2, api.MaxBuf, api.MaxBuf + 1} {
				for s.Dir = -1; s.Dir <= 3; s.Dir++ {
					for _, s.Out = range lists {
						for _, s.In = range lists[:2] {
							for _, s.Back = range backs {
								if !yield(s) {
									return
								}
							}
						}
					}
				}
			}
		}
	}
}

// refusalWanted is the first error that the chapter names, in its order.
func refusalWanted(s stream.State, hasRaw bool, whence int) api.Errno {
	for _, c := range []struct {
		holds bool
		e     api.Errno
	}{
		{!mayBe(s), api.ErrState},
		{!hasRaw, api.ErrMade},
		{s.Closed, api.ErrClosed},
		{whence < 0 || whence > 2, api.ErrArg},
	} {
		if c.holds {
			return c.e
		}
	}
	return api.OK
}

// TestRefusals: in each kind of state, with a Raw and without, all calls are refused by the error that is named first, make no raw call then, and the state is the one handed in (P14.1, P14.2).
func TestRefusals(t *testing.T) {
	seen := map[api.Errno]int{}
	for s := range manyStates {
		for _, x := range []*scripted{nil, placedAt(20)} {
			for whence := -1; whence <= 3; whence++ {
				want, n := refusalWanted(s, x != nil, whence), 20
				follows := s
				if want == api.OK {
					follows = moveOf(s)
				} else {
					n = 0
				}
				seen[want]++
				if x != nil {
					*x = scripted{place: 20, size: 20}
				}
				after, at, e := Seek(s, rawOf(x), offTo20(s, whence), whence)
				if at != n || e != want || !same(after, follows) || want != api.OK && x != nil && len(x.calls) != 0 {
					t.Fatalf("P14.1: Seek from %d, %s: %s, %d, %d, not %s, %d, %d", whence, show(s), show(after), at, e, show(follows), n, want)
				}
			}
			wantRefused(t, s, x)
		}
	}
	if len(seen) != 5 {
		t.Errorf("not all refusals were met: %v", seen)
	}
}

// offTo20 is the offset by which a stream whose Raw is at 20, its end, comes to 20.
func offTo20(s stream.State, whence int) int {
	return map[int]int{0: 20, 1: len(s.In) + len(s.Back)}[whence]
}

// rawOf is no Raw where there is no scripted one.
func rawOf(x *scripted) retry.Raw {
	if x == nil {
		return nil
	}
	return x
}

// wantRefused holds Tell and Rewind against what is wanted of that state.
func wantRefused(t *testing.T, s stream.State, x *scripted) {
	t.Helper()
	want := refusalWanted(s, x != nil, 0)
	told, moved, n := s, s, 0
	if want == api.OK {
		told, moved, n = left(s, ""), moveOf(s), 20-len(s.In)-len(s.Back)
		moved.Bad = false
	}
	if x != nil {
		*x = scripted{place: 20, size: 20}
	}
	after, at, e := Tell(s, rawOf(x))
	if at != n || e != want || !same(after, told) {
		t.Fatalf("P14.1: Tell, %s: %s, %d, %d, not %s, %d, %d", show(s), show(after), at, e, show(told), n, want)
	}
	after, e = Rewind(s, rawOf(x))
	if e != want || !same(after, moved) || want != api.OK && x != nil && len(x.calls) != 0 {
		t.Fatalf("P14.2: Rewind, %s: %s, %d, not %s, %d", show(s), show(after), e, show(moved), want)
	}
}

// TestRefusedOneByOne: each error by itself, and the first of two; the state beside it is the one handed in (P14.1).
func TestRefusedOneByOne(t *testing.T) {
	for _, c := range []struct {
		s      stream.State
		r      retry.Raw
		whence int
		e      api.Errno
	}{
		{stream.State{}, placedAt(9), 0, api.ErrState},
		{got(3, 4, "in", "123456789"), placedAt(9), 0, api.ErrState},
		{got(3, 4, text(api.MaxBuf+1), ""), placedAt(9), 1, api.ErrState},
		{holding(3, 4, "abcde"), placedAt(9), 2, api.ErrState},
		{holding(1, 4, "a"), nil, 3, api.ErrState},
		{done(got(3, 4, "in", "")), nil, 3, api.ErrState},
		{with(holding(3, 4, "out"), func(s *stream.State) { s.In = []byte("in") }), placedAt(9), 0, api.ErrState},
		{both(3, 4), nil, 0, api.ErrMade},
		{holding(3, 4, "out"), nil, 1, api.ErrMade},
		{got(3, 4, "in", "back"), nil, 3, api.ErrMade},
		{done(both(3, 4)), nil, -1, api.ErrMade},
		{done(both(3, 4)), placedAt(9), 0, api.ErrClosed},
		{done(ended(bad(both(1, 1)))), placedAt(9), 1, api.ErrClosed},
		{done(stream.State{Mode: 1, Size: 1}), placedAt(9), -1, api.ErrClosed},
		{done(both(3, 4)), placedAt(9), 3, api.ErrClosed},
	} {
		wantState(t, "P14.1: Seek", seek(t, c.s, c.r, 0, c.whence, 0, c.e), c.s)
		wantState(t, "P14.1: Tell", tell(t, c.s, c.r, 0, c.e), c.s)
		wantState(t, "P14.2: Rewind", rewind(t, c.s, c.r, c.e), c.s)
		if x, ok := c.r.(*scripted); ok {
			wantCalls(t, x, nil)
		}
	}
}
