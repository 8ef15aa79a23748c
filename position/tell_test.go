package position

import (
	"math"
	"testing"

	"millrace/api"
	"millrace/memory"
	"millrace/retry"
	"millrace/stream"
)

// TestTell: in each Dir what is held to be delivered is, then the raw place less the bytes of In and Back is told; all else stays (P14.1).
func TestTell(t *testing.T) {
	for s := range openStates {
		ahead := len(s.In) + len(s.Back)
		for _, place := range []int{0, 1, 5, api.MaxFile, api.MaxFile + 1, 1 << 40, math.MaxInt - ahead} {
			x := placedAt(place + ahead)
			after := tell(t, s, x, place, api.OK)
			wantState(t, "P14.1: Tell", after, left(s, ""))
			wantCalls(t, x, s.Out, seekCall(0, 1))
			if x.taken != string(s.Out) {
				t.Errorf("P14.1: Tell, %s: %.20q was taken", show(s), x.taken)
			}
		}
	}
}

// TestTellBelow: just as many bytes as the raw place are 0, one more is ErrRange, and then the state has all but what was delivered (P14.1).
func TestTellBelow(t *testing.T) {
	for s := range openStates {
		ahead := len(s.In) + len(s.Back)
		wantState(t, "P14.1: Tell", tell(t, s, placedAt(ahead), 0, api.OK), left(s, ""))
		for _, place := range []int{ahead - 1, -1, -2, -api.MaxFile, math.MinInt, math.MinInt + 1, math.MinInt + ahead} {
			x := placedAt(place)
			after := tell(t, s, x, 0, api.ErrRange)
			wantState(t, "P14.1: Tell below 0", after, left(s, ""))
			wantCalls(t, x, s.Out, seekCall(0, 1))
		}
	}
}

// TestTellBelowFile: bytes that were pushed back ahead of a file's beginning (P14.1, P14.4).
func TestTellBelowFile(t *testing.T) {
	g, _ := memory.NewGrowing([]byte("hello"))
	s := get(t, both(3, 4), g, "he")
	s = tell(t, unget(t, s, "xy"), g, 0, api.OK)
	s = tell(t, unget(t, s, "z"), g, 0, api.ErrRange)
	s = tell(t, unget(t, s, "12345"), g, 0, api.ErrRange)
	s = get(t, s, g, "12345zxy")
	s = tell(t, s, g, 2, api.OK)
	get(t, s, g, "llo")
}

// TestTellFails: a raw seek's error is told as it is, also where a call might be tried again, with no place beside it; it sets nothing (P14.1).
func TestTellFails(t *testing.T) {
	for s := range openStates {
		for _, e := range append([]api.Errno{api.ErrBlock, api.ErrIntr, api.ErrAgain}, rawErrors...) {
			x := seeksOf(answer{5 + api.MaxBuf, e})
			after := tell(t, s, x, 0, e)
			wantState(t, "P14.1: Tell that fails", after, left(s, ""))
			wantCalls(t, x, s.Out, seekCall(0, 1))
		}
	}
}

// TestTellGoesOn: Tell holds nothing up: the stream goes on in its Dir, with what it holds (P14.1).
func TestTellGoesOn(t *testing.T) {
	for mode := 1; mode <= 3; mode++ {
		g, _ := memory.NewGrowing([]byte("hello"))
		s := tell(t, both(mode, 8), g, 0, api.OK)
		s = put(t, s, g, "ab")
		s = tell(t, s, g, 2, api.OK)
		if string(g.Bytes()) != "abllo" {
			t.Errorf("P14.1: Tell: the Raw has %q", g.Bytes())
		}
		if _, _, e := stream.Get(s, g); e != api.ErrDir {
			t.Errorf("P14.1: Get behind Put and Tell: %d", e)
		}
		s = tell(t, put(t, s, g, "c"), g, 3, api.OK)
		s, _ = stream.Flush(s, g)
		s = tell(t, get(t, s, g, "l"), g, 4, api.OK)
		if _, e := stream.Put(s, g, '!'); e != api.ErrDir {
			t.Errorf("P14.1: Put behind Get and Tell: %d", e)
		}
		s = getEnd(t, get(t, s, g, "o"), g)
		s = tell(t, s, g, 5, api.OK)
		if !s.End {
			t.Error("P14.1: Tell took the end away")
		}
	}
}

// TestTellWrites: what was interrupted and short is gone on with, ahead of the seek (P14.1).
func TestTellWrites(t *testing.T) {
	x := writesOf(answer{e: api.ErrIntr}, answer{n: 1}, answer{e: api.ErrAgain}, answer{}, answer{n: 2})
	wantState(t, "P14.1: Tell", tell(t, holding(3, 4, "abcd"), x, 100, api.OK), holding(3, 4, ""))
	wantCalls(t, x, nil, "write abcd", "write abcd", "write bcd", "write bcd", "write bcd", "write d", seekCall(0, 1))
}

// TestDeliveryFails: where what is held is not delivered whole no call asks for a place or sets one; what was taken is gone, Bad is set but by ErrBlock (P14.1, P14.2).
func TestDeliveryFails(t *testing.T) {
	for name, call := range calls {
		for _, mode := range []int{2, 3} {
			for _, s := range []stream.State{holding(mode, 4, "abcd"), ended(holding(mode, 9, "abcd")), bad(holding(mode, 9, "abcd"))} {
				for _, e := range append([]api.Errno{api.ErrBlock}, rawErrors...) {
					want := bad(s)
					if e == api.ErrBlock {
						want = s
					}
					x := writesOf(answer{e: e})
					after, n, told := call(s, x)
					if n != 0 || told != e {
						t.Errorf("P14.1: %s, %s: %d, %d, not 0, %d", name, show(s), n, told, e)
					}
					wantState(t, "P14.1: "+name+" that is not delivered", after, want)
					wantCalls(t, x, nil, "write abcd")

					x = writesOf(answer{n: 1}, answer{n: 2}, answer{e: e})
					after, n, told = call(s, x)
					if n != 0 || told != e {
						t.Errorf("P14.1: %s, %s: %d, %d, not 0, %d", name, show(s), n, told, e)
					}
					wantState(t, "P14.1: "+name+" that is delivered in part", after, left(want, "d"))
					wantCalls(t, x, nil, "write abcd", "write bcd", "write d")
				}
			}
		}
	}
}

// TestDeliveryAgain: what was left is delivered once by the next call, and Bad stays, but for Rewind (P14.1, P14.2).
func TestDeliveryAgain(t *testing.T) {
	for name, call := range calls {
		x := writesOf(answer{n: 3}, answer{e: api.ErrFull})
		s, _, e := call(holding(3, 4, "abcd"), x)
		if e != api.ErrFull {
			t.Errorf("P14.1: %s: %d", name, e)
		}
		s, _, e = call(s, x)
		if e != api.OK || x.taken != "abcd" || len(s.Out) != 0 || s.Bad != (name != "Rewind") {
			t.Errorf("P14.1: %s again: %d, %q was taken, %s", name, e, x.taken, show(s))
		}
	}
}

// TestDeliveryWrong: a Raw that answers what may not be, and one that is tried too often (P14.1).
func TestDeliveryWrong(t *testing.T) {
	tries := make([]answer, api.MaxTries)
	for i := range tries {
		tries[i] = []answer{{e: api.ErrIntr}, {e: api.ErrAgain}, {}}[i%3]
	}
	for name, call := range calls {
		for _, c := range []struct {
			answers []answer
			e       api.Errno
		}{
			{[]answer{{n: -1}}, api.ErrRaw},
			{[]answer{{n: 5}}, api.ErrRaw},
			{tries, api.ErrTries},
		} {
			after, n, e := call(holding(3, 4, "abcd"), writesOf(c.answers...))
			if n != 0 || e != c.e {
				t.Errorf("P14.1: %s: %d, %d, not 0, %d", name, n, e, c.e)
			}
			wantState(t, "P14.1: "+name, after, bad(holding(3, 4, "abcd")))
		}
	}
}

// TestWrongRaws: a Raw that is not nil and that no call made tells so itself: its write sets Bad, its seek does not (P14.1, P1).
func TestWrongRaws(t *testing.T) {
	for _, r := range []retry.Raw{(*memory.Fixed)(nil), &memory.Fixed{}, (*memory.Growing)(nil), &memory.Growing{}, (*memory.Custom)(nil), &memory.Custom{}} {
		for name, call := range calls {
			for s := range openStates {
				want := s
				if len(s.Out) > 0 {
					want = bad(s)
				}
				after, n, e := call(s, r)
				if n != 0 || e != api.ErrMade {
					t.Fatalf("P14.1: %s, %s: %d, %d", name, show(s), n, e)
				}
				wantState(t, "P14.1: "+name, after, want)
			}
		}
	}
}

// TestPanics: a custom stream's panic comes through, and the state that was handed in is as it was (P1, P14.6).
func TestPanics(t *testing.T) {
	for name, call := range calls {
		c, _ := memory.NewCustom(nil, []int{-2})
		s := holding(3, 4, "ab")
		if !panics(func() { call(s, c) }) {
			t.Errorf("P1: %s over a custom stream that panics: no panic", name)
		}
		wantState(t, "P14.6: "+name, s, holding(3, 4, "ab"))
		after, _, e := call(s, c)
		if e != api.ErrSeek || string(c.Taken()) != "ab" {
			t.Errorf("P14.1: %s: %d, %q was taken", name, e, c.Taken())
		}
		wantState(t, "P14.1: "+name, after, holding(3, 4, ""))
	}
}

func panics(f func()) (did bool) {
	defer func() { did = recover() != nil }()
	f()
	return false
}
