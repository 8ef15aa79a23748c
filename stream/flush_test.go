package stream

import (
	"testing"

	"millrace/api"
)

// done is that state, closed.
func done(s State) State { return with(s, func(s *State) { s.Closed = true }) }

// TestFlush: in Dir 2 what is held is delivered, and the way is none; else nothing (P11.4).
func TestFlush(t *testing.T) {
	r := rawOf()
	for mode := 1; mode <= 3; mode++ {
		for _, s := range []State{both(mode, 4), ended(both(mode, 4)), got(mode, 4, "", ""), ended(got(mode, 4, "", "")), bad(got(mode, 4, "in", "back")), {Mode: mode, Size: 4}} {
			wantState(t, "P11.4: Flush", flush(t, s, r, api.OK), s)
			wantCalls(t, r)
		}
		for _, s := range []State{holding(mode, 4, ""), ended(bad(holding(mode, 4, "")))} {
			wantState(t, "P11.4: Flush", flush(t, s, r, api.OK), with(s, func(s *State) { s.Dir = noWay }))
			wantCalls(t, r)
		}
	}
	for _, mode := range []int{2, 3} {
		for _, held := range []string{"a", "abc", "abcd"} {
			wantState(t, "P11.4: Flush", flush(t, holding(mode, 4, held), r, api.OK), both(mode, 4))
			wantCalls(t, r, held)
		}
		s := flush(t, ended(bad(holding(mode, 4, "ab"))), r, api.OK)
		wantState(t, "P11.4: Flush", s, ended(bad(both(mode, 4))))
		wantCalls(t, r, "ab")
	}
}

// TestFlushFails: what was not taken is held, and the way stays (P11.4).
func TestFlushFails(t *testing.T) {
	for _, mode := range []int{2, 3} {
		r := rawOf(api.ErrBlock)
		s := flush(t, holding(mode, 4, "abcd"), r, api.ErrBlock)
		wantState(t, "P11.4: Flush that is blocked", s, holding(mode, 4, "abcd"))
		s = flush(t, bad(s), rawOf(api.ErrBlock), api.ErrBlock)
		wantState(t, "P11.4: Flush that is blocked", s, bad(holding(mode, 4, "abcd")))
		r = rawOf(3, api.ErrBlock)
		s = flush(t, holding(mode, 4, "abcd"), r, api.ErrBlock)
		wantState(t, "P11.4: Flush of a part", s, holding(mode, 4, "d"))
		wantCalls(t, r, "abcd", "d")
		s = flush(t, s, r, api.OK)
		wantState(t, "P11.4: Flush of the rest", s, both(mode, 4))
		wantCalls(t, r, "d")
		r = rawOf(api.ErrPipe)
		s = flush(t, holding(mode, 4, "abcd"), r, api.ErrPipe)
		wantState(t, "P11.4: Flush that fails", s, bad(holding(mode, 4, "abcd")))
		r = rawOf(1, 2, api.ErrFull)
		s = flush(t, holding(mode, 4, "abcd"), r, api.ErrFull)
		wantState(t, "P11.4: Flush of a part that fails", s, bad(holding(mode, 4, "d")))
		wantCalls(t, r, "abcd", "bcd", "d")
		// Bad stays, be it that the rest is delivered.
		wantState(t, "P11.4: Flush of the rest", flush(t, s, r, api.OK), bad(both(mode, 4)))
	}
}

// TestFlushGoesOn: interrupted and short writes are not seen (P11.4).
func TestFlushGoesOn(t *testing.T) {
	r := rawOf(api.ErrIntr, 1, api.ErrAgain, 0, 2)
	wantState(t, "P11.4: Flush", flush(t, holding(3, 4, "abcd"), r, api.OK), both(3, 4))
	wantCalls(t, r, "abcd", "abcd", "bcd", "bcd", "bcd", "d")
	if r.taken != "abcd" {
		t.Errorf("P11.5: Flush: %q was taken", r.taken)
	}
}

// TestClear: the marks alone, in each way (P11.4).
func TestClear(t *testing.T) {
	for mode := 1; mode <= 3; mode++ {
		states := []State{both(mode, 4), got(mode, 4, "in", "back"), holding(mode, 4, ""), {Mode: mode, Size: 1}}
		if mode != unbuffered {
			states = append(states, holding(mode, 4, "abcd"))
		}
		for _, s := range states {
			for _, marked := range []State{s, ended(s), bad(s), ended(bad(s))} {
				wantState(t, "P11.4: Clear", clearMarks(t, marked, api.OK), s)
			}
		}
	}
	s := done(ended(bad(both(3, 4))))
	wantState(t, "P11.4: Clear", clearMarks(t, s, api.ErrClosed), s)
}

// TestClose: what is held is delivered, what was read is gone, the marks stay (P11.4).
func TestClose(t *testing.T) {
	for mode := 1; mode <= 3; mode++ {
		r := rawOf()
		for _, s := range []State{both(mode, 4), got(mode, 4, "", ""), got(mode, 4, "in", "back"), got(mode, 4, "", "b"), holding(mode, 4, "")} {
			wantState(t, "P11.4: Close", closed(t, s, r, api.OK), done(both(mode, 4)))
			wantState(t, "P11.4: Close", closed(t, ended(bad(s)), r, api.OK), done(ended(bad(both(mode, 4)))))
		}
		wantCalls(t, r)
		for _, s := range []State{{Reads: true, Mode: mode, Size: 4}, {Writes: true, Mode: mode, Size: 4}, {Mode: mode, Size: 4}} {
			wantState(t, "P11.4: Close", closed(t, s, r, api.OK), done(s))
		}
	}
	for _, mode := range []int{2, 3} {
		for _, held := range []string{"a", "abc", "abcd"} {
			r := rawOf()
			wantState(t, "P11.4: Close", closed(t, holding(mode, 4, held), r, api.OK), done(both(mode, 4)))
			wantCalls(t, r, held)
		}
	}
}

// TestCloseFails: it is closed all the same, and what was not delivered is lost (P11.4).
func TestCloseFails(t *testing.T) {
	for _, mode := range []int{2, 3} {
		r := rawOf(1, api.ErrCustom)
		s := closed(t, holding(mode, 4, "abcd"), r, api.ErrCustom)
		wantState(t, "P11.4: Close", s, done(bad(both(mode, 4))))
		wantCalls(t, r, "abcd", "bcd")
		r = rawOf(3, api.ErrBlock)
		s = closed(t, ended(holding(mode, 4, "abcd")), r, api.ErrBlock)
		wantState(t, "P11.4: Close", s, done(ended(both(mode, 4))))
		wantCalls(t, r, "abcd", "d")
		s = closed(t, bad(holding(mode, 4, "abcd")), rawOf(api.ErrBlock), api.ErrBlock)
		wantState(t, "P11.4: Close", s, done(bad(both(mode, 4))))
	}
}

// TestClosed: all calls on a closed one are refused, whatever it was open for (P11.2).
func TestClosed(t *testing.T) {
	for _, open := range []State{both(3, 2), {Reads: true, Mode: 1, Size: 1}, {Writes: true, Mode: 2, Size: 9}, {Mode: 3, Size: 2}, ended(bad(both(2, 2)))} {
		s := closed(t, open, rawOf(), api.OK)
		for _, call := range calls {
			r := rawOf("a")
			after, e := callOf(call, s, r)
			if e != api.ErrClosed {
				t.Errorf("P11.2: %s, %s: %d", call, show(s), e)
			}
			wantState(t, "P11.2: "+call, after, s)
			wantCalls(t, r)
		}
	}
}
