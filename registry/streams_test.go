package registry

import (
	"math"
	"testing"

	"millrace/api"
	"millrace/kern"
	"millrace/memory"
	"millrace/retry"
	"millrace/stream"
)

// TestNew: one without streams, each of them one of its own (P19.1).
func TestNew(t *testing.T) {
	g, h := New(), New()
	wantOpen(t, "P19.1: New", g)
	if g.Ended() {
		t.Error("P19.1: New: it ended")
	}
	l := &log{}
	if id := add(t, g, both(3, 9), l.raw("a")); id != 0 {
		t.Errorf("P19.1: the first number is %d", id)
	}
	wantOpen(t, "P19.1: Add", g, 0)
	wantOpen(t, "P19.1: Add to another", h)
	wantError(t, "P19.1: Flush of another's stream", h.Flush(0), api.ErrStream)
	wantExit(t, "P19.3: Exit", h, 1)
	if g.Ended() {
		t.Error("P19.3: another ended")
	}
}

// calls make each call that asks for a stream, and answer its error; beside that the other answers must be none.
var calls = map[string]func(t *testing.T, g *Registry, id int) api.Errno{
	"State": func(t *testing.T, g *Registry, id int) api.Errno {
		s, e := g.State(id)
		if e != api.OK && !same(s, stream.State{}) {
			t.Errorf("P4: State(%d): %s beside %d", id, show(s), e)
		}
		return e
	},
	"Swap": func(t *testing.T, g *Registry, id int) api.Errno { return g.Swap(id, both(2, 7)) },
	"Raw": func(t *testing.T, g *Registry, id int) api.Errno {
		r, e := g.Raw(id)
		if (r == nil) != (e != api.OK) {
			t.Errorf("P4: Raw(%d): %v beside %d", id, r, e)
		}
		return e
	},
	"Put": func(t *testing.T, g *Registry, id int) api.Errno {
		n, e := g.Put(id, []byte("p"))
		if e != api.OK && n != 0 {
			t.Errorf("P4: Put(%d): %d beside %d", id, n, e)
		}
		return e
	},
	"Get": func(t *testing.T, g *Registry, id int) api.Errno {
		c, e := g.Get(id)
		if e != api.OK && c != 0 {
			t.Errorf("P4: Get(%d): %d beside %d", id, c, e)
		}
		return e
	},
	"Line": func(t *testing.T, g *Registry, id int) api.Errno {
		b, e := g.Line(id, 9)
		if e != api.OK && len(b) != 0 {
			t.Errorf("P4: Line(%d): %q beside %d", id, b, e)
		}
		return e
	},
	"Flush": func(t *testing.T, g *Registry, id int) api.Errno { return g.Flush(id) },
	"Close": func(t *testing.T, g *Registry, id int) api.Errno { return g.Close(id) },
}

// TestNoSuchStream: numbers that no open stream has are refused by each call, whatever else is wrong, and nothing is changed (P19.1, P19.2).
func TestNoSuchStream(t *testing.T) {
	for name, call := range calls {
		l := &log{}
		g := New()
		for _, id := range []int{0, -1, 1, math.MaxInt, math.MinInt} {
			wantError(t, "P19.1: "+name+" where there is no stream", call(t, g, id), api.ErrStream)
		}
		for range 3 {
			add(t, g, holding(3, 9, "out"), l.raw("x"))
		}
		g.Close(1)
		wantCalls(t, "P19.2: Close", l, "x writes out")
		for _, id := range []int{-1, 1, 3, 64, math.MaxInt, math.MinInt} {
			wantError(t, "P19.1: "+name, call(t, g, id), api.ErrStream)
		}
		wantCalls(t, "P19.1: "+name, l)
		wantOpen(t, "P19.1: "+name, g, 0, 2)
		wantState(t, "P19.1: "+name, g, 0, holding(3, 9, "out"))
		wantState(t, "P19.1: "+name, g, 2, holding(3, 9, "out"))
		wantExit(t, "P19.3: Exit", g, 0, streamNote(0, api.OK), streamNote(2, api.OK))
		for _, id := range []int{0, 1, 2, 3} {
			wantError(t, "P19.1: "+name+" behind the end", call(t, g, id), api.ErrStream)
		}
	}
	g := New()
	wantError(t, "P4: Swap of none, wrong state", g.Swap(0, stream.State{}), api.ErrStream)
	wantPut(t, "P4: Put of none, too long", g, 0, letters(api.MaxFile+1), 0, api.ErrStream)
	wantLine(t, "P4: Line of none, no limit", g, 0, 0, "", api.ErrStream)
}

// TestNotMade: of a registry that no New made, all calls are ErrMade ahead of all else, and nothing is open (P19.1, P19.3).
func TestNotMade(t *testing.T) {
	for _, g := range []*Registry{nil, {}} {
		for name, call := range calls {
			wantError(t, "P19.1: "+name, call(t, g, 0), api.ErrMade)
			wantError(t, "P19.1: "+name, call(t, g, -1), api.ErrMade)
		}
		wantError(t, "P19.1: Add", adding(t, g, both(3, 9), (&log{}).raw("a")), api.ErrMade)
		wantError(t, "P19.1: Add", adding(t, g, stream.State{}, nil), api.ErrMade)
		wantError(t, "P19.1: FlushAll", g.FlushAll(), api.ErrMade)
		for _, h := range []Hook{{Kind: 2}, {Kind: 0}, {Kind: 1, Text: make([]byte, api.MaxLine+1)}} {
			wantError(t, "P19.1: AtExit", g.AtExit(h), api.ErrMade)
		}
		if code, notes, e := g.Exit(3); code != 0 || len(notes) != 0 || e != api.ErrMade {
			t.Errorf("P19.1: Exit: %d, %v, %d", code, notes, e)
		}
		if g.Ended() || len(g.Open()) != 0 {
			t.Errorf("P19.3: Ended %t, Open %v", g.Ended(), g.Open())
		}
	}
}

// TestAdd: states of all kinds are added as they are, and told so (P19.1).
func TestAdd(t *testing.T) {
	g, l := New(), &log{}
	for want, s := range goodStates {
		r := l.raw("a")
		id := added(t, g, s, r, want%2 == 1)
		if id != want {
			t.Errorf("P19.1: the number is %d, not %d", id, want)
		}
		wantState(t, "P19.1: State", g, id, s)
		if x, e := g.Raw(id); x != retry.Raw(r) || e != api.OK {
			t.Errorf("P19.1: Raw(%d): %v, %d", id, x, e)
		}
	}
	for id, s := range goodStates {
		wantState(t, "P19.1: State", g, id, s)
	}
	wantCalls(t, "P19.1: Add, State, Raw", l)
}

// TestAddRefuses: each error, ahead of those that are named behind it; nothing is changed (P19.1).
func TestAddRefuses(t *testing.T) {
	g, l := New(), &log{}
	r := l.raw("a")
	for i := range api.MaxStreams {
		for _, s := range wrongStates {
			wantError(t, "P19.1: Add of "+show(s), adding(t, g, s, r), api.ErrState)
			wantError(t, "P4: Add of no Raw, "+show(s), adding(t, g, s, nil), api.ErrState)
		}
		wantError(t, "P19.1: Add of no Raw", adding(t, g, both(3, 9), nil), api.ErrMade)
		wantError(t, "P4: Add of no Raw, closed", adding(t, g, done(both(3, 9)), nil), api.ErrMade)
		wantError(t, "P19.1: Add of a closed one", adding(t, g, done(bad(ended(both(3, 9)))), r), api.ErrClosed)
		if id := add(t, g, both(3, 9), r); id != i {
			t.Errorf("P19.1: the number is %d, not %d", id, i)
		}
	}
	wantError(t, "P19.1: Add of one more", adding(t, g, both(3, 9), r), api.ErrCount)
	wantError(t, "P4: Add of one more, wrong", adding(t, g, wrongStates[0], r), api.ErrState)
	wantError(t, "P4: Add of one more, no Raw", adding(t, g, both(3, 9), nil), api.ErrMade)
	wantError(t, "P4: Add of one more, closed", adding(t, g, done(both(3, 9)), r), api.ErrClosed)
	if n := len(g.Open()); n != api.MaxStreams {
		t.Errorf("P19.1: %d are open", n)
	}
	wantCalls(t, "P19.1: Add", l)
	g.Exit(0)
	wantError(t, "P19.1: Add behind the end", adding(t, g, both(3, 9), r), api.ErrExiting)
	wantError(t, "P4: Add behind the end, wrong", adding(t, g, wrongStates[0], r), api.ErrExiting)
	wantError(t, "P4: Add behind the end, no Raw", adding(t, g, both(3, 9), nil), api.ErrExiting)
	wantError(t, "P4: Add behind the end, closed", adding(t, g, done(both(3, 9)), r), api.ErrExiting)
}

// TestNumbers: they rise, and none is given twice, whatever was closed or refused meanwhile (P19.1).
func TestNumbers(t *testing.T) {
	g, l := New(), &log{}
	var open []int
	next := 0
	roll := dice(19)
	for range 2000 {
		if len(open) > 0 && roll(2) == 0 || len(open) == api.MaxStreams {
			i := roll(len(open))
			if roll(3) == 0 {
				i = len(open) - 1
			}
			wantError(t, "P19.2: Close", g.Close(open[i]), api.OK)
			open = append(append([]int(nil), open[:i]...), open[i+1:]...)
		} else {
			adding(t, g, wrongStates[roll(len(wrongStates))], l.raw("a"))
			if id := add(t, g, both(3, 9), l.raw("a")); id != next {
				t.Fatalf("P19.1: the number is %d, not %d", id, next)
			}
			open = append(open, next)
			next++
		}
		wantOpen(t, "P19.1: Add, Close", g, open...)
	}
	for len(g.Open()) < api.MaxStreams {
		add(t, g, both(3, 9), l.raw("a"))
		next++
	}
	wantError(t, "P19.1: Add of one more", adding(t, g, both(3, 9), l.raw("a")), api.ErrCount)
	g.Close(g.Open()[63])
	if id := add(t, g, both(3, 9), l.raw("a")); id != next {
		t.Errorf("P19.1: Add behind a Close: %d, not %d", id, next)
	}
	wantError(t, "P19.1: Add of one more", adding(t, g, both(3, 9), l.raw("a")), api.ErrCount)
}

// TestSwap: a stream is that from now on, over the Raw that it had (P19.1).
func TestSwap(t *testing.T) {
	for _, was := range goodStates {
		for _, s := range goodStates {
			g, l := New(), &log{}
			a, b := add(t, g, was, l.raw("a")), addTerminal(t, g, was, l.raw("b"))
			wantError(t, "P19.1: Swap", g.Swap(b, s), api.OK)
			wantState(t, "P19.1: Swap", g, a, was)
			wantState(t, "P19.1: Swap", g, b, s)
			wantCalls(t, "P19.1: Swap", l)
			wantError(t, "P19.2: Close", g.Close(b), api.OK)
			if len(s.Out) > 0 {
				wantCalls(t, "P19.1: Close behind Swap", l, "b writes "+string(s.Out))
			}
			wantCalls(t, "P19.1: Close behind Swap", l)
		}
	}
}

// TestSwapRefuses: a state that may not be, and a closed one; it is as it was (P19.1).
func TestSwapRefuses(t *testing.T) {
	g, l := New(), &log{}
	id := add(t, g, holding(3, 9, "out"), l.raw("a"))
	for _, s := range wrongStates {
		wantError(t, "P19.1: Swap to "+show(s), g.Swap(id, s), api.ErrState)
		wantError(t, "P4: Swap of none", g.Swap(id+1, s), api.ErrStream)
	}
	for _, s := range []stream.State{done(both(3, 9)), done(bad(ended(both(1, 1))))} {
		wantError(t, "P19.1: Swap to a closed one", g.Swap(id, s), api.ErrClosed)
		wantError(t, "P4: Swap of none", g.Swap(id+1, s), api.ErrStream)
	}
	wantState(t, "P19.1: Swap", g, id, holding(3, 9, "out"))
	wantCalls(t, "P19.1: Swap", l)
}

// TestRaw: Raws of each kind are told as they were added, also those of a terminal's streams, and one may be that of many streams (P19.1, P19.7).
func TestRaw(t *testing.T) {
	k, _ := kern.New(kern.Config{Files: []api.Named{{Name: "a"}}})
	d, _ := k.Open("a", 3)
	m, _ := memory.NewGrowing(nil)
	for _, r := range []retry.Raw{kern.Handle{K: k, D: d}, kern.Handle{}, m, (*memory.Custom)(nil), (&log{}).raw("a")} {
		g := New()
		for _, id := range []int{add(t, g, both(3, 9), r), addTerminal(t, g, both(3, 9), r), add(t, g, both(3, 9), r)} {
			if x, e := g.Raw(id); x != r || e != api.OK {
				t.Errorf("P19.1: Raw(%d): %v, %d, not %v", id, x, e, r)
			}
			g.Get(id)
			if x, e := g.Raw(id); x != r || e != api.OK {
				t.Errorf("P19.1: Raw(%d) behind a Get: %v, %d, not %v", id, x, e, r)
			}
		}
	}
}
