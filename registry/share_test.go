package registry

import (
	"bytes"
	"slices"
	"testing"

	"millrace/api"
	"millrace/stream"
)

// behindList stands in the room behind a list that is handed in.
const behindList = "<room behind>"

// roomy is a list with room behind it.
func roomy(b []byte) []byte {
	return append(bytes.Clone(b), behindList...)[:len(b)]
}

func roomyState(s stream.State) stream.State {
	s.Out, s.In, s.Back = roomy(s.Out), roomy(s.In), roomy(s.Back)
	return s
}

// isWholeList tells whether a list is as it was, the room behind it too.
func isWholeList(b, was []byte) bool {
	return string(b[:len(b)+len(behindList)]) == string(was)+behindList
}

func isWhole(s, was stream.State) bool {
	return isWholeList(s.Out, was.Out) && isWholeList(s.In, was.In) && isWholeList(s.Back, was.Back) && same(s, was)
}

// spoil changes a list, and the room behind it.
func spoil(b []byte) {
	b = b[:cap(b)]
	for i := range b {
		b[i] = '?'
	}
}

func spoilState(s stream.State) {
	spoil(s.Out)
	spoil(s.In)
	spoil(s.Back)
}

// TestStatesShare: states that are added or swapped in are neither changed nor kept, those that are told are their holders' (P19.7).
func TestStatesShare(t *testing.T) {
	for _, s := range goodStates {
		for name, hand := range map[string]func(g *Registry, s stream.State) int{
			"Add": func(g *Registry, s stream.State) int { return add(t, g, s, (&log{}).raw("a").tells("read\n")) },
			"Swap": func(g *Registry, s stream.State) int {
				id := add(t, g, both(3, 9), (&log{}).raw("a").tells("read\n"))
				wantError(t, "P19.1: Swap", g.Swap(id, s), api.OK)
				return id
			},
		} {
			g := New()
			given := roomyState(s)
			id := hand(g, given)
			told, _ := g.State(id)
			again, _ := g.State(id)
			spoilState(told)
			if !same(again, s) || !isWhole(given, s) {
				t.Errorf("P19.7: %s of %s: what State tells shares memory", name, show(s))
			}
			wantState(t, "P19.7: "+name+", what State tells is spoiled", g, id, s)
			g.Put(id, []byte("put"))
			g.Get(id)
			g.Line(id, 2)
			g.Flush(id)
			g.FlushAll()
			g.Put(id, []byte("put\nmore"))
			if !isWhole(given, s) || !same(again, s) {
				t.Errorf("P19.7: %s of %s: what was handed in or told was changed", name, show(s))
			}
			g = New()
			given = roomyState(s)
			id = hand(g, given)
			spoilState(given)
			wantState(t, "P19.7: "+name+", what was handed in is spoiled", g, id, s)
			for _, call := range []func(){func() { g.Put(id, []byte("put")) }, func() { g.Get(id) }, func() { g.Line(id, 3) }, func() { g.Flush(id) }} {
				call()
				held, _ := g.State(id)
				told, _ := g.State(id)
				spoilState(told)
				wantState(t, "P19.7: what State tells is spoiled", g, id, held)
			}
			if e := g.Close(id); e != api.OK {
				t.Errorf("P19.2: Close: %d", e)
			}
		}
	}
}

// TestListsOfStatesShare: no list of a state has memory of another one, be it that those handed in have (P19.7).
func TestListsOfStatesShare(t *testing.T) {
	const was = "one and the same"
	for _, swaps := range []bool{false, true} {
		piece := []byte(was)
		s := got(3, 9, "", "")
		s.In, s.Back = piece[:9], piece[:4]
		g := New()
		id := add(t, g, got(3, 9, "", ""), (&log{}).raw("a"))
		if swaps {
			g.Swap(id, s)
		} else {
			id = add(t, g, s, (&log{}).raw("a"))
		}
		told, _ := g.State(id)
		spoil(told.In)
		if string(told.Back) != was[:4] {
			t.Errorf("P19.7: In and Back share memory: %q", told.Back)
		}
		wantState(t, "P19.7: State", g, id, got(3, 9, was[:9], was[:4]))
		if string(piece) != was {
			t.Errorf("P19.7: what was handed in was changed: %q", piece)
		}
	}
}

// TestPutShares: bytes that are put are neither changed nor kept (P19.7).
func TestPutShares(t *testing.T) {
	for _, s := range goodStates {
		for _, b := range []string{"", "p", "put\nput", letters(40)} {
			g, l := New(), &log{}
			h, m := New(), &log{}
			id, other := add(t, g, s, l.raw("a")), add(t, h, s, m.raw("a"))
			given := roomy([]byte(b))
			n, e := g.Put(id, given)
			if !isWholeList(given, []byte(b)) {
				t.Errorf("P19.7: Put of %q, %s: the bytes were changed", b, show(s))
			}
			spoil(given)
			wantPut(t, "P19.7: Put", h, other, b, n, e)
			after, _ := h.State(other)
			wantState(t, "P19.7: Put, the bytes are spoiled", g, id, after)
			g.Close(id)
			h.Close(other)
			wantCalls(t, "P19.7: Close, the bytes are spoiled", l, m.calls...)
		}
	}
}

// TestHooksShare: a Text is neither changed nor kept (P19.7).
func TestHooksShare(t *testing.T) {
	g, l := New(), &log{}
	add(t, g, both(3, 99), l.raw("a"))
	given := roomy([]byte("text "))
	for range 3 {
		hook(t, g, Hook{Kind: 1, Text: given})
		if !isWholeList(given, []byte("text ")) {
			t.Error("P19.7: AtExit: the Text was changed")
		}
	}
	spoil(given)
	wantExit(t, "P19.3: Exit", g, 1, hookNote(2, api.OK), hookNote(1, api.OK), hookNote(0, api.OK), streamNote(0, api.OK))
	wantCalls(t, "P19.7: Exit", l, "a writes text text text ")
}

// TestLinesShare: a line is its holder's (P19.7).
func TestLinesShare(t *testing.T) {
	for mode := 1; mode <= 3; mode++ {
		for _, s := range []stream.State{both(mode, 64), got(mode, 64, "in\nside\n", "back")} {
			g := New()
			id := add(t, g, s, (&log{}).raw("a").tells("one\n", "two\n"))
			h := New()
			other := add(t, h, s, (&log{}).raw("a").tells("one\n", "two\n"))
			for range 6 {
				b, e := g.Line(id, 99)
				spoil(b)
				c, f := h.Line(other, 99)
				if len(b) != len(c) || e != f {
					t.Errorf("P19.7: Line: %d bytes, %d, not %q, %d", len(b), e, c, f)
				}
				after, _ := h.State(other)
				wantState(t, "P19.7: Line, the one before is spoiled", g, id, after)
			}
		}
	}
}

// TestOpenShares: Open's numbers and Exit's notes are their holder's (P19.7).
func TestOpenShares(t *testing.T) {
	g, l := New(), &log{}
	for range 5 {
		add(t, g, both(3, 9), l.raw("a"))
	}
	told := g.Open()
	again := g.Open()
	for i := range told[:cap(told)] {
		told[:cap(told)][i] = -9
	}
	g.Close(1)
	add(t, g, both(3, 9), l.raw("a"))
	if !slices.Equal(again, []int{0, 1, 2, 3, 4}) {
		t.Errorf("P19.7: Open's answer became %v", again)
	}
	wantOpen(t, "P19.7: Open", g, 0, 2, 3, 4, 5)
	_, notes, _ := g.Exit(0)
	want := slices.Clone(notes)
	g.Exit(0)
	h := New()
	add(t, h, both(3, 9), l.raw("a"))
	h.Exit(0)
	if !slices.Equal(notes, want) {
		t.Errorf("P19.7: Exit's notes became %v", notes)
	}
}

// keeper is a Raw that keeps what it was handed and what it answered, and overwrites it in each call.
type keeper struct {
	*scripted
	held [][]byte
}

func (x *keeper) spoilAll() {
	for _, l := range x.held {
		spoil(l)
	}
}

func (x *keeper) Read(n int) ([]byte, api.Errno) {
	x.spoilAll()
	b, e := x.scripted.Read(n)
	x.held = append(x.held, b)
	return b, e
}

func (x *keeper) Write(b []byte) (int, api.Errno) {
	x.spoilAll()
	n, e := x.scripted.Write(b)
	x.held = append(x.held, b)
	return n, e
}

// TestRawKeeps: a Raw that keeps and changes what it was handed and what it answered spoils nothing, also where a panic leaves the state as it was (P19.7).
func TestRawKeeps(t *testing.T) {
	for mode := 2; mode <= 3; mode++ {
		g, l := New(), &log{}
		x := &keeper{scripted: l.raw("a", answer{n: 1}, breaks, answer{n: 1}, answer{e: api.ErrFull})}
		id := add(t, g, holding(mode, 9, "out"), x)
		for _, e := range []api.Errno{api.ErrPanic, api.ErrFull} {
			wantError(t, "P19.2: Flush", g.Flush(id), e)
			x.spoilAll()
		}
		wantState(t, "P19.7: Flush", g, id, bad(holding(mode, 9, "ut")))
		hook(t, g, Hook{Kind: 1, Stream: id, Text: []byte("text")})
		y := &keeper{scripted: l.raw("b").tells("one\ntwo")}
		in := addTerminal(t, g, both(mode, 9), y)
		wantLine(t, "P19.2: Line", g, in, 9, "one\n", api.OK)
		y.spoilAll()
		wantLine(t, "P19.7: Line", g, in, 9, "two", api.OK)
		g.Exit(0)
		if x.taken != "oouttext" {
			t.Errorf("P19.7: %q was taken", x.taken)
		}
	}
}
