package registry

import (
	"fmt"
	"testing"

	"millrace/api"
	"millrace/lines"
	"millrace/retry"
	"millrace/stream"
)

// writings are what raw writes answer.
var writings = map[string][]answer{
	"all is taken":     nil,
	"by parts":         {{n: 1}, {n: 0}, {n: 2}, {e: api.ErrIntr}, {n: 1}, {e: api.ErrAgain}},
	"blocked":          {{e: api.ErrBlock}},
	"blocked behind":   {{n: 1}, {e: api.ErrBlock}},
	"fails":            {{e: api.ErrFull}},
	"fails behind":     {{n: 2}, {e: api.ErrCustom}},
	"fails at last":    {{n: 1}, {n: 1}, {n: 1}, {e: api.ErrPipe}},
	"answers nonsense": {{n: -1}},
}

// readings are what raw reads tell.
var readings = map[string][]reply{
	"nothing":     nil,
	"a line":      {{b: "one\n"}, {b: "two"}, {}, {b: "3\n"}},
	"by parts":    {{b: "o"}, {e: api.ErrIntr}, {b: "ne"}, {e: api.ErrAgain}, {b: "\n4\n\n"}},
	"blocked":     {{b: "on"}, {e: api.ErrBlock}, {b: "e"}},
	"fails":       {{e: api.ErrCustom}, {b: "one"}},
	"ends itself": {{b: "o"}, {e: api.ErrEnd}, {b: "n"}},
}

// twins are two Raws that answer the same.
func twins(reads []reply, writes []answer) (*log, *scripted, *log, *scripted) {
	l, m := &log{}, &log{}
	one, two := l.raw("x", writes...), m.raw("x", writes...)
	one.reads, two.reads = append([]reply(nil), reads...), append([]reply(nil), reads...)
	return l, one, m, two
}

// TestCallsAreTheirs: each call is that of the layer below on the stream's state and Raw, whatever it answers, and the state that follows is kept; of a terminal's stream too, where there are no others (P19.2).
func TestCallsAreTheirs(t *testing.T) {
	type below func(s stream.State, r retry.Raw) (stream.State, string, api.Errno)
	type here func(g *Registry, id int) (string, api.Errno)
	pairs := map[string]struct {
		below below
		here  here
	}{
		"Get": {
			func(s stream.State, r retry.Raw) (stream.State, string, api.Errno) {
				s, c, e := stream.Get(s, r)
				return s, fmt.Sprint(c), e
			},
			func(g *Registry, id int) (string, api.Errno) { c, e := g.Get(id); return fmt.Sprint(c), e },
		},
		"Flush": {
			func(s stream.State, r retry.Raw) (stream.State, string, api.Errno) {
				s, e := stream.Flush(s, r)
				return s, "", e
			},
			func(g *Registry, id int) (string, api.Errno) { return "", g.Flush(id) },
		},
		"FlushAll": {
			func(s stream.State, r retry.Raw) (stream.State, string, api.Errno) {
				s, e := stream.Flush(s, r)
				return s, "", e
			},
			func(g *Registry, id int) (string, api.Errno) { return "", g.FlushAll() },
		},
	}
	for _, b := range []string{"", "p", "\n", "put\nput", letters(30)} {
		pairs["Put "+b] = struct {
			below below
			here  here
		}{
			func(s stream.State, r retry.Raw) (stream.State, string, api.Errno) {
				s, n, e := lines.Put(s, r, []byte(b))
				return s, fmt.Sprint(n), e
			},
			func(g *Registry, id int) (string, api.Errno) { n, e := g.Put(id, []byte(b)); return fmt.Sprint(n), e },
		}
	}
	for _, limit := range []int{-1, 0, 1, 2, 5, api.MaxLine, api.MaxLine + 1} {
		pairs[fmt.Sprint("Line ", limit)] = struct {
			below below
			here  here
		}{
			func(s stream.State, r retry.Raw) (stream.State, string, api.Errno) {
				s, b, e := lines.Get(s, r, limit)
				return s, string(b), e
			},
			func(g *Registry, id int) (string, api.Errno) { b, e := g.Line(id, limit); return string(b), e },
		}
	}
	for name, p := range pairs {
		for _, s := range goodStates {
			for wrote, writes := range writings {
				for read, reads := range readings {
					l, one, m, two := twins(reads, writes)
					g := New()
					id := added(t, g, s, one, len(read)%2 == 0)
					want := s
					// Again and again, so that the state that follows is gone on with.
					for range 3 {
						after, said, e := p.below(want, two)
						about := fmt.Sprintf("P19.2: %s, %s, %s, %s", name, wrote, read, show(want))
						if x, f := p.here(g, id); x != said || f != e {
							t.Errorf("%s: %q, %d, not %q, %d", about, x, f, said, e)
						}
						want = after
						wantState(t, about, g, id, want)
						wantCalls(t, about, l, m.calls...)
						m.calls = nil
					}
				}
			}
		}
	}
}

// TestErrors: each error of Put, Get and Line, in its order, and that the state that follows is kept (P19.2).
func TestErrors(t *testing.T) {
	g, l := New(), &log{}
	r := add(t, g, stream.State{Reads: true, Mode: 3, Size: 9}, l.raw("r").tells("read"))
	w := add(t, g, stream.State{Writes: true, Mode: 3, Size: 9}, l.raw("w"))
	wantPut(t, "P19.2: Put", g, r, "a", 0, api.ErrMode)
	wantPut(t, "P19.2: Put", g, r, "", 0, api.OK)
	wantPut(t, "P19.2: Put", g, r, letters(api.MaxFile+1), 0, api.ErrLong)
	wantGet(t, "P19.2: Get", g, w, 0, api.ErrMode)
	wantLine(t, "P19.2: Line", g, w, 0, "", api.ErrRange)
	wantLine(t, "P19.2: Line", g, w, api.MaxLine+1, "", api.ErrRange)
	wantLine(t, "P19.2: Line", g, w, 1, "", api.ErrMode)
	wantCalls(t, "P19.2: refused", l)
	wantGet(t, "P19.2: Get", g, r, 'r', api.OK)
	wantState(t, "P19.2: Get", g, r, stream.State{Reads: true, Mode: 3, Size: 9, In: []byte("ead"), Dir: 1})
	wantLine(t, "P19.2: Line", g, r, 9, "ead", api.OK)
	wantLine(t, "P19.2: Line", g, r, 9, "", api.ErrEnd)
	wantGet(t, "P19.2: Get", g, r, 0, api.ErrEnd)
	b := add(t, g, both(3, 9), l.raw("b"))
	wantPut(t, "P19.2: Put", g, b, "ab", 2, api.OK)
	wantGet(t, "P19.2: Get", g, b, 0, api.ErrDir)
	wantLine(t, "P19.2: Line", g, b, 9, "", api.ErrDir)
	wantState(t, "P19.2: Get", g, b, holding(3, 9, "ab"))
}

// TestPutTakesSome: how many were taken is told beside an error, and what was got behind it (P19.2).
func TestPutTakesSome(t *testing.T) {
	g, l := New(), &log{}
	id := add(t, g, both(3, 3), l.raw("a", answer{n: 3}, answer{n: 1}, answer{e: api.ErrFull}))
	wantPut(t, "P19.2: Put", g, id, "abcdefgh", 6, api.ErrFull)
	wantState(t, "P19.2: Put", g, id, bad(holding(3, 3, "ef")))
	wantCalls(t, "P19.2: Put", l, "a writes abc", "a writes def", "a writes ef")
	id = add(t, g, both(3, 3), l.raw("a").tells("ab").then(api.ErrBlock))
	wantLine(t, "P19.2: Line", g, id, 9, "ab", api.ErrBlock)
	wantState(t, "P19.2: Line", g, id, got(3, 3, "", ""))
}

// TestFlush: of one stream alone (P19.2).
func TestFlush(t *testing.T) {
	g, l := New(), &log{}
	for _, name := range []string{"a", "b", "c"} {
		add(t, g, holding(3, 9, "to "+name), l.raw(name))
	}
	wantError(t, "P19.2: Flush", g.Flush(1), api.OK)
	wantCalls(t, "P19.2: Flush", l, "b writes to b")
	wantState(t, "P19.2: Flush", g, 0, holding(3, 9, "to a"))
	wantState(t, "P19.2: Flush", g, 1, both(3, 9))
	wantState(t, "P19.2: Flush", g, 2, holding(3, 9, "to c"))
}

// TestFlushAll: all of them, in order, whatever their modes are; the first error is told, and the others go on (P19.2).
func TestFlushAll(t *testing.T) {
	g, l := New(), &log{}
	wantError(t, "P19.2: FlushAll of none", g.FlushAll(), api.OK)
	add(t, g, holding(3, 9, "A"), l.raw("a"))
	add(t, g, holding(2, 9, "B"), l.raw("b", answer{e: api.ErrBlock}))
	add(t, g, got(3, 9, "in", "back"), l.raw("c"))
	addTerminal(t, g, holding(3, 9, "D\n"), l.raw("d", answer{e: api.ErrFull}))
	add(t, g, holding(1, 9, ""), l.raw("e"))
	add(t, g, holding(3, 9, "F"), l.raw("f", breaks))
	add(t, g, holding(3, 9, "G"), l.raw("g"))
	add(t, g, holding(3, 9, "H"), l.raw("h"))
	g.Close(7)
	wantCalls(t, "P19.2: Close", l, "h writes H")
	wantError(t, "P19.2: FlushAll", g.FlushAll(), api.ErrBlock)
	wantCalls(t, "P19.2: FlushAll", l, "a writes A", "b writes B", "d writes D\n", "f writes F", "g writes G")
	for id, s := range []stream.State{both(3, 9), holding(2, 9, "B"), got(3, 9, "in", "back"), bad(holding(3, 9, "D\n")), both(1, 9), bad(holding(3, 9, "F")), both(3, 9)} {
		wantState(t, "P19.2: FlushAll", g, id, s)
	}
	wantError(t, "P19.2: FlushAll again", g.FlushAll(), api.OK)
	wantCalls(t, "P19.2: FlushAll again", l, "b writes B", "d writes D\n", "f writes F")
	wantError(t, "P19.2: FlushAll of none held", g.FlushAll(), api.OK)
	wantCalls(t, "P19.2: FlushAll of none held", l)
	wantOpen(t, "P19.2: FlushAll", g, 0, 1, 2, 3, 4, 5, 6)
	g.Exit(0)
	wantError(t, "P19.2: FlushAll behind the end", g.FlushAll(), api.OK)
}

// TestFlushAllTellsFirst: it is the first one's error, not the last one's, nor the least (P19.2).
func TestFlushAllTellsFirst(t *testing.T) {
	for _, first := range append(rawErrors, api.ErrBlock) {
		for _, second := range []api.Errno{api.ErrArg, api.ErrPanic, api.ErrFull} {
			g, l := New(), &log{}
			add(t, g, holding(3, 9, "a"), l.raw("a"))
			add(t, g, holding(3, 9, "b"), l.raw("b", answer{e: first}))
			add(t, g, holding(3, 9, "c"), l.raw("c", answer{e: second}))
			wantError(t, "P19.2: FlushAll", g.FlushAll(), first)
			wantCalls(t, "P19.2: FlushAll", l, "a writes a", "b writes b", "c writes c")
		}
	}
}

// TestClose: behind it the stream is no more open, whatever it answers (P19.2).
func TestClose(t *testing.T) {
	for _, e := range append(rawErrors, api.ErrBlock) {
		g, l := New(), &log{}
		add(t, g, holding(3, 9, "a"), l.raw("a"))
		add(t, g, holding(3, 9, "b"), l.raw("b", answer{n: 0, e: e}))
		add(t, g, holding(3, 9, "c"), l.raw("c"))
		wantError(t, "P19.2: Close", g.Close(1), e)
		wantOpen(t, "P19.2: Close", g, 0, 2)
		wantError(t, "P19.2: Close again", g.Close(1), api.ErrStream)
		wantError(t, "P19.2: Close of the last", g.Close(2), api.OK)
		wantError(t, "P19.2: Close of the first", g.Close(0), api.OK)
		wantOpen(t, "P19.2: Close", g)
		wantCalls(t, "P19.2: Close", l, "b writes b", "c writes c", "a writes a")
	}
}
