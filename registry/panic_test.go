package registry

import (
	"errors"
	"testing"

	"millrace/api"
	"millrace/memory"
	"millrace/stream"
)

// TestPanicAtWrite: Put, Flush and Close answer ErrPanic and tell nothing else; the state is as it was ahead of the call, but Bad, whatever was delivered in it; the others go on (Words, P19.2).
func TestPanicAtWrite(t *testing.T) {
	for name, c := range map[string]struct {
		s       stream.State
		answers []answer
		call    func(g *Registry) api.Errno
		calls   []string
	}{
		"Put, no buffer":   {both(1, 9), []answer{breaks}, putting("p"), []string{"b writes p"}},
		"Put, in the end":  {both(1, 9), []answer{{n: 1}, {n: 1}, breaks}, putting("put"), []string{"b writes put", "b writes ut", "b writes t"}},
		"Put, full":        {holding(3, 3, "ou"), []answer{breaks}, putting("put"), []string{"b writes oup"}},
		"Put, full before": {holding(3, 3, "out"), []answer{breaks}, putting("put"), []string{"b writes out"}},
		"Put, second one":  {holding(3, 3, "ou"), []answer{{n: 3}, breaks}, putting("putput"), []string{"b writes oup", "b writes utp"}},
		"Put, a part":      {holding(3, 3, "ou"), []answer{{n: 2}, breaks}, putting("put"), []string{"b writes oup", "b writes p"}},
		"Put, by lines":    {holding(2, 9, "o"), []answer{{n: 1}, breaks}, putting("\np\n"), []string{"b writes o\n", "b writes \n"}},
		"Put, another way": {ended(got(3, 1, "", "")), []answer{breaks}, putting("put"), []string{"b writes p"}},
		"Flush":            {holding(3, 9, "out"), []answer{breaks}, flushing, []string{"b writes out"}},
		"Flush, a part":    {ended(holding(2, 9, "out")), []answer{{n: 1}, {e: api.ErrIntr}, breaks}, flushing, []string{"b writes out", "b writes ut", "b writes ut"}},
		"FlushAll, a part": {holding(3, 9, "out"), []answer{{n: 1}, breaks}, func(g *Registry) api.Errno { return g.FlushAll() }, []string{"b writes out", "b writes ut"}},
		"Flush, bad":       {bad(holding(3, 9, "out")), []answer{breaks}, flushing, []string{"b writes out"}},
	} {
		g, l := New(), &log{}
		add(t, g, both(3, 9), l.raw("a"))
		add(t, g, c.s, l.raw("b", c.answers...))
		add(t, g, both(3, 9), l.raw("c"))
		wantError(t, "P19: "+name, c.call(g), api.ErrPanic)
		wantCalls(t, "P19: "+name, l, c.calls...)
		wantState(t, "P19: "+name, g, 0, both(3, 9))
		wantState(t, "P19: "+name, g, 1, bad(c.s))
		wantState(t, "P19: "+name, g, 2, both(3, 9))
		wantOpen(t, "P19: "+name, g, 0, 1, 2)
		wantPut(t, "P19: Put on another", g, 2, "on", 2, api.OK)
		wantError(t, "P19: Close behind a panic", g.Close(1), api.OK)
		if len(c.s.Out) > 0 {
			wantCalls(t, "P19: Close behind a panic", l, "b writes "+string(c.s.Out))
		}
		wantCalls(t, "P19: Close behind a panic", l)
	}
}

func putting(b string) func(g *Registry) api.Errno {
	return func(g *Registry) api.Errno {
		n, e := g.Put(1, []byte(b))
		if n != 0 {
			return -1
		}
		return e
	}
}

func flushing(g *Registry) api.Errno { return g.Flush(1) }

// TestPanicAtFlushAll: it is an error among the others, of which the first is told (P19.2).
func TestPanicAtFlushAll(t *testing.T) {
	for _, panicFirst := range []bool{false, true} {
		g, l := New(), &log{}
		first, second := answer{e: api.ErrFull}, breaks
		want := api.ErrFull
		if panicFirst {
			first, second, want = second, first, api.ErrPanic
		}
		add(t, g, holding(3, 9, "a"), l.raw("a"))
		add(t, g, holding(3, 9, "b"), l.raw("b", first))
		add(t, g, holding(3, 9, "c"), l.raw("c", second))
		add(t, g, holding(3, 9, "d"), l.raw("d"))
		wantError(t, "P19.2: FlushAll", g.FlushAll(), want)
		wantCalls(t, "P19.2: FlushAll", l, "a writes a", "b writes b", "c writes c", "d writes d")
		for id, s := range []stream.State{both(3, 9), bad(holding(3, 9, "b")), bad(holding(3, 9, "c")), both(3, 9)} {
			wantState(t, "P19.2: FlushAll", g, id, s)
		}
	}
}

// TestPanicAtClose: it is closed all the same, and not touched any more (P19.2).
func TestPanicAtClose(t *testing.T) {
	g, l := New(), &log{}
	add(t, g, holding(3, 9, "a"), l.raw("a"))
	add(t, g, holding(3, 9, "b"), l.raw("b", answer{n: 0}, breaks))
	add(t, g, holding(3, 9, "c"), l.raw("c"))
	wantError(t, "P19.2: Close", g.Close(1), api.ErrPanic)
	wantCalls(t, "P19.2: Close", l, "b writes b", "b writes b")
	wantOpen(t, "P19.2: Close", g, 0, 2)
	wantError(t, "P19.2: Close again", g.Close(1), api.ErrStream)
	wantExit(t, "P19.4: Exit", g, 1, streamNote(0, api.OK), streamNote(2, api.OK))
	wantCalls(t, "P19.4: Exit", l, "a writes a", "c writes c")
}

// TestPanicAtRead: Get and Line answer ErrPanic, no byte, and the state is as it was ahead of the call, but Bad; what was delivered ahead is delivered (Words, P19.2).
func TestPanicAtRead(t *testing.T) {
	for _, terminal := range []bool{false, true} {
		for _, s := range []stream.State{both(3, 9), both(1, 9), got(2, 9, "", ""), bad(both(2, 9))} {
			g, l := New(), &log{}
			add(t, g, holding(2, 9, "A"), l.raw("a"))
			added(t, g, s, l.raw("t").thenBreaks().thenBreaks().tells("x\n"), terminal)
			wantGet(t, "P19: Get", g, 1, 0, api.ErrPanic)
			wantState(t, "P19: Get", g, 1, bad(s))
			wantLine(t, "P19: Line", g, 1, 9, "", api.ErrPanic)
			wantState(t, "P19: Line", g, 1, bad(s))
			ahead := holding(2, 9, "A")
			if terminal {
				ahead = holding(2, 9, "")
			}
			wantState(t, "P19: Get", g, 0, ahead)
			wantLine(t, "P19: Line behind panics", g, 1, 9, "x\n", api.OK)
			wantOpen(t, "P19: Get", g, 0, 1)
		}
	}
	for _, s := range []stream.State{got(3, 2, "in", ""), got(2, 2, "", "ni")} {
		g, l := New(), &log{}
		add(t, g, s, l.raw("a").tells("st").thenBreaks().tells("x\n"))
		wantLine(t, "P19: Line", g, 0, 9, "", api.ErrPanic)
		wantState(t, "P19: Line", g, 0, bad(s))
		wantCalls(t, "P19: Line", l, "a reads 2", "a reads 2")
		wantLine(t, "P19: Line behind a panic", g, 0, 9, "inx\n", api.OK)
	}
}

// TestPanicsWithAnything: whatever it panics with, nil and errors too (Words).
func TestPanicsWithAnything(t *testing.T) {
	panics := map[string]func(){
		"a text":       func() { panic("text") },
		"an error":     func() { panic(errors.New("error")) },
		"nil":          func() { panic(nil) },
		"a number":     func() { panic(0) },
		"an Errno":     func() { panic(api.OK) },
		"a place":      func() { var l []int; _ = l[0] },
		"a nil map":    func() { var m map[int]int; m[1] = 1 },
		"a nil object": func() { var x *scripted; x.taken = "?" },
	}
	for name, broken := range panics {
		g := New()
		add(t, g, holding(3, 9, "out"), called{broken})
		add(t, g, both(3, 9), called{broken})
		wantError(t, "P19: Flush, "+name, g.Flush(0), api.ErrPanic)
		wantState(t, "P19: Flush, "+name, g, 0, bad(holding(3, 9, "out")))
		wantGet(t, "P19: Get, "+name, g, 1, 0, api.ErrPanic)
		wantState(t, "P19: Get, "+name, g, 1, bad(both(3, 9)))
		wantExit(t, "P19: Exit, "+name, g, 1, streamNote(0, api.ErrPanic), streamNote(1, api.OK))
	}
}

// called is a Raw whose calls call something.
type called struct{ do func() }

func (x called) Read(n int) ([]byte, api.Errno)        { x.do(); return nil, api.OK }
func (x called) Write(b []byte) (int, api.Errno)       { x.do(); return len(b), api.OK }
func (x called) Seek(off, whence int) (int, api.Errno) { x.do(); return 0, api.ErrSeek }

// TestCustomPanics: chapter 10's custom streams, by any number below -1 (Words, P19.4).
func TestCustomPanics(t *testing.T) {
	for _, number := range []int{-2, -3, -1 << 40} {
		g := New()
		x, _ := memory.NewCustom(nil, []int{1, number, 1, -1, 1, number})
		id := add(t, g, holding(3, 9, "abcd"), x)
		wantError(t, "P19: Flush", g.Flush(id), api.ErrPanic)
		wantState(t, "P19: Flush", g, id, bad(holding(3, 9, "abcd")))
		wantError(t, "P19: Flush", g.Flush(id), api.ErrCustom)
		wantState(t, "P19: Flush", g, id, bad(holding(3, 9, "bcd")))
		wantExit(t, "P19: Exit", g, 0, streamNote(id, api.ErrPanic))
		if string(x.Taken()) != "aab" {
			t.Errorf("P19: %q was taken", x.Taken())
		}
	}
}

// TestCallsBack: a Raw that calls the registry while it is called is refused what may not be, and no stream is taken twice (P1, P19.2, P19.3).
func TestCallsBack(t *testing.T) {
	g, l := New(), &log{}
	var errs []api.Errno
	back := called{func() {
		_, _, e := g.Exit(9)
		errs = append(errs, e, g.Close(0), g.Close(2), g.AtExit(Hook{Kind: 2}), adding(t, g, both(3, 9), l.raw("x")))
	}}
	add(t, g, holding(3, 9, "a"), l.raw("a"))
	add(t, g, holding(3, 9, "b"), back)
	add(t, g, holding(3, 9, "c"), l.raw("c"))
	add(t, g, holding(3, 9, "d"), l.raw("d"))
	wantExit(t, "P19.3: Exit", g, 1, streamNote(0, api.OK), streamNote(1, api.OK), streamNote(3, api.OK))
	wantCalls(t, "P19.4: Exit", l, "a writes a", "c writes c", "d writes d")
	for i, want := range []api.Errno{api.ErrExiting, api.ErrStream, api.OK, api.ErrExiting, api.ErrExiting} {
		if len(errs) != 5 || errs[i] != want {
			t.Fatalf("P19.3: within Exit: %v", errs)
		}
	}
	g = New()
	closings := 0
	add(t, g, holding(3, 9, "a"), called{func() {
		closings++
		wantError(t, "P19.2: Close within Close", g.Close(0), api.ErrStream)
	}})
	wantError(t, "P19.2: Close", g.Close(0), api.OK)
	if closings != 1 {
		t.Errorf("P19.4: the Raw was written %d times", closings)
	}
	g = New()
	adds := 0
	var again called
	again = called{func() {
		if adds++; adds < 10 {
			g.Close(g.Open()[0])
			add(t, g, holding(3, 9, "more"), again)
		}
	}}
	add(t, g, holding(3, 9, "a"), l.raw("a"))
	add(t, g, holding(3, 9, "b"), again)
	wantError(t, "P19.2: FlushAll", g.FlushAll(), api.OK)
	if adds != 1 {
		t.Errorf("P19.2: FlushAll of two made %d calls of the second", adds)
	}
}
