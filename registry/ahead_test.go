package registry

import (
	"fmt"
	"testing"

	"millrace/api"
	"millrace/stream"
)

// asked is a registry with a terminal's stream, which is number 2, between others of all modes.
func asked(t *testing.T, l *log, s stream.State, tty *scripted, terminal bool) *Registry {
	t.Helper()
	g := New()
	add(t, g, holding(2, 9, "A"), l.raw("a"))
	add(t, g, holding(3, 9, "B"), l.raw("b"))
	added(t, g, s, tty, terminal)
	add(t, g, holding(2, 9, ""), l.raw("d"))
	add(t, g, holding(1, 9, ""), l.raw("e"))
	add(t, g, got(2, 9, "in", "back"), l.raw("f"))
	add(t, g, holding(2, 9, "G"), l.raw("g"))
	return g
}

// wantAhead holds the streams that are no terminal's against what they are once lines were delivered, or before that.
func wantAhead(t *testing.T, about string, g *Registry, delivered bool) {
	t.Helper()
	a, last := holding(2, 9, "A"), holding(2, 9, "G")
	if delivered {
		a, last = holding(2, 9, ""), holding(2, 9, "")
	}
	for id, s := range map[int]stream.State{0: a, 1: holding(3, 9, "B"), 3: holding(2, 9, ""), 4: holding(1, 9, ""), 5: got(2, 9, "in", "back"), 6: last} {
		wantState(t, about, g, id, s)
	}
}

// TestAheadOfGet: all streams by lines are delivered, in order, ahead of the read, and once (P19.2, P19.6).
func TestAheadOfGet(t *testing.T) {
	for _, c := range []struct {
		s    stream.State
		read string
	}{
		{both(3, 9), "t reads 9"}, {both(2, 5), "t reads 5"}, {both(1, 9), "t reads 1"},
		{got(3, 9, "", ""), "t reads 9"}, {bad(both(3, 9)), "t reads 9"}, {stream.State{Reads: true, Mode: 2, Size: 4}, "t reads 4"},
	} {
		l := &log{}
		g := asked(t, l, c.s, l.raw("t").tells("ab"), true)
		wantGet(t, "P19.2: Get", g, 2, 'a', api.OK)
		wantCalls(t, "P19.6: Get", l, "a writes A", "g writes G", c.read)
		wantAhead(t, "P19.2: Get", g, true)
		wantGet(t, "P19.2: Get", g, 2, 'b', api.OK)
		g.Get(2)
		for _, call := range l.calls {
			if call != c.read {
				t.Errorf("P19.2: %s: what was delivered is delivered again", call)
			}
		}
	}
}

// TestNotAhead: nothing is delivered where nothing will be read, nor ahead of a stream that is no terminal's (P19.2).
func TestNotAhead(t *testing.T) {
	for name, c := range map[string]struct {
		s        stream.State
		terminal bool
		line     string
		e        api.Errno
	}{
		"Back":               {got(3, 9, "", "\n"), true, "\n", api.OK},
		"In":                 {got(2, 9, "\nin", ""), true, "\n", api.OK},
		"In and Back":        {got(1, 9, "\nin", "b"), true, "b\n", api.OK},
		"the end":            {ended(got(3, 9, "", "")), true, "", api.ErrEnd},
		"the end, no way":    {ended(both(2, 9)), true, "", api.ErrEnd},
		"In ahead of it":     {ended(got(3, 9, "in", "")), true, "in", api.OK},
		"writing":            {holding(2, 9, ""), true, "", api.ErrDir},
		"writing, held":      {holding(2, 9, "out"), true, "", api.ErrDir},
		"writing, full":      {holding(3, 9, "out"), true, "", api.ErrDir},
		"does not read":      {stream.State{Writes: true, Mode: 2, Size: 9}, true, "", api.ErrMode},
		"is open for none":   {stream.State{Mode: 2, Size: 9}, true, "", api.ErrMode},
		"is no terminal's":   {both(3, 9), false, "t\n", api.OK},
		"neither, by lines":  {both(2, 9), false, "t\n", api.OK},
		"neither, at a time": {both(1, 9), false, "t\n", api.OK},
	} {
		l := &log{}
		g := asked(t, l, c.s, l.raw("t").tells("t\n"), c.terminal)
		wantLine(t, "P19.2: Line, "+name, g, 2, 9, c.line, c.e)
		wantAhead(t, "P19.2: Line, "+name, g, false)
		g = asked(t, l, c.s, l.raw("t").tells("t\n"), c.terminal)
		first := byte(0)
		if len(c.line) > 0 {
			first = c.line[0]
		}
		wantGet(t, "P19.2: Get, "+name, g, 2, first, c.e)
		wantAhead(t, "P19.2: Get, "+name, g, false)
		for _, call := range l.calls {
			if call[:7] != "t reads" || c.terminal {
				t.Errorf("P19.2: %s: %s", name, call)
			}
		}
	}
	l := &log{}
	g := asked(t, l, both(3, 9), l.raw("t"), true)
	for _, limit := range []int{-1, 0, api.MaxLine + 1} {
		wantLine(t, "P19.2: Line of no limit", g, 2, limit, "", api.ErrRange)
	}
	for _, e := range []api.Errno{g.Flush(2), g.Flush(3)} {
		wantError(t, "P19.2: Flush", e, api.OK)
	}
	wantGet(t, "P19.2: Get of another", g, 5, 'k', api.OK)
	wantGet(t, "P19.2: Get of another", g, 0, 0, api.ErrDir)
	wantCalls(t, "P19.2: no Get of the terminal's", l)
	wantPut(t, "P19.2: Put", g, 2, "p", 1, api.OK)
	wantError(t, "P19.2: Close", g.Close(2), api.OK)
	wantCalls(t, "P19.2: Put and Close of the terminal's", l, "t writes p")
}

// TestAheadOfEach: ahead of each Get of a Line that reads, whatever is held then; not ahead of each try (P19.2, P19.6).
func TestAheadOfEach(t *testing.T) {
	l := &log{}
	tty := l.raw("t").tells("on").then(api.ErrIntr).then(api.ErrAgain).tells("e", "\nrest")
	g := New()
	add(t, g, holding(2, 9, "abcd"), l.raw("a", answer{n: 1}, answer{e: api.ErrBlock}, answer{n: 1}, answer{e: api.ErrFull}, answer{n: 2}))
	addTerminal(t, g, got(3, 9, "", "?"), tty)
	wantLine(t, "P19.2: Line", g, 1, 99, "?one\n", api.OK)
	wantCalls(t, "P19.2: Line", l,
		"a writes abcd", "a writes bcd", "t reads 9",
		"a writes bcd", "a writes cd", "t reads 9", "t reads 9", "t reads 9",
		"a writes cd", "t reads 9")
	wantState(t, "P19.2: Line", g, 0, bad(holding(2, 9, "")))
	wantState(t, "P19.2: Line", g, 1, got(3, 9, "rest", ""))
}

// TestAheadOfEachByte: without a buffer each byte of a Line is a Get that reads (P19.2).
func TestAheadOfEachByte(t *testing.T) {
	l := &log{}
	g := New()
	add(t, g, holding(2, 9, "A"), l.raw("a", answer{e: api.ErrBlock}, answer{e: api.ErrFull}, answer{n: 1}))
	addTerminal(t, g, both(1, 9), l.raw("t").tells("one\n"))
	wantLine(t, "P19.2: Line", g, 1, 99, "one\n", api.OK)
	wantCalls(t, "P19.2: Line", l, "a writes A", "t reads 1", "a writes A", "t reads 1", "a writes A", "t reads 1", "t reads 1")
	wantState(t, "P19.2: Line", g, 0, bad(holding(2, 9, "")))
}

// TestAheadEnds: ahead of a Get that fails, that meets the end, that tries too often (P19.2).
func TestAheadEnds(t *testing.T) {
	for _, e := range append(rawErrors, api.ErrBlock) {
		l := &log{}
		g := asked(t, l, both(3, 9), l.raw("t").then(e), true)
		wantGet(t, "P19.2: Get", g, 2, 0, e)
		wantCalls(t, "P19.2: Get", l, "a writes A", "g writes G", "t reads 9")
		wantAhead(t, "P19.2: Get", g, true)
	}
	l := &log{}
	g := asked(t, l, both(3, 9), l.raw("t"), true)
	wantLine(t, "P19.2: Line", g, 2, 9, "", api.ErrEnd)
	wantCalls(t, "P19.2: Line", l, "a writes A", "g writes G", "t reads 9")
	wantState(t, "P19.2: Line", g, 2, ended(got(3, 9, "", "")))
	wantGet(t, "P19.2: Get behind the end", g, 2, 0, api.ErrEnd)
	wantCalls(t, "P19.2: Get behind the end", l)
	tty := l.raw("t")
	for range api.MaxTries + 1 {
		tty.then(api.ErrAgain)
	}
	g = New()
	add(t, g, holding(2, 9, "A"), l.raw("a", answer{e: api.ErrBlock}, answer{e: api.ErrBlock}))
	addTerminal(t, g, both(3, 9), tty)
	wantGet(t, "P19.2: Get that is tried too often", g, 1, 0, api.ErrTries)
	if len(l.calls) != 1+api.MaxTries || l.calls[0] != "a writes A" || l.calls[1] != "t reads 9" {
		t.Errorf("P19.2: %d raw calls", len(l.calls))
	}
	l.calls = nil
	wantGet(t, "P19.2: Get behind that", g, 1, 0, api.ErrEnd)
	wantCalls(t, "P19.2: Get behind that", l, "a writes A", "t reads 9", "t reads 9")
}

// TestAheadFails: what goes wrong with one stream is not told, sets its Bad (unless it is only blocked), and ends only its own delivery (P19.2).
func TestAheadFails(t *testing.T) {
	for _, e := range append(rawErrors, api.ErrBlock) {
		for name, call := range map[string]func(g *Registry) (string, api.Errno){
			"Get":  func(g *Registry) (string, api.Errno) { c, e := g.Get(2); return string([]byte{c}), e },
			"Line": func(g *Registry) (string, api.Errno) { b, e := g.Line(2, 1); return string(b), e },
		} {
			l := &log{}
			g := New()
			add(t, g, holding(2, 9, "abc"), l.raw("a", answer{n: 1}, answer{e: e}))
			add(t, g, holding(2, 9, "def"), l.raw("b", answer{n: 2}, breaks))
			addTerminal(t, g, both(3, 9), l.raw("t").tells("x"))
			add(t, g, holding(2, 9, "ghi"), l.raw("c"))
			if b, f := call(g); b != "x" || f != api.OK {
				t.Errorf("P19.2: %s: %q, %d", name, b, f)
			}
			wantCalls(t, "P19.2: "+name, l, "a writes abc", "a writes bc", "b writes def", "b writes f", "c writes ghi", "t reads 9")
			a := bad(holding(2, 9, "bc"))
			if e == api.ErrBlock {
				a.Bad = false
			}
			wantState(t, "P19.2: "+name, g, 0, a)
			wantState(t, "P19: "+name, g, 1, bad(holding(2, 9, "def")))
			wantState(t, "P19.2: "+name, g, 2, got(3, 9, "", ""))
			wantState(t, "P19.2: "+name, g, 3, holding(2, 9, ""))
		}
	}
}

// TestAheadOfTerminals: of two terminals each is asked behind the lines of both (P19.6).
func TestAheadOfTerminals(t *testing.T) {
	l := &log{}
	g := New()
	addTerminal(t, g, both(2, 99), l.raw("one").tells("1\n"))
	addTerminal(t, g, both(2, 99), l.raw("two").tells("2\n"))
	wantPut(t, "P19.2: Put", g, 0, "who? ", 5, api.OK)
	wantPut(t, "P19.2: Put", g, 1, "first\nwhat? ", 12, api.OK)
	wantLine(t, "P19.2: Line while it writes", g, 1, 9, "", api.ErrDir)
	wantCalls(t, "P19.2: Put", l, "two writes first\n")
	wantError(t, "P19.2: Flush", g.Flush(1), api.OK)
	wantLine(t, "P19.6: Line", g, 1, 9, "2\n", api.OK)
	wantCalls(t, "P19.6: Line", l, "two writes what? ", "one writes who? ", "two reads 99")
	// What was delivered still goes the way that it went.
	wantState(t, "P19.2: Line", g, 0, holding(2, 99, ""))
	wantLine(t, "P19.2: Line while it writes", g, 0, 9, "", api.ErrDir)
	wantError(t, "P19.2: Flush", g.Flush(0), api.OK)
	wantLine(t, "P19.6: Line", g, 0, 9, "1\n", api.OK)
	wantCalls(t, "P19.6: Line", l, "one reads 99")
}

// TestAheadHangsOnMarks: a stream's mode at that time counts, and a terminal's stream remains one by another state (P19.2).
func TestAheadHangsOnMarks(t *testing.T) {
	l := &log{}
	g := New()
	add(t, g, holding(2, 9, "A"), l.raw("a"))
	add(t, g, holding(3, 9, "B"), l.raw("b"))
	addTerminal(t, g, holding(3, 9, ""), l.raw("t").tells("one\n"))
	for id, s := range []stream.State{holding(3, 9, "A"), holding(2, 9, "B"), both(2, 4)} {
		wantError(t, "P19.1: Swap", g.Swap(id, s), api.OK)
	}
	wantLine(t, "P19.2: Line", g, 2, 9, "one\n", api.OK)
	wantCalls(t, "P19.2: Line", l, "b writes B", "t reads 4")
	g.Close(1)
	g.Swap(0, holding(2, 9, "A"))
	g.Close(0)
	wantCalls(t, "P19.2: Close", l, "a writes A")
	wantLine(t, "P19.2: Line where none is open beside it", g, 2, 9, "", api.ErrEnd)
	wantCalls(t, "P19.2: Line", l, "t reads 4")
}

// TestAheadOfMany: of MaxStreams streams each that is by lines is delivered, in the order of the numbers, not of their beginnings (P19.2).
func TestAheadOfMany(t *testing.T) {
	l := &log{}
	g := New()
	for i := range 90 {
		if i >= api.MaxStreams-1 {
			g.Close(g.Open()[i%7])
		}
		add(t, g, holding(2, 9, fmt.Sprint(i)), l.raw("x"))
	}
	l.calls = nil
	id := addTerminal(t, g, both(3, 9), l.raw("t"))
	var want []string
	for _, i := range g.Open() {
		if i != id {
			want = append(want, fmt.Sprint("x writes ", i))
		}
	}
	wantGet(t, "P19.2: Get", g, id, 0, api.ErrEnd)
	wantCalls(t, "P19.2: Get", l, append(want, "t reads 9")...)
	if len(want) != api.MaxStreams-1 {
		t.Errorf("P19.2: %d were delivered", len(want))
	}
}
