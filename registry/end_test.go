package registry

import (
	"fmt"
	"math"
	"slices"
	"testing"

	"millrace/api"
	"millrace/stream"
)

// TestEndOfNothing: with neither hooks nor streams, whatever the code is (P19.3).
func TestEndOfNothing(t *testing.T) {
	for _, code := range []int{0, 1, 3, 255, -1, math.MaxInt, math.MinInt} {
		g := New()
		wantExit(t, "P19.3: Exit", g, code)
		for _, again := range []int{code, 0, 7} {
			if n, l, e := g.Exit(again); n != 0 || len(l) != 0 || e != api.ErrExiting {
				t.Errorf("P19.3: Exit again: %d, %v, %d", n, l, e)
			}
		}
		if !g.Ended() || len(g.Open()) > 0 {
			t.Errorf("P19.3: behind Exit: Ended %t, Open %v", g.Ended(), g.Open())
		}
	}
}

// TestExample: the chapter's example 1.
func TestExample(t *testing.T) {
	g, l := New(), &log{}
	a, b := l.raw("a"), l.raw("b")
	add(t, g, holding(3, 9, "a"), a)
	add(t, g, holding(3, 9, "b"), b)
	hook(t, g, Hook{Kind: 1, Stream: 0, Text: []byte("c")})
	wantExit(t, "example 1: Exit", g, 3, hookNote(0, api.OK), streamNote(0, api.OK), streamNote(1, api.OK))
	if a.taken != "ac" || b.taken != "b" {
		t.Errorf("example 1: %q and %q were taken", a.taken, b.taken)
	}
}

// TestAtExitRefuses: each error, ahead of those that are named behind it; nothing is changed (P19.3).
func TestAtExitRefuses(t *testing.T) {
	long, most := make([]byte, api.MaxLine+1), make([]byte, api.MaxLine)
	wrongKinds := []int{0, 5, -1, math.MaxInt, math.MinInt}
	g, l := New(), &log{}
	for i := range api.MaxHooks {
		for _, kind := range wrongKinds {
			wantError(t, "P19.3: AtExit", g.AtExit(Hook{Kind: kind}), api.ErrArg)
			wantError(t, "P4: AtExit, too long", g.AtExit(Hook{Kind: kind, Text: long}), api.ErrArg)
		}
		for kind := 1; kind <= 4; kind++ {
			wantError(t, "P19.3: AtExit, too long", g.AtExit(Hook{Kind: kind, Text: long}), api.ErrLong)
		}
		// Text may stand in a hook of each kind, and any number of a stream.
		hook(t, g, Hook{Kind: i%4 + 1, Stream: 1000 - i*99, Text: most, Code: -i})
	}
	for kind := 1; kind <= 4; kind++ {
		wantError(t, "P19.3: AtExit of one more", g.AtExit(Hook{Kind: kind}), api.ErrCount)
		wantError(t, "P4: AtExit of one more, too long", g.AtExit(Hook{Kind: kind, Text: long}), api.ErrLong)
	}
	wantError(t, "P4: AtExit of one more, of no kind", g.AtExit(Hook{}), api.ErrArg)
	var notes []Note
	for i := api.MaxHooks - 1; i >= 0; i-- {
		notes = append(notes, hookNote(i, []api.Errno{api.ErrStream, api.ErrPanic, api.ErrExiting, api.ErrStream}[i%4]))
	}
	wantExit(t, "P19.5: Exit", g, 1, notes...)
	wantError(t, "P19.3: AtExit behind the end", g.AtExit(Hook{Kind: 2}), api.ErrExiting)
	wantError(t, "P4: AtExit behind the end, of no kind", g.AtExit(Hook{}), api.ErrExiting)
	wantError(t, "P4: AtExit behind the end, too long", g.AtExit(Hook{Kind: 1, Text: long}), api.ErrExiting)
	wantCalls(t, "P19.3: AtExit", l)
}

// TestHooksBackwards: each runs once, the last one first, and their numbers are those of their coming (P19.5).
func TestHooksBackwards(t *testing.T) {
	for n := range api.MaxHooks + 1 {
		g, l := New(), &log{}
		add(t, g, both(1, 9), l.raw("a"))
		var notes []Note
		var want []string
		for i := range n {
			hook(t, g, Hook{Kind: 1, Text: []byte(fmt.Sprint(i))})
			notes = append([]Note{hookNote(i, api.OK)}, notes...)
			want = append([]string{fmt.Sprint("a writes ", i)}, want...)
		}
		wantCalls(t, "P19.5: AtExit", l)
		wantExit(t, "P19.5: Exit", g, n, append(notes, streamNote(0, api.OK))...)
		g.Exit(n)
		wantCalls(t, "P19.5: Exit", l, want...)
	}
}

// TestHooksOfAllKinds: what each answers; what is put by one is there for the next, and at the end (P19.3, P19.5).
func TestHooksOfAllKinds(t *testing.T) {
	g, l := New(), &log{}
	add(t, g, holding(3, 9, "a"), l.raw("a"))
	add(t, g, holding(3, 9, "b"), l.raw("b"))
	add(t, g, holding(3, 9, "c"), l.raw("c"))
	add(t, g, stream.State{Reads: true, Mode: 3, Size: 9}, l.raw("d"))
	add(t, g, got(3, 9, "in", ""), l.raw("e"))
	g.Close(2)
	wantCalls(t, "P19.2: Close", l, "c writes c")
	for _, h := range []Hook{
		{Kind: 1, Stream: 0, Text: []byte("!")},
		{Kind: 1, Stream: 1, Text: []byte("behind")},
		{Kind: 4, Stream: 1},
		{Kind: 4, Stream: 1},
		{Kind: 3, Code: 7},
		{Kind: 2, Stream: 1, Text: []byte("text")},
		{Kind: 1, Stream: 1, Text: []byte("ahead")},
		{Kind: 4, Stream: 2},
		{Kind: 1, Stream: 2, Text: []byte("2")},
		{Kind: 1, Stream: 5, Text: []byte("5")},
		{Kind: 4, Stream: -1},
		{Kind: 1, Stream: 3, Text: []byte("3")},
		{Kind: 1, Stream: 3},
		{Kind: 1, Stream: 4, Text: []byte("4")},
		{Kind: 3, Code: 3},
		{Kind: 1, Stream: 0, Text: []byte("0\n0")},
	} {
		hook(t, g, h)
	}
	var notes []Note
	for i, e := range slices.Backward([]api.Errno{
		api.OK, api.ErrStream, api.ErrStream, api.OK, api.ErrExiting, api.ErrPanic, api.OK, api.ErrStream,
		api.ErrStream, api.ErrStream, api.ErrStream, api.ErrMode, api.OK, api.ErrDir, api.ErrExiting, api.OK,
	}) {
		notes = append(notes, hookNote(i, e))
	}
	notes = append(notes, streamNote(0, api.OK), streamNote(3, api.OK), streamNote(4, api.OK))
	wantExit(t, "P19.3: Exit", g, -5, notes...)
	wantCalls(t, "P19.4: Exit", l, "b writes bahead", "a writes a0\n0!")
}

// TestHooksFail: a hook's Put and Close tell what the Raw answers, a panic too; the hooks behind it and the other streams go on (P19.3, P19.4).
func TestHooksFail(t *testing.T) {
	for _, c := range []struct {
		answer answer
		e      api.Errno
		out    string
	}{
		{answer{e: api.ErrFull}, api.ErrFull, "abc"},
		{answer{e: api.ErrBlock}, api.ErrBlock, "abc"},
		{answer{e: api.ErrPanic}, api.ErrPanic, "abc"},
		// Of what the Put did nothing is kept.
		{breaks, api.ErrPanic, "ab"},
		{answer{n: -1}, api.ErrRaw, "abc"},
	} {
		g, l := New(), &log{}
		add(t, g, holding(3, 3, "ab"), l.raw("a", c.answer))
		add(t, g, holding(3, 9, "x"), l.raw("x", c.answer))
		add(t, g, both(3, 9), l.raw("y"))
		hook(t, g, Hook{Kind: 1, Stream: 2, Text: []byte("last")})
		hook(t, g, Hook{Kind: 4, Stream: 1})
		hook(t, g, Hook{Kind: 1, Stream: 0, Text: []byte("c")})
		wantExit(t, "P19.3: Exit", g, 1, hookNote(2, c.e), hookNote(1, c.e), hookNote(0, api.OK), streamNote(0, api.OK), streamNote(2, api.OK))
		wantCalls(t, "P19.4: Exit", l, "a writes abc", "x writes x", "a writes "+c.out, "y writes last")
	}
}

// TestEndOfStreams: each that is open still is closed, in order, whatever becomes of the others (P19.3, P19.4).
func TestEndOfStreams(t *testing.T) {
	g, l := New(), &log{}
	raws := []*scripted{
		l.raw("a"), l.raw("b", answer{n: 1}, answer{e: api.ErrFull}), l.raw("c", answer{n: 2}, breaks), l.raw("d"),
		l.raw("e", answer{e: api.ErrBlock}), l.raw("f", answer{n: 1}, answer{e: api.ErrIntr}, answer{n: 0}, answer{n: 1}), l.raw("g"), l.raw("h"), l.raw("i"),
	}
	for i, s := range []stream.State{
		holding(3, 9, "aaa"), bad(holding(3, 9, "bbb")), holding(2, 9, "ccc"), holding(3, 9, "ddd"),
		holding(3, 9, "eee"), ended(holding(3, 3, "fff")), got(3, 9, "in", "back"), holding(1, 9, ""), holding(2, 9, "iii"),
	} {
		added(t, g, s, raws[i], i%2 == 0)
	}
	g.Close(3)
	wantCalls(t, "P19.2: Close", l, "d writes ddd")
	wantExit(t, "P19.3: Exit", g, 2,
		streamNote(0, api.OK), streamNote(1, api.ErrFull), streamNote(2, api.ErrPanic), streamNote(4, api.ErrBlock), streamNote(5, api.OK), streamNote(6, api.OK), streamNote(7, api.OK), streamNote(8, api.OK))
	wantCalls(t, "P19.4: Exit", l, "a writes aaa", "b writes bbb", "b writes bb", "c writes ccc", "c writes c", "e writes eee", "f writes fff", "f writes ff", "f writes ff", "f writes ff", "f writes f", "i writes iii")
	for i, want := range []string{"aaa", "b", "cc", "ddd", "", "fff", "", "", "iii"} {
		if raws[i].taken != want {
			t.Errorf("P19.4: %s took %q, not %q", raws[i].name, raws[i].taken, want)
		}
	}
	g.Exit(2)
	wantCalls(t, "P19.4: Exit again", l)
}

// TestEndOfMany: of MaxStreams streams each is closed once, in order, with MaxHooks hooks ahead of them (P19.3, P19.4).
func TestEndOfMany(t *testing.T) {
	g, l := New(), &log{}
	for i := range api.MaxStreams {
		add(t, g, holding(3, 99, fmt.Sprint(i, " ")), l.raw(fmt.Sprint(i)))
	}
	for i := range api.MaxHooks {
		hook(t, g, Hook{Kind: 1, Stream: i * 2, Text: []byte("hook")})
	}
	var notes []Note
	for i := api.MaxHooks - 1; i >= 0; i-- {
		notes = append(notes, hookNote(i, api.OK))
	}
	var want []string
	for i := range api.MaxStreams {
		notes = append(notes, streamNote(i, api.OK))
		text := fmt.Sprint(i, " writes ", i, " ")
		if i%2 == 0 {
			text += "hook"
		}
		want = append(want, text)
	}
	wantExit(t, "P19.3: Exit", g, 1, notes...)
	wantCalls(t, "P19.4: Exit", l, want...)
}

// TestLongHook: a Text of MaxLine bytes is put as it is (P19.3).
func TestLongHook(t *testing.T) {
	for mode := 1; mode <= 3; mode++ {
		g, l := New(), &log{}
		x := l.raw("a")
		add(t, g, both(mode, 1000), x)
		hook(t, g, Hook{Kind: 1, Text: []byte(letters(api.MaxLine))})
		wantExit(t, "P19.3: Exit", g, 1, hookNote(0, api.OK), streamNote(0, api.OK))
		if x.taken != letters(api.MaxLine) {
			t.Errorf("P19.4: %d bytes were taken", len(x.taken))
		}
	}
}

// TestHookIsNotRun: before the end no hook runs, and streams that come later are its too (P19.3).
func TestHookIsNotRun(t *testing.T) {
	g, l := New(), &log{}
	hook(t, g, Hook{Kind: 1, Stream: 1, Text: []byte("late")})
	hook(t, g, Hook{Kind: 4, Stream: 0})
	if g.Ended() {
		t.Error("P19.3: Ended behind AtExit")
	}
	add(t, g, both(3, 9), l.raw("a"))
	add(t, g, both(3, 9), l.raw("b"))
	g.FlushAll()
	wantCalls(t, "P19.3: AtExit", l)
	wantOpen(t, "P19.3: AtExit", g, 0, 1)
	wantExit(t, "P19.3: Exit", g, 1, hookNote(1, api.OK), hookNote(0, api.OK), streamNote(1, api.OK))
	wantCalls(t, "P19.4: Exit", l, "b writes late")
}
