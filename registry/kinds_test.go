package registry

import (
	"fmt"
	"testing"

	"millrace/api"
	"millrace/faults"
	"millrace/kern"
	"millrace/memory"
	"millrace/retry"
	"millrace/stream"
)

// plans are the faults of these tests; none of them holds up more than they try.
var plans = []string{"", "i", "a i a", "s1 s1 i s2 a s1", "s2 s1 s3 i i a s1 s1 s1 s7 s1 a"}

func kernelOf(t *testing.T, words string) *kern.Kernel {
	t.Helper()
	l, e, _ := faults.Parse(words)
	if e != api.OK {
		t.Fatalf("%q are no faults: %d", words, e)
	}
	k, e := kern.New(kern.Config{
		Files:  []api.Named{{Name: "a", Data: []byte("in the file\n")}, {Name: "b"}},
		Terms:  []api.Typed{{Name: "t", Lines: [][]byte{[]byte("Ada\n"), []byte("36\n"), []byte("no newline")}}},
		Faults: l,
	})
	if e != api.OK {
		t.Fatal("there is no kernel:", e)
	}
	return k
}

func handleOf(t *testing.T, k *kern.Kernel, name string, flags int) kern.Handle {
	t.Helper()
	d, e := k.Open(name, flags)
	if e != api.OK {
		t.Fatalf("Open(%q, %d): %d", name, flags, e)
	}
	return kern.Handle{K: k, D: d}
}

// target is a Raw that is written, and what it took.
type target struct {
	raw   retry.Raw
	taken func() string
}

// targets are Raws of each kind.
func targets(t *testing.T, words string) map[string]target {
	t.Helper()
	k := kernelOf(t, words)
	rd, wd, _ := k.Pipe()
	fixed, _ := memory.NewFixed(2000, nil)
	growing, _ := memory.NewGrowing(nil)
	custom, _ := memory.NewCustom(nil, []int{1, 0, 3, 0, 0, 2, 1})
	screen := func() string { b, _ := k.Screen("t"); return string(b) }
	return map[string]target{
		"file":     {handleOf(t, k, "b", 2), func() string { return string(k.Files()[1].Data) }},
		"pipe":     {kern.Handle{K: k, D: wd}, func() string { return string(k.Held(rd)) }},
		"terminal": {handleOf(t, k, "t", 2), screen},
		"fixed":    {fixed, func() string { return string(fixed.Bytes()) }},
		"growing":  {growing, func() string { return string(growing.Bytes()) }},
		"custom":   {custom, func() string { return string(custom.Taken()) }},
	}
}

// TestNothingIsLost: what was put, and what the hooks put, is there behind the end, once and in order, over each kind of Raw, with faults, whatever the buffer is, and whatever becomes of the streams around it (P19.4).
func TestNothingIsLost(t *testing.T) {
	for _, words := range plans {
		for mode := 1; mode <= 3; mode++ {
			for _, size := range []int{1, 2, 5, 64, api.MaxBuf} {
				for name, x := range targets(t, words) {
					g := New()
					whole := ""
					breaking, _ := memory.NewCustom(nil, []int{-2})
					failing, _ := memory.NewCustom(nil, []int{-1})
					add(t, g, holding(3, 9, "lost"), breaking)
					id := add(t, g, both(mode, size), x.raw)
					add(t, g, holding(3, 9, "lost"), failing)
					hook(t, g, Hook{Kind: 1, Stream: id, Text: []byte("bye\n")})
					hook(t, g, Hook{Kind: 2})
					hook(t, g, Hook{Kind: 1, Stream: id, Text: []byte("last\nwords, ")})
					for i := range 20 {
						b := fmt.Sprint(i, " ", letters(i), "\n"[i%2:])
						wantPut(t, "P19.2: Put", g, id, b, len(b), api.OK)
						whole += b
						if i == 9 {
							wantError(t, "P19.2: FlushAll", g.FlushAll(), api.ErrPanic)
							if x.taken() != whole {
								t.Fatalf("P19.2: FlushAll: a %s took %q, not %q", name, x.taken(), whole)
							}
						}
					}
					wantExit(t, "P19.3: Exit", g, 1,
						hookNote(2, api.OK), hookNote(1, api.ErrPanic), hookNote(0, api.OK),
						streamNote(0, api.OK), streamNote(id, api.OK), streamNote(2, api.OK))
					if whole += "last\nwords, bye\n"; x.taken() != whole || t.Failed() {
						t.Fatalf("P19.4: a %s, with the faults %q, mode %d, size %d, took %q, not %q", name, words, mode, size, x.taken(), whole)
					}
				}
			}
		}
	}
}

// TestTalk: who sits at a terminal sees each question before they are asked, with faults, whatever the sizes are (P19.6).
func TestTalk(t *testing.T) {
	for _, words := range plans {
		for mode := 1; mode <= 3; mode++ {
			for _, size := range []int{1, 3, 64} {
				k := kernelOf(t, words)
				g := New()
				in := addTerminal(t, g, stream.State{Reads: true, Mode: mode, Size: size}, handleOf(t, k, "t", 1))
				out := addTerminal(t, g, stream.State{Writes: true, Mode: 2, Size: 64}, handleOf(t, k, "t", 2))
				log := add(t, g, stream.State{Writes: true, Mode: 3, Size: 64}, handleOf(t, k, "b", 2))
				seen := ""
				for _, talk := range []struct{ asks, answer string }{{"who? ", "Ada\n"}, {"hello!\nhow old? ", "36\n"}, {"bye", "no newline"}} {
					wantPut(t, "P19.2: Put", g, out, talk.asks, len(talk.asks), api.OK)
					wantPut(t, "P19.2: Put", g, log, talk.answer, len(talk.answer), api.OK)
					wantLine(t, "P19.6: Line", g, in, 99, talk.answer, api.OK)
					seen += talk.asks
					if b, _ := k.Screen("t"); string(b) != seen || len(k.Files()[1].Data) > 0 {
						t.Fatalf("P19.6: the faults %q, mode %d, size %d: the screen shows %q, not %q", words, mode, size, b, seen)
					}
				}
				wantLine(t, "P19.2: Line at the end", g, in, 99, "", api.ErrEnd)
				wantExit(t, "P19.3: Exit", g, 0, streamNote(0, api.OK), streamNote(1, api.OK), streamNote(2, api.OK))
				if b := k.Files()[1].Data; string(b) != "Ada\n36\nno newline" {
					t.Errorf("P19.4: the file has %q", b)
				}
			}
		}
	}
}

// TestFullPipe: what a pipe has no room for is told, is no failure, and is there once it has (P19.2, P19.3).
func TestFullPipe(t *testing.T) {
	k := kernelOf(t, "")
	rd, wd, _ := k.Pipe()
	g := New()
	add(t, g, both(2, 1000), kern.Handle{K: k, D: wd})
	in := addTerminal(t, g, both(3, 64), handleOf(t, k, "t", 1))
	wantPut(t, "P19.2: Put", g, 0, letters(4500), 4500, api.OK)
	for _, line := range []string{"Ada\n", "36\n"} {
		wantLine(t, "P19.2: Line", g, in, 9, line, api.OK)
		wantState(t, "P19.2: Line", g, 0, holding(2, 1000, letters(4500)[4000:]))
		if n := len(k.Held(rd)); n != 4000 {
			t.Errorf("P19.2: the pipe holds %d", n)
		}
	}
	wantPut(t, "P19.2: Put", g, 0, letters(600), 500, api.ErrBlock)
	wantExit(t, "P19.3: Exit", g, 0, streamNote(0, api.ErrBlock), streamNote(in, api.OK))
	if n := len(k.Held(rd)); n != api.PipeCap {
		t.Errorf("P19.4: the pipe holds %d", n)
	}
}

// TestNoObjects: Raws that no call made answer as their chapters say (P1).
func TestNoObjects(t *testing.T) {
	for _, r := range []retry.Raw{(*memory.Fixed)(nil), (*memory.Reader)(nil), (*memory.Custom)(nil), &memory.Growing{}, kern.Handle{}, nilRaw()} {
		g := New()
		id := addTerminal(t, g, both(1, 4), r)
		want := api.ErrMade
		if r == nilRaw() {
			want = api.ErrPanic
		}
		wantPut(t, "P1: Put", g, id, "a", 0, want)
		g.Swap(id, both(1, 4))
		wantGet(t, "P1: Get", g, id, 0, want)
		wantLine(t, "P1: Line", g, id, 1, "", want)
		g.Swap(id, holding(2, 4, "abcd"))
		wantError(t, "P1: Flush", g.Flush(id), want)
		wantExit(t, "P1: Exit", g, 0, streamNote(id, want))
	}
}

// nilRaw is a Raw behind which there is nothing.
func nilRaw() retry.Raw { return (*scripted)(nil) }
