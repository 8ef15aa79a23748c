package kern

import (
	"bytes"
	"slices"
	"testing"

	"millrace/api"
)

// TestConfigIsNotKept: what New was handed is neither kept nor changed (P6.10).
func TestConfigIsNotKept(t *testing.T) {
	data, line := []byte("hello, and room"), []byte("typed, and room")
	c := Config{
		Files:  []api.Named{{Name: "a", Data: data[:5]}, aNamed("b", "bee")},
		Terms:  []api.Typed{{Name: "t", Lines: [][]byte{line[:5], []byte("two")}}},
		Faults: []api.Fault{{Kind: 1, N: 2}, {Kind: 3}, {}},
	}
	k, other := kernelOf(t, c), kernelOf(t, c)
	wantOpen(t, k, "a", 1+2+4, 1)
	wantWrite(t, k, 1, "##", 2)
	wantNoWrite(t, k, 1, "##", api.ErrAgain)
	wantWrite(t, k, 1, "######", 6)
	wantOpen(t, k, "t", 1+2, 2)
	wantRead(t, k, 2, 3, "typ")
	wantWrite(t, k, 2, "##", 2)
	wantOpen(t, k, "b", 2+16, 3)
	if string(data) != "hello, and room" || string(line) != "typed, and room" || string(c.Files[1].Data) != "bee" || len(c.Terms[0].Lines) != 2 || c.Faults[0] != (api.Fault{Kind: 1, N: 2}) || c.Faults[1].Kind != 3 {
		t.Error("P6.10: what New was handed was changed")
	}
	wantFiles(t, other, aNamed("a", "hello"), aNamed("b", "bee"))
	clear(data)
	clear(line)
	c.Files[1] = aNamed("other", "x")
	c.Terms[0].Lines[1] = []byte("####")
	c.Terms[0] = aTyped("other")
	clear(c.Faults)
	wantMet(t, other, 0, 0, "s2 a f")
	wantFiles(t, k, aNamed("a", "hello########"), aNamed("b", ""))
	wantFiles(t, other, aNamed("a", "hello"), aNamed("b", "bee"))
	wantRead(t, k, 2, 9, "ed")
	wantRead(t, k, 2, 9, "two")
}

// TestWrittenIsNotKept: what was handed in to Write is neither kept nor changed, the room behind it included (P6.10).
func TestWrittenIsNotKept(t *testing.T) {
	k := smallKernel(t, "", "")
	wantOpen(t, k, "a", 1+2, 1)
	wantOpen(t, k, "t", 2, 2)
	wantPipe(t, k, 3, 4)
	for _, d := range []int{1, 2, 4} {
		b := []byte("bytes, and room")
		if n, e := k.Write(d, b[:5]); n != 5 || e != api.OK {
			t.Fatalf("P6.3: Write(%d): %d, %d", d, n, e)
		}
		wantWrite(t, k, d, "##", 2)
		if string(b) != "bytes, and room" {
			t.Errorf("P6.10: what was handed in to Write(%d) was changed: %q", d, b)
		}
		clear(b)
	}
	wantFiles(t, k, aNamed("a", "bytes##"))
	wantScreen(t, k, "t", "bytes##")
	wantHeld(t, k, 3, "bytes##")
}

// spoil changes an answer, and the room behind it.
func spoil(b []byte) {
	_ = append(b, "????????"...)
	for i := range b {
		b[i] = '?'
	}
}

// TestAnswersAreNewMemory: neither the bytes of an answer nor the room behind them are the kernel's or another answer's (P6.10).
func TestAnswersAreNewMemory(t *testing.T) {
	k := kernelOf(t, Config{
		Files:  []api.Named{aNamed("a", "hello"), aNamed("b", "bee"), aNamed("c", "sea")},
		Terms:  []api.Typed{aTyped("t", "typed", "more")},
		Faults: whims(t, "f f f s9 f i a"),
	})
	wantOpen(t, k, "a", 1+2, 1)
	wantOpen(t, k, "t", 1+2, 2)
	wantPipe(t, k, 3, 4)
	wantWrite(t, k, 4, "0123456789", 10)
	wantWrite(t, k, 2, "screen", 6)
	wantFirst := []string{"he", "ty", "01"}
	var first [][]byte
	for d := 1; d <= 3; d++ {
		b, _ := k.Read(d, 2)
		first = append(first, b)
	}
	_ = append(first[0], "????"...)
	_ = append(first[1], "????"...)
	_ = append(first[2], "????"...)
	files, again := k.Files(), k.Files()
	screen, screen2 := mustScreen(k), mustScreen(k)
	held, held2 := k.Held(3), k.Held(4)
	rest, rest2 := k.Rest(), k.Rest()
	for i, f := range files {
		spoil(f.Data)
		files[i].Name = "?"
	}
	spoil(screen)
	spoil(held)
	clear(rest)
	_ = append(rest, api.Fault{Kind: 3})
	if !slices.EqualFunc(again, []api.Named{aNamed("a", "hello"), aNamed("b", "bee"), aNamed("c", "sea")}, sameNamed) || string(screen2) != "screen" || string(held2) != "23456789" || !slices.Equal(rest2, whims(t, "i a")) {
		t.Error("P6.10: two answers share memory")
	}
	wantFiles(t, k, again...)
	wantScreen(t, k, "t", "screen")
	wantHeld(t, k, 3, "23456789")
	wantMet(t, k, 3, 2, "i a")
	for i, want := range wantFirst {
		if string(first[i]) != want {
			t.Errorf("P6.10: an earlier read is %q now; want %q", first[i], want)
		}
	}
	wantNoRead(t, k, 1, 9, api.ErrIntr)
	wantNoRead(t, k, 2, 9, api.ErrAgain)
	wantRead(t, k, 1, 9, "llo")
	wantRead(t, k, 2, 9, "ped")
	wantRead(t, k, 3, 9, "23456789")
	for i := range first {
		spoil(first[i])
	}
	wantFiles(t, k, again...)
	wantRead(t, k, 2, 9, "more")
}

func mustScreen(k *Kernel) []byte {
	b, _ := k.Screen("t")
	return b
}

// TestEarlierAnswersStay: what is written later is not seen in them.
func TestEarlierAnswersStay(t *testing.T) {
	k := smallKernel(t, "hello", "")
	wantOpen(t, k, "a", 1+2, 1)
	wantOpen(t, k, "t", 2, 2)
	wantPipe(t, k, 3, 4)
	wantWrite(t, k, 2, "screen", 6)
	wantWrite(t, k, 4, "held", 4)
	b, _ := k.Read(1, 5)
	files, screen, held := k.Files(), mustScreen(k), k.Held(3)
	wantSeek(t, k, 1, 0, 0, 0)
	wantWrite(t, k, 1, "#########", 9)
	wantWrite(t, k, 2, "#########", 9)
	wantRead(t, k, 3, 9, "held")
	for range 9 {
		wantWrite(t, k, 4, text(500), 500)
		wantRead(t, k, 3, 500, text(500))
	}
	if string(b) != "hello" || !bytes.Equal(files[0].Data, b) || string(screen) != "screen" || string(held) != "held" {
		t.Errorf("P6.10: earlier answers are %q, %q, %q, %q now", b, files[0].Data, screen, held)
	}
}
