package blocks

import (
	"fmt"
	"testing"

	"millrace/api"
	"millrace/faults"
	"millrace/kern"
	"millrace/memory"
	"millrace/position"
	"millrace/retry"
	"millrace/stream"
)

// plans are the faults of these tests.
var plans = []string{"", "i", "a i a", "s1 s1 i s2 a s1", "s2 s1 s3 i i a s1 s1 s1 s7 s1 a"}

func kernelOf(t *testing.T, words, typed string) *kern.Kernel {
	t.Helper()
	l, e, _ := faults.Parse(words)
	if e != api.OK {
		t.Fatalf("%q are no faults: %d", words, e)
	}
	k, e := kern.New(kern.Config{
		Files:  []api.Named{{Name: "a", Data: []byte(typed)}, {Name: "b"}},
		Terms:  []api.Typed{{Name: "t", Lines: [][]byte{[]byte(typed)}}},
		Faults: l,
	})
	if e != api.OK {
		t.Fatal("there is no kernel:", e)
	}
	return k
}

func handleOf(t *testing.T, k *kern.Kernel, name string, flags int) kern.Handle {
	t.Helper()
	d, e := k.Open(name, flags)
	if e != api.OK {
		t.Fatalf("Open(%q, %d): %d", name, flags, e)
	}
	return kern.Handle{K: k, D: d}
}

func readerOf(b []byte) retry.Raw {
	r, _ := memory.NewReader(b)
	return r
}

// joined is a Raw to be written, and one that reads what was written, once it is asked for.
type joined struct {
	to   retry.Raw
	from func() retry.Raw
}

// joinedRaws are Raws of each kind.
func joinedRaws(t *testing.T, words string) map[string]joined {
	t.Helper()
	k := kernelOf(t, words, "")
	rd, wd, _ := k.Pipe()
	fixed, _ := memory.NewFixed(2000, nil)
	growing, _ := memory.NewGrowing(nil)
	custom, _ := memory.NewCustom(nil, []int{1, 0, 3, 0, 0, 2, 1})
	fromStart := func(r retry.Raw) func() retry.Raw {
		return func() retry.Raw {
			r.Seek(0, 0)
			return r
		}
	}
	return map[string]joined{
		"file":     {handleOf(t, k, "b", 2), func() retry.Raw { return handleOf(t, k, "b", 1) }},
		"pipe":     {kern.Handle{K: k, D: wd}, func() retry.Raw { k.Drop(wd); return kern.Handle{K: k, D: rd} }},
		"terminal": {handleOf(t, k, "t", 2), func() retry.Raw { b, _ := k.Screen("t"); return readerOf(b) }},
		"fixed":    {fixed, fromStart(fixed)},
		"growing":  {growing, fromStart(growing)},
		"custom":   {custom, func() retry.Raw { return readerOf(custom.Taken()) }},
	}
}

// TestThrough: what Write of some size puts Read of any sizes with the same product gets, over each kind of Raw, with faults, whatever the buffers are (P16.2).
func TestThrough(t *testing.T) {
	for _, words := range plans {
		for mode, bufSize := range buffers {
			for inMode, inSize := range buffers {
				for name, x := range joinedRaws(t, words) {
					blocksThrough(t, x, both(mode, bufSize), both(inMode, inSize))
					if t.Failed() {
						t.Fatalf("over a %s, with the faults %q, from mode %d, size %d to mode %d, size %d", name, words, mode, bufSize, inMode, inSize)
					}
				}
			}
		}
	}
}

// products are how many bytes are put and got at one time.
var products = []int{1, 12, 60, 7, 64, 65, 2}

func blocksThrough(t *testing.T, x joined, out, in stream.State) {
	t.Helper()
	said := text(2000)
	for _, n := range products {
		for size, count := range shapes(n) {
			out = write(t, out, x.to, said[:n], size, count, count, api.OK)
			said = said[n:]
		}
	}
	if _, e := stream.Close(out, x.to); e != api.OK {
		t.Errorf("P16.2: Close: %d", e)
	}
	said = text(2000)
	from := x.from()
	for _, n := range products {
		// Got by the other side: as many as their size was, of the size that their count was.
		for size, count := range shapes(n) {
			in = read(t, in, from, count, size, said[:n], size, api.OK)
			said = said[n:]
		}
	}
	read(t, in, from, 3, 3, "", 0, api.ErrEnd)
}

// TestEachShape: from each shape to each other of the same product, and what is left of a greater one (P16.2).
func TestEachShape(t *testing.T) {
	for mode, bufSize := range buffers {
		for _, n := range []int{1, 12, 30, 64, 72} {
			for size, count := range shapes(n) {
				for inSize, inCount := range shapes(n) {
					g, _ := memory.NewGrowing(nil)
					s := write(t, both(mode, bufSize), g, text(n), size, count, count, api.OK)
					s, e := position.Rewind(s, g)
					if e != api.OK {
						t.Fatal("Rewind:", e)
					}
					s = read(t, s, g, inSize, inCount, text(n), inCount, api.OK)
					s, _ = position.Rewind(s, g)
					read(t, s, g, inSize, inCount+1, text(n), inCount, api.ErrEnd)
				}
			}
		}
	}
}

// TestInTurn: a stream that is written and read in turn has its elements where they were put (P16.2).
func TestInTurn(t *testing.T) {
	for _, words := range plans {
		for mode, bufSize := range buffers {
			k := kernelOf(t, words, "")
			h := handleOf(t, k, "b", 3)
			s := both(mode, bufSize)
			said := text(9 * 35)
			var e api.Errno
			for i := 1; i <= 9; i++ {
				s = write(t, s, h, said[35*(i-1):35*i], 5, 7, 7, api.OK)
				if s, e = position.Rewind(s, h); e != api.OK {
					t.Fatal("Rewind:", e)
				}
				s = read(t, s, h, 7, 5*i, said[:35*i], 5*i, api.OK)
				s = read(t, s, h, 1, 1, "", 0, api.ErrEnd)
			}
		}
	}
}

// fromRaws are Raws of each kind that is read, with that text in it.
func fromRaws(t *testing.T, words, said string) map[string]retry.Raw {
	t.Helper()
	k := kernelOf(t, words, said)
	rd, wd, _ := k.Pipe()
	retry.Put(kern.Handle{K: k, D: wd}, []byte(said))
	k.Drop(wd)
	fixed, _ := memory.NewFixed(len(said), []byte(said))
	growing, _ := memory.NewGrowing([]byte(said))
	custom, _ := memory.NewCustom([]memory.Answer{{Data: []byte(said[:9])}, {Err: api.ErrIntr}, {Data: []byte(said[9:])}}, nil)
	return map[string]retry.Raw{
		"file":     handleOf(t, k, "a", 1),
		"pipe":     kern.Handle{K: k, D: rd},
		"terminal": handleOf(t, k, "t", 1),
		"fixed":    fixed,
		"growing":  growing,
		"custom":   custom,
		"reader":   readerOf([]byte(said)),
	}
}

// TestReadKinds: from each kind of Raw and with faults the elements are those of the text, up to the last whole one (P16.1).
func TestReadKinds(t *testing.T) {
	said := letters(190)
	for _, words := range plans {
		for mode, bufSize := range buffers {
			for size := 1; size <= 8; size++ {
				for name, r := range fromRaws(t, words, said) {
					s := read(t, both(mode, bufSize), r, size, 7, said[:7*size], 7, api.OK)
					rest := said[7*size:]
					s = read(t, s, r, size, 200, rest, len(rest)/size, api.ErrEnd)
					wantState(t, "P16.1: Read", s, ended(got(mode, bufSize, "", "")))
					if t.Failed() {
						t.Fatalf("from a %s, with the faults %q, mode %d, size %d", name, words, mode, bufSize)
					}
				}
			}
		}
	}
}

// TestFullPipe: a pipe without room is no failure; only whole elements of what was taken are told, and all that was taken comes through (P16.1).
func TestFullPipe(t *testing.T) {
	k := kernelOf(t, "", "")
	rd, wd, _ := k.Pipe()
	r, w := kern.Handle{K: k, D: rd}, kern.Handle{K: k, D: wd}
	said := letters(6000)
	s := write(t, both(1, 9), w, said, 1000, 6, 4, api.ErrBlock)
	wantState(t, "P16.1: Write", s, holding(1, 9, ""))
	read(t, both(3, 64), r, 1000, 6, said[:api.PipeCap], 4, api.ErrBlock)

	s = write(t, both(3, 1000), w, said, 700, 8, 0, api.ErrCount)
	s = write(t, s, w, said[:5600], 700, 8, 7, api.ErrBlock)
	// Five buffers were taken, of which the pipe holds as much as it has room for.
	wantState(t, "P16.1: Write", s, holding(3, 1000, said[api.PipeCap:5000]))
	in := read(t, both(3, 64), r, 100, 50, said[:api.PipeCap], 40, api.ErrBlock)
	s, e := stream.Flush(s, w)
	if e != api.OK {
		t.Errorf("Flush: %d", e)
	}
	in = read(t, in, r, 904, 2, said[api.PipeCap:5000], 1, api.ErrBlock)
	k.Drop(wd)
	read(t, in, r, 1, 1, "", 0, api.ErrEnd)
}

// TestEmptyPipe: where nothing is to be read yet the bytes so far are told beside ErrBlock, which is no failure (P16.1).
func TestEmptyPipe(t *testing.T) {
	for mode, bufSize := range buffers {
		k := kernelOf(t, "", "")
		rd, wd, _ := k.Pipe()
		r, w := kern.Handle{K: k, D: rd}, kern.Handle{K: k, D: wd}
		s := read(t, both(mode, bufSize), r, 2, 2, "", 0, api.ErrBlock)
		retry.Put(w, []byte("abc"))
		s = read(t, s, r, 2, 2, "abc", 1, api.ErrBlock)
		wantState(t, "P16.1: Read", s, got(mode, bufSize, "", ""))
		retry.Put(w, []byte("defgh"))
		s = read(t, s, r, 2, 2, "defg", 2, api.OK)
		k.Drop(wd)
		read(t, s, r, 2, 2, "h", 0, api.ErrEnd)
	}
}

// TestNoReader: a pipe that nobody reads any more is told, and marks the stream (P16.1).
func TestNoReader(t *testing.T) {
	k := kernelOf(t, "", "")
	rd, wd, _ := k.Pipe()
	k.Drop(rd)
	w := kern.Handle{K: k, D: wd}
	wantState(t, "P16.1: Write", write(t, both(1, 9), w, "abcd", 1, 4, 0, api.ErrPipe), bad(holding(1, 9, "")))
	wantState(t, "P16.1: Write", write(t, both(2, 9), w, "abc\nde", 3, 2, 1, api.ErrPipe), bad(holding(2, 9, "abc\n")))
	wantState(t, "P16.1: Write", write(t, both(3, 3), w, "abcd", 2, 2, 1, api.ErrPipe), bad(holding(3, 3, "abc")))
}

// TestFullMemory: memory takes what it has room for (P16.1).
func TestFullMemory(t *testing.T) {
	for size, count := range shapes(12) {
		f, _ := memory.NewFixed(7, nil)
		wantState(t, "P16.1: Write", write(t, both(1, 9), f, letters(12), size, count, 7/size, api.ErrFull), bad(holding(1, 9, "")))
		g, _ := memory.NewFixed(7, nil)
		wantState(t, "P16.1: Write", write(t, both(3, 5), g, letters(12), size, count, 10/size, api.ErrFull), bad(holding(3, 5, letters(12)[7:10])))
		if string(f.Bytes()) != letters(7) || string(g.Bytes()) != letters(7) {
			t.Errorf("P16.1: the memories have %q and %q", f.Bytes(), g.Bytes())
		}
	}
}

// TestTerminal: an empty line that is typed is an end, behind which Clear lets the stream go on (P16.1).
func TestTerminal(t *testing.T) {
	for mode, bufSize := range buffers {
		k, _ := kern.New(kern.Config{Terms: []api.Typed{{Name: "t", Lines: [][]byte{[]byte("one\n"), []byte("tw"), {}, []byte("o\n")}}}})
		h := handleOf(t, k, "t", 1)
		s := read(t, both(mode, bufSize), h, 2, 5, "one\ntw", 3, api.ErrEnd)
		s = read(t, s, h, 2, 1, "", 0, api.ErrEnd)
		s, _ = stream.Clear(s)
		read(t, s, h, 2, 1, "o\n", 1, api.OK)
	}
}

// TestCustomFails: a custom stream's error is told beside what was moved ahead of it (P16.1).
func TestCustomFails(t *testing.T) {
	c, _ := memory.NewCustom([]memory.Answer{{Data: []byte("abc")}, {Err: api.ErrCustom}, {Data: []byte("de")}}, []int{2, 1, -1})
	s := read(t, both(3, 9), c, 2, 2, "abc", 1, api.ErrCustom)
	s = read(t, s, c, 2, 1, "de", 1, api.OK)
	wantState(t, "P16.1: Read", s, bad(got(3, 9, "", "")))
	wantState(t, "P16.1: Write", write(t, both(1, 9), c, "uvwxyz", 2, 3, 1, api.ErrCustom), bad(holding(1, 9, "")))
	if string(c.Taken()) != "uvw" {
		t.Errorf("P16.1: %q was taken", c.Taken())
	}
}

// TestNilRaws: memories and handles that no call made answer as Raws, and do not panic (P1).
func TestNilRaws(t *testing.T) {
	for _, r := range []retry.Raw{(*memory.Fixed)(nil), (*memory.Reader)(nil), (*memory.Custom)(nil), &memory.Growing{}, kern.Handle{}} {
		if x := reading(both(3, 4), r, 1, 2); !x.is(outcome{s: bad(got(3, 4, "", "")), e: api.ErrMade}) {
			t.Errorf("P1: Read over %s: %s", fmt.Sprintf("%T", r), x)
		}
		if x := writing(both(1, 4), r, []byte("ab"), 1, 2); !x.is(outcome{s: bad(holding(1, 4, "")), e: api.ErrMade}) {
			t.Errorf("P1: Write over %s: %s", fmt.Sprintf("%T", r), x)
		}
	}
}
