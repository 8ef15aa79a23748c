package lines

import (
	"fmt"
	"strings"
	"testing"

	"millrace/api"
	"millrace/faults"
	"millrace/kern"
	"millrace/memory"
	"millrace/position"
	"millrace/retry"
	"millrace/stream"
)

// plans are the faults of these tests.
var plans = []string{"", "i", "a i a", "s1 s1 i s2 a s1", "s2 s1 s3 i i a s1 s1 s1 s7 s1 a"}

func kernelOf(t *testing.T, words, typed string) *kern.Kernel {
	t.Helper()
	l, e, _ := faults.Parse(words)
	if e != api.OK {
		t.Fatalf("%q are no faults: %d", words, e)
	}
	k, e := kern.New(kern.Config{
		Files:  []api.Named{{Name: "a", Data: []byte(typed)}, {Name: "b"}},
		Terms:  []api.Typed{{Name: "t", Lines: [][]byte{[]byte(typed)}}},
		Faults: l,
	})
	if e != api.OK {
		t.Fatal("there is no kernel:", e)
	}
	return k
}

func handleOf(t *testing.T, k *kern.Kernel, name string, flags int) kern.Handle {
	t.Helper()
	d, e := k.Open(name, flags)
	if e != api.OK {
		t.Fatalf("Open(%q, %d): %d", name, flags, e)
	}
	return kern.Handle{K: k, D: d}
}

func readerOf(b []byte) retry.Raw {
	r, _ := memory.NewReader(b)
	return r
}

// joined is a Raw to be written, and one that reads what was written, once it is asked for.
type joined struct {
	to   retry.Raw
	from func() retry.Raw
}

// joinedRaws are Raws of each kind.
func joinedRaws(t *testing.T, words string) map[string]joined {
	t.Helper()
	k := kernelOf(t, words, "")
	rd, wd, _ := k.Pipe()
	fixed, _ := memory.NewFixed(2000, nil)
	growing, _ := memory.NewGrowing(nil)
	custom, _ := memory.NewCustom(nil, []int{1, 0, 3, 0, 0, 2, 1})
	fromStart := func(r retry.Raw) func() retry.Raw {
		return func() retry.Raw {
			r.Seek(0, 0)
			return r
		}
	}
	return map[string]joined{
		"file":     {handleOf(t, k, "b", 2), func() retry.Raw { return handleOf(t, k, "b", 1) }},
		"pipe":     {kern.Handle{K: k, D: wd}, func() retry.Raw { k.Drop(wd); return kern.Handle{K: k, D: rd} }},
		"terminal": {handleOf(t, k, "t", 2), func() retry.Raw { b, _ := k.Screen("t"); return readerOf(b) }},
		"fixed":    {fixed, fromStart(fixed)},
		"growing":  {growing, fromStart(growing)},
		"custom":   {custom, func() retry.Raw { return readerOf(custom.Taken()) }},
	}
}

// someLines are lines without newlines, of all kinds of bytes and lengths.
var someLines = []string{"one", "", "two three", "", "", "x", "\x00\xff\r", strings.Repeat("long ", 60), letters(63), letters(64), letters(65), "last"}

// TestLinesThrough: lines that are put are got, one by one, over each kind of Raw, with faults, whatever the buffers are (P15.3).
func TestLinesThrough(t *testing.T) {
	for _, words := range plans {
		for mode, size := range buffers {
			for inMode, inSize := range buffers {
				for name, x := range joinedRaws(t, words) {
					linesThrough(t, x, both(mode, size), both(inMode, inSize))
					if t.Failed() {
						t.Fatalf("over a %s, with the faults %q, from mode %d, size %d to mode %d, size %d", name, words, mode, size, inMode, inSize)
					}
				}
			}
		}
	}
}

func linesThrough(t *testing.T, x joined, out, in stream.State) {
	t.Helper()
	for _, line := range someLines {
		out = putLine(t, out, x.to, line, len(line)+1, api.OK)
	}
	if _, e := stream.Close(out, x.to); e != api.OK {
		t.Errorf("P15.3: Close: %d", e)
	}
	from := x.from()
	for _, line := range someLines {
		in = get(t, in, from, api.MaxLine, line+"\n", api.OK)
	}
	in = get(t, in, from, api.MaxLine, "", api.ErrEnd)
	all(t, in, from, api.MaxFile, "", api.OK)
}

// TestLongLines: lines as long as may be are got as they were put (P15.3).
func TestLongLines(t *testing.T) {
	for mode := 1; mode <= 3; mode++ {
		for _, size := range []int{1, 4096, api.MaxBuf} {
			g, _ := memory.NewGrowing(nil)
			s := both(mode, size)
			long := letters(api.MaxLine - 1)
			for i := range 5 {
				s = putLine(t, s, g, long[i:], api.MaxLine-i, api.OK)
			}
			s, e := position.Rewind(s, g)
			if e != api.OK {
				t.Fatal("Rewind:", e)
			}
			for i := range 5 {
				s = get(t, s, g, api.MaxLine, long[i:]+"\n", api.OK)
			}
			get(t, s, g, api.MaxLine, "", api.ErrEnd)
		}
	}
}

// TestInTurn: a stream that is put to and got from in turn has its lines where they were put (P15.3).
func TestInTurn(t *testing.T) {
	for _, words := range plans {
		for mode, size := range buffers {
			k := kernelOf(t, words, "")
			h := handleOf(t, k, "b", 3)
			s := both(mode, size)
			var e api.Errno
			for i, line := range someLines {
				s = putLine(t, s, h, line, len(line)+1, api.OK)
				if s, e = position.Rewind(s, h); e != api.OK {
					t.Fatal("Rewind:", e)
				}
				for _, was := range someLines[:i+1] {
					s = get(t, s, h, 999, was+"\n", api.OK)
				}
				s = get(t, s, h, 999, "", api.ErrEnd)
			}
		}
	}
}

// fromRaws are Raws of each kind that is read, with that text in it.
func fromRaws(t *testing.T, words, said string) map[string]retry.Raw {
	t.Helper()
	k := kernelOf(t, words, said)
	rd, wd, _ := k.Pipe()
	retry.Put(kern.Handle{K: k, D: wd}, []byte(said))
	k.Drop(wd)
	fixed, _ := memory.NewFixed(len(said), []byte(said))
	growing, _ := memory.NewGrowing([]byte(said))
	custom, _ := memory.NewCustom([]memory.Answer{{Data: []byte(said[:9])}, {Err: api.ErrIntr}, {Data: []byte(said[9:])}}, nil)
	return map[string]retry.Raw{
		"file":     handleOf(t, k, "a", 1),
		"pipe":     kern.Handle{K: k, D: rd},
		"terminal": handleOf(t, k, "t", 1),
		"fixed":    fixed,
		"growing":  growing,
		"custom":   custom,
		"reader":   readerOf([]byte(said)),
	}
}

// TestTogether: lines that are got, put together, are what All gets, by each limit (P15.4).
func TestTogether(t *testing.T) {
	for _, last := range []string{"", "no newline", "\n\n"} {
		said := strings.Join(someLines, "\n") + last
		for _, words := range plans {
			for mode, size := range buffers {
				for _, limit := range []int{1, 64, api.MaxLine} {
					two := fromRaws(t, words, said)
					for name, one := range fromRaws(t, words, said) {
						if together := linesOf(t, both(mode, size), one, limit); together != said {
							t.Fatalf("P15.4: lines from a %s, with the faults %q, limit %d: %q", name, words, limit, together)
						}
						_, b, e := All(both(mode, size), two[name], api.MaxFile)
						if string(b) != said || e != api.OK {
							t.Fatalf("P15.4: All from a %s, with the faults %q: %q, %d", name, words, b, e)
						}
					}
				}
			}
		}
	}
}

// linesOf answers all lines, put together, and holds each against where a line ends.
func linesOf(t *testing.T, s stream.State, r retry.Raw, limit int) string {
	t.Helper()
	together := ""
	for {
		after, b, e := Get(s, r, limit)
		s = after
		if e == api.ErrEnd && len(b) == 0 {
			return together
		}
		if at := strings.IndexByte(string(b), '\n'); e != api.OK || len(b) == 0 || len(b) > limit || at >= 0 && at != len(b)-1 {
			t.Fatalf("P15.1: a line: %q, %d", b, e)
		}
		together += string(b)
	}
}

// TestPutThroughKinds: over each kind of Raw and with faults, Put is stream.Put of each byte: the same Out, the same that was taken (P15.5).
func TestPutThroughKinds(t *testing.T) {
	for _, words := range plans {
		for mode, size := range buffers {
			two := joinedRaws(t, words)
			for name, one := range joinedRaws(t, words) {
				s1, s2 := both(mode, size), both(mode, size)
				roll := dice(uint64(size))
				want := ""
				for range 9 {
					b := randomText(roll)
					b = b[:min(len(b), 60)]
					want += string(b)
					s1 = put(t, s1, one.to, string(b), len(b), api.OK)
					for _, c := range b {
						s2, _ = stream.Put(s2, two[name].to, c)
					}
					wantState(t, "P15.5: Put over a "+name, s1, s2)
				}
				stream.Close(s1, one.to)
				stream.Close(s2, two[name].to)
				b1, _ := retry.All(one.from(), 1000)
				b2, _ := retry.All(two[name].from(), 1000)
				if string(b1) != want || string(b2) != want {
					t.Fatalf("P15.5: a %s, with the faults %q, took %q and %q, not %q", name, words, b1, b2, want)
				}
			}
		}
	}
}

// TestFullPipe: a pipe without room holds what is put up, which is no failure; what it did not take is put once there is room (P15.2).
func TestFullPipe(t *testing.T) {
	for _, words := range plans {
		for mode, size := range buffers {
			k := kernelOf(t, words, "")
			rd, wd, _ := k.Pipe()
			r, w := kern.Handle{K: k, D: rd}, kern.Handle{K: k, D: wd}
			said := letters(3 * api.PipeCap)
			s, rest, got := both(mode, size), said, ""
			for rest != "" || len(s.Out) > 0 {
				var n int
				var e api.Errno
				s, n, e = Put(s, w, []byte(rest))
				if e == api.OK {
					s, e = stream.Flush(s, w)
				}
				if s.Bad || e != api.OK && e != api.ErrBlock {
					t.Fatalf("P15.2: Put over a full pipe: %d, %d, %s", n, e, show(s))
				}
				rest = rest[n:]
				b, _ := retry.Some(r, 1000)
				got += string(b)
			}
			k.Drop(wd)
			b, _ := retry.All(r, api.MaxFile)
			if got+string(b) != said {
				t.Fatalf("P15.2: mode %d, size %d: %d bytes came through the pipe", mode, size, len(got)+len(b))
			}
		}
	}
}

// TestNoReader: a pipe that nobody reads any more is told, and marks the stream (P15.2).
func TestNoReader(t *testing.T) {
	k := kernelOf(t, "", "")
	rd, wd, _ := k.Pipe()
	k.Drop(rd)
	w := kern.Handle{K: k, D: wd}
	wantState(t, "P15.2: Put", put(t, both(1, 9), w, "abc", 0, api.ErrPipe), bad(holding(1, 9, "")))
	wantState(t, "P15.2: PutLine", putLine(t, both(2, 9), w, "abc", 4, api.ErrPipe), bad(holding(2, 9, "abc\n")))
	wantState(t, "P15.2: Put", put(t, both(3, 2), w, "abc", 2, api.ErrPipe), bad(holding(3, 2, "ab")))
}

// TestFullMemory: memory takes what it has room for (P15.2).
func TestFullMemory(t *testing.T) {
	f, _ := memory.NewFixed(4, nil)
	wantState(t, "P15.2: Put", put(t, both(1, 9), f, "abcdef", 4, api.ErrFull), bad(holding(1, 9, "")))
	f, _ = memory.NewFixed(4, nil)
	wantState(t, "P15.2: Put", put(t, both(3, 3), f, "abcdefgh", 6, api.ErrFull), bad(holding(3, 3, "ef")))
	f, _ = memory.NewFixed(4, nil)
	wantState(t, "P15.2: PutLine", putLine(t, both(2, 9), f, "abcdef", 7, api.ErrFull), bad(holding(2, 9, "ef\n")))
	if string(f.Bytes()) != "abcd" {
		t.Errorf("P15.2: the memory has %q", f.Bytes())
	}
}

// TestEmptyPipe: where nothing is to be read yet the bytes so far are told beside ErrBlock, and the line goes on behind them (P15.1).
func TestEmptyPipe(t *testing.T) {
	for mode, size := range buffers {
		k := kernelOf(t, "", "")
		rd, wd, _ := k.Pipe()
		r, w := kern.Handle{K: k, D: rd}, kern.Handle{K: k, D: wd}
		s := get(t, both(mode, size), r, 99, "", api.ErrBlock)
		retry.Put(w, []byte("a li"))
		s = get(t, s, r, 99, "a li", api.ErrBlock)
		retry.Put(w, []byte("ne\nno"))
		s = get(t, s, r, 99, "ne\n", api.OK)
		s = all(t, s, r, 99, "no", api.ErrBlock)
		wantState(t, "P15.1: All", s, got(mode, size, "", ""))
		retry.Put(w, []byte("t whole"))
		k.Drop(wd)
		s = get(t, s, r, 99, "t whole", api.OK)
		get(t, s, r, 99, "", api.ErrEnd)
	}
}

// TestTerminal: an empty line that is typed is an end, behind which Clear lets the stream go on (P15.1).
func TestTerminal(t *testing.T) {
	for mode, size := range buffers {
		k, _ := kern.New(kern.Config{Terms: []api.Typed{{Name: "t", Lines: [][]byte{[]byte("one\n"), []byte("tw"), {}, []byte("o\n")}}}})
		h := handleOf(t, k, "t", 1)
		s := get(t, both(mode, size), h, 99, "one\n", api.OK)
		s = get(t, s, h, 99, "tw", api.OK)
		s = get(t, s, h, 99, "", api.ErrEnd)
		s, _ = stream.Clear(s)
		get(t, s, h, 99, "o\n", api.OK)
	}
}

// TestCustomFails: a custom stream's error is told beside how many were taken ahead of it (P15.1, P15.2).
func TestCustomFails(t *testing.T) {
	c, _ := memory.NewCustom([]memory.Answer{{Data: []byte("ab")}, {Err: api.ErrCustom}, {Data: []byte("c\n")}}, []int{2, 0, -1})
	s := get(t, both(3, 9), c, 9, "ab", api.ErrCustom)
	s = get(t, s, c, 9, "c\n", api.OK)
	wantState(t, "P15.1: Get", s, bad(got(3, 9, "", "")))
	wantState(t, "P15.2: Put", put(t, both(1, 9), c, "wxyz", 2, api.ErrCustom), bad(holding(1, 9, "")))
	if string(c.Taken()) != "wx" {
		t.Errorf("P15.2: %q was taken", c.Taken())
	}
}

// TestNilRaws: memories and handles that no call made answer as Raws, and do not panic (P1).
func TestNilRaws(t *testing.T) {
	for _, r := range []retry.Raw{(*memory.Fixed)(nil), (*memory.Reader)(nil), (*memory.Custom)(nil), &memory.Growing{}, kern.Handle{}} {
		for name, call := range gets {
			if answered := call(both(3, 4), r, 9); !answered.is(outcome{s: bad(got(3, 4, "", "")), e: api.ErrMade}) {
				t.Errorf("P1: %s over %s: %s", name, fmt.Sprintf("%T", r), answered)
			}
		}
		for name, call := range puts {
			if answered := call(both(1, 4), r, []byte("ab")); !answered.is(outcome{s: bad(holding(1, 4, "")), e: api.ErrMade}) {
				t.Errorf("P1: %s over %s: %s", name, fmt.Sprintf("%T", r), answered)
			}
		}
	}
}
