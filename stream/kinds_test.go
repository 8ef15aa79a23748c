package stream

import (
	"fmt"
	"strings"
	"testing"

	"millrace/api"
	"millrace/faults"
	"millrace/kern"
	"millrace/memory"
	"millrace/retry"
)

// plans are the kernel's whims, as words; none of them ends too early for a text of these tests.
var plans = []string{"", "i", "a i a", "s1", "s1 s1 i s2 a s1", "s2 s1 s3 i i a s1 s1 s1 s7 s1 a"}

// buffers are modes and sizes.
var buffers = []struct{ mode, size int }{{1, 1}, {1, 64}, {2, 1}, {2, 2}, {2, 5}, {2, api.MaxBuf}, {3, 1}, {3, 2}, {3, 3}, {3, 7}, {3, 64}, {3, api.MaxBuf}}

// said is a text with lines of many lengths.
const said = "one\n\ntwo three\nno newline \x00\xff at the end\n..\n\n\nx"

func kernelOf(t *testing.T, words string) *kern.Kernel {
	t.Helper()
	l, e, _ := faults.Parse(words)
	if e != api.OK {
		t.Fatalf("%q are no faults: %d", words, e)
	}
	k, e := kern.New(kern.Config{
		Files:  []api.Named{{Name: "a", Data: []byte(said)}, {Name: "b"}},
		Terms:  []api.Typed{{Name: "t", Lines: [][]byte{[]byte("one\n"), []byte("two"), {}, []byte("three\n"), {}, {}, []byte("4")}}},
		Faults: l,
	})
	if e != api.OK {
		t.Fatalf("there is no kernel: %d", e)
	}
	return k
}

func handleOf(t *testing.T, k *kern.Kernel, name string, flags int) kern.Handle {
	t.Helper()
	d, e := k.Open(name, flags)
	if e != api.OK {
		t.Fatalf("Open(%q, %d): %d", name, flags, e)
	}
	return kern.Handle{K: k, D: d}
}

// target is a Raw, and what it has taken.
type target struct {
	retry.Raw
	taken func() string
}

// targets are Raws of each kind that may be written.
func targets(t *testing.T, words string) map[string]target {
	t.Helper()
	k := kernelOf(t, words)
	_, w, e := k.Pipe()
	if e != api.OK {
		t.Fatal("there is no pipe:", e)
	}
	f, _ := memory.NewFixed(1000, nil)
	g, _ := memory.NewGrowing(nil)
	c, _ := memory.NewCustom(nil, []int{1, 0, 2, 1, 0, 0, 5})
	return map[string]target{
		"file":     {handleOf(t, k, "b", 2), func() string { return string(k.Files()[1].Data) }},
		"terminal": {handleOf(t, k, "t", 2), func() string { b, _ := k.Screen("t"); return string(b) }},
		"pipe":     {kern.Handle{K: k, D: w}, func() string { return string(k.Held(w)) }},
		"fixed":    {f, func() string { return string(f.Bytes()) }},
		"growing":  {g, func() string { return string(g.Bytes()) }},
		"custom":   {c, func() string { return string(c.Taken()) }},
	}
}

// TestAtEachFlushPoint: behind a call that is OK and leaves nothing held, the Raw has taken all that was put; behind the others what it has taken and what is held (P11.5).
func TestAtEachFlushPoint(t *testing.T) {
	for _, words := range plans {
		for _, b := range buffers {
			for name, x := range targets(t, words) {
				about := fmt.Sprintf("P11.5: %s, faults %q, Mode %d, Size %d", name, words, b.mode, b.size)
				s := both(b.mode, b.size)
				empty := 0
				for i := range len(said) {
					s = put(t, s, x, said[i], api.OK)
					if x.taken()+string(s.Out) != said[:i+1] {
						t.Fatalf("%s: Put: %q was taken, %q is held, of %q", about, x.taken(), s.Out, said[:i+1])
					}
					if len(s.Out) == 0 {
						empty++
					}
					if i%11 == 10 {
						s = flush(t, s, x, api.OK)
						if x.taken() != said[:i+1] || s.Dir != noWay || len(s.Out) > 0 {
							t.Fatalf("%s: Flush: %q was taken of %q: %s", about, x.taken(), said[:i+1], show(s))
						}
					}
				}
				s = closed(t, s, x, api.OK)
				if x.taken() != said {
					t.Errorf("%s: Close: %q was taken", about, x.taken())
				}
				wantState(t, about, s, done(both(b.mode, b.size)))
				if b.size == 1 && empty != len(said) {
					t.Errorf("%s: %d Puts of %d left nothing held", about, empty, len(said))
				}
			}
		}
	}
}

// sources are Raws of each kind that may be read, and behind them what their reads tell: the bytes up to an end, up to the next one, and so on; one name for each.
func sources(t *testing.T, words string) map[string]retry.Raw {
	t.Helper()
	k := kernelOf(t, words)
	r, w, e := k.Pipe()
	if e != api.OK {
		t.Fatal("there is no pipe:", e)
	}
	full := kern.Handle{K: k, D: w}
	if n, e := retry.Put(full, []byte(said)); n != len(said) || e != api.OK {
		t.Fatal("the pipe takes", n, e)
	}
	k.Drop(w)
	f, _ := memory.NewFixed(1000, []byte(said))
	g, _ := memory.NewGrowing([]byte(said))
	b, _ := memory.NewReader([]byte(said))
	c, _ := memory.NewCustom([]memory.Answer{{Data: []byte("one")}, {}, {Err: api.ErrCustom}, {Data: []byte("two\nthree")}, {Err: api.ErrIntr}, {Data: []byte("4")}, {Err: api.ErrEnd}, {Err: api.ErrBlock}, {Data: []byte("five")}}, nil)
	return map[string]retry.Raw{
		"file":     handleOf(t, k, "a", 1),
		"terminal": handleOf(t, k, "t", 1),
		"pipe":     kern.Handle{K: k, D: r},
		"fixed":    f,
		"growing":  g,
		"reader":   b,
		"custom":   c,
	}
}

// toldBy is what reads tell: bytes, and in brackets what is none.
func toldBy(parts int, next func() (string, api.Errno)) string {
	var l strings.Builder
	for range parts {
		b, e := next()
		if e != api.OK {
			fmt.Fprintf(&l, "[%d]", e)
			continue
		}
		l.WriteString(b)
	}
	return l.String()
}

// TestGetsTellReads: over each kind of Raw, whatever the faults, Mode and Size are, also over ends and errors (P11.7).
func TestGetsTellReads(t *testing.T) {
	// So many Gets that each source is told to its end, and some ends more.
	const gets = 70
	want := map[string]string{
		"file": said, "pipe": said, "fixed": said, "growing": said, "reader": said,
		"terminal": "one\ntwo[111]three\n[111][111]4",
		"custom":   "one[111][101]two\nthree4[111][52]five",
	}
	for _, words := range plans {
		for _, b := range buffers {
			for name, x := range sources(t, words) {
				s := both(b.mode, b.size)
				told := toldBy(gets, func() (string, api.Errno) {
					var c byte
					var e api.Errno
					s, c, e = Get(s, x)
					if e == api.ErrEnd {
						s = clearMarks(t, s, api.OK)
					}
					return string([]byte{c}), e
				})
				if !strings.HasPrefix(told, want[name]) || strings.ReplaceAll(told[len(want[name]):], "[111]", "") != "" {
					t.Errorf("P11.7: %s, faults %q, Mode %d, Size %d: %q, not %q", name, words, b.mode, b.size, told, want[name])
				}
			}
		}
	}
}

// TestPipeBlocks: a full pipe holds up Puts and Flushes and loses nothing; an empty one holds up Gets (P11.2, P11.3, P11.4).
func TestPipeBlocks(t *testing.T) {
	k := kernelOf(t, "")
	rd, wd, _ := k.Pipe()
	r, w := kern.Handle{K: k, D: rd}, kern.Handle{K: k, D: wd}
	whole := text(api.PipeCap + 6)
	retry.Put(w, []byte(whole[:api.PipeCap-1]))
	wantState(t, "P11.3: Get", getNone(t, both(3, 4), handlePipe(t, k), api.ErrBlock), got(3, 4, "", ""))

	s := putAll(t, both(3, 4), w, whole[api.PipeCap-1:api.PipeCap+2])
	s = put(t, s, w, whole[api.PipeCap+2], api.ErrBlock)
	wantState(t, "P11.2: Put", s, holding(3, 4, whole[api.PipeCap-1:api.PipeCap+3]))
	s = put(t, s, w, '?', api.ErrBlock)
	wantState(t, "P11.2: Put", s, holding(3, 4, whole[api.PipeCap-1:api.PipeCap+3]))
	s = flush(t, s, w, api.ErrBlock)
	wantState(t, "P11.4: Flush", s, holding(3, 4, whole[api.PipeCap-1:api.PipeCap+3]))

	u := put(t, both(1, 1), w, whole[api.PipeCap-1], api.OK)
	u = put(t, u, w, '?', api.ErrBlock)
	wantState(t, "P11.2: Put", u, holding(1, 1, ""))

	in := both(2, 1000)
	for i := range api.PipeCap {
		in = get(t, in, r, whole[i])
	}
	in = getNone(t, in, r, api.ErrBlock)
	wantState(t, "P11.3: Get", in, got(2, 1000, "", ""))
	s = put(t, s, w, '!', api.OK)
	wantState(t, "P11.2: Put", s, holding(3, 4, "!"))
	closed(t, s, w, api.OK)
	in = getAll(t, in, r, whole[api.PipeCap-1:api.PipeCap+3]+"!")
	k.Drop(w.D)
	wantState(t, "P11.3: Get", getNone(t, in, r, api.ErrEnd), ended(got(2, 1000, "", "")))
}

// handlePipe is the reading end of a new pipe, which has a writing one.
func handlePipe(t *testing.T, k *kern.Kernel) kern.Handle {
	t.Helper()
	r, _, e := k.Pipe()
	if e != api.OK {
		t.Fatal("there is no pipe:", e)
	}
	return kern.Handle{K: k, D: r}
}

// TestPipeIsBroken: nobody reads any more (P11.2, P11.4).
func TestPipeIsBroken(t *testing.T) {
	k := kernelOf(t, "")
	r, w, _ := k.Pipe()
	k.Drop(r)
	h := kern.Handle{K: k, D: w}
	s := putAll(t, both(3, 3), h, "ab")
	s = put(t, s, h, 'c', api.ErrPipe)
	wantState(t, "P11.2: Put", s, bad(holding(3, 3, "abc")))
	wantState(t, "P11.4: Flush", flush(t, s, h, api.ErrPipe), s)
	wantState(t, "P11.4: Close", closed(t, clearMarks(t, s, api.OK), h, api.ErrPipe), done(bad(both(3, 3))))
}

// TestFixedIsFull: what there is room for is delivered, the rest is held (P11.2, P11.4).
func TestFixedIsFull(t *testing.T) {
	f, _ := memory.NewFixed(5, nil)
	s := putAll(t, both(3, 3), f, "abcde")
	s = put(t, s, f, 'f', api.ErrFull)
	wantState(t, "P11.2: Put", s, bad(holding(3, 3, "f")))
	if string(f.Bytes()) != "abcde" {
		t.Errorf("P11.2: Put: %q was taken", f.Bytes())
	}
	s = flush(t, s, f, api.ErrFull)
	f.Seek(0, 0)
	s = put(t, s, f, 'g', api.OK)
	s = closed(t, s, f, api.OK)
	wantState(t, "P11.4: Close", s, done(bad(both(3, 3))))
	if string(f.Bytes()) != "fgcde" {
		t.Errorf("P11.5: Close: %q was taken", f.Bytes())
	}
}

// TestFileWays: a file is read to its end and then written; a Get behind a Flush goes on at the file's place (P11.2, P11.3, P11.4).
func TestFileWays(t *testing.T) {
	k := kernelOf(t, "s1 i a")
	h := handleOf(t, k, "a", 3)
	s := getAll(t, opened(t, "r+", 3, 16), h, said)
	put(t, s, h, '!', api.ErrDir)
	s = getNone(t, s, h, api.ErrEnd)
	s = putAll(t, s, h, "more")
	getNone(t, s, h, api.ErrDir)
	s = flush(t, s, h, api.OK)
	// The end was met, until Clear.
	getNone(t, s, h, api.ErrEnd)
	s = clearMarks(t, s, api.OK)
	h.Seek(-2, 2)
	s = getAll(t, s, h, "re")
	s = getNone(t, s, h, api.ErrEnd)
	closed(t, s, h, api.OK)
	if b := string(k.Files()[0].Data); b != said+"more" {
		t.Errorf("P11.5: the file is %q", b)
	}
}

// TestWrongRaws: their errors are told, and set Bad, also those by which a stream would refuse (P11.2, P11.3, P11.4).
func TestWrongRaws(t *testing.T) {
	k := kernelOf(t, "")
	b, _ := memory.NewReader([]byte("abc"))
	for _, c := range []struct {
		r     retry.Raw
		read  api.Errno
		write api.Errno
	}{
		{b, api.OK, api.ErrMode},
		{handleOf(t, k, "a", 1), api.OK, api.ErrMode},
		{handleOf(t, k, "a", 2), api.ErrMode, api.OK},
		{kern.Handle{K: k, D: 99}, api.ErrDesc, api.ErrDesc},
		{kern.Handle{}, api.ErrMade, api.ErrMade},
		{(*memory.Fixed)(nil), api.ErrMade, api.ErrMade},
		{(*memory.Growing)(nil), api.ErrMade, api.ErrMade},
		{(*memory.Custom)(nil), api.ErrMade, api.ErrMade},
		{&memory.Custom{}, api.ErrMade, api.ErrMade},
		{&memory.Reader{}, api.ErrMade, api.ErrMade},
	} {
		after, _, e := Get(both(1, 1), c.r)
		if e != c.read || after.Bad != (e != api.OK) || after.Dir != reading {
			t.Errorf("P11.3: Get of %T: %s, %d, not %d", c.r, show(after), e, c.read)
		}
		// Nothing is written as long as there is room.
		s := put(t, both(3, 2), c.r, 'a', api.OK)
		s = put(t, s, c.r, 'b', c.write)
		want := holding(3, 2, "")
		if c.write != api.OK {
			want = bad(holding(3, 2, "ab"))
		}
		wantState(t, "P11.2: Put", s, want)
		s = closed(t, holding(3, 2, "b"), c.r, c.write)
		if s.Bad != (c.write != api.OK) || !s.Closed {
			t.Errorf("P11.4: Close over %T: %s", c.r, show(s))
		}
	}
}

// TestCustomFails: by its numbers (P11.2, P11.4).
func TestCustomFails(t *testing.T) {
	c, _ := memory.NewCustom(nil, []int{0, 2, -1, 1, -1})
	s := putAll(t, both(3, 4), c, "abc")
	s = put(t, s, c, 'd', api.ErrCustom)
	wantState(t, "P11.2: Put", s, bad(holding(3, 4, "cd")))
	s = clearMarks(t, s, api.OK)
	s = flush(t, s, c, api.ErrCustom)
	wantState(t, "P11.4: Flush", s, bad(holding(3, 4, "d")))
	s = putAll(t, s, c, "efg")
	closed(t, s, c, api.OK)
	if string(c.Taken()) != "abcdefg" {
		t.Errorf("P11.5: Close: %q was taken", c.Taken())
	}
}

// counted is a memory whose raw calls are counted.
type counted struct {
	*memory.Growing
	reads, writes int
}

func (x *counted) Read(n int) ([]byte, api.Errno) {
	x.reads++
	return x.Growing.Read(n)
}

func (x *counted) Write(b []byte) (int, api.Errno) {
	x.writes++
	return x.Growing.Write(b)
}

// TestFewCalls: of n bytes at most n / B + 1 writes and reads, just as many as there must be (P11.6).
func TestFewCalls(t *testing.T) {
	for _, size := range []int{1, 2, 3, 7, 16, 100, 1000, api.MaxBuf} {
		for _, n := range []int{0, 1, 2, 6, 7, 8, 14, 15, 16, 17, 99, 100, 101, 300, 1000, 2001} {
			g, _ := memory.NewGrowing(nil)
			x := &counted{Growing: g}
			s := putAll(t, both(3, size), x, text(n))
			closed(t, s, x, api.OK)
			if least := (n + size - 1) / size; x.writes > n/size+1 || x.writes != least {
				t.Errorf("P11.6: %d Puts and a Close, Size %d: %d writes, not %d", n, size, x.writes, least)
			}
			x.Seek(0, 0)
			s = getAll(t, both(3, size), x, text(n))
			if least := (n + size - 1) / size; x.reads > n/size+1 || x.reads != least {
				t.Errorf("P11.6: %d Gets, Size %d: %d reads, not %d", n, size, x.reads, least)
			}
			closed(t, s, x, api.OK)
		}
	}
}
