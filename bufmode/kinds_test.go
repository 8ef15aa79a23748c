package bufmode

import (
	"fmt"
	"strings"
	"testing"

	"millrace/api"
	"millrace/faults"
	"millrace/kern"
	"millrace/memory"
	"millrace/retry"
	"millrace/stream"
)

// plans are the faults of these tests.
var plans = []string{"", "i", "a i a", "s1", "s1 s1 i s2 a s1", "s2 s1 s3 i i a s1 s1 s1 s7 s1 a"}

// said is a text with lines of many lengths.
const said = "one\n\ntwo three\nno newline \x00\xff at the end\n..\n\n\nx"

func kernelOf(t *testing.T, words string) *kern.Kernel {
	t.Helper()
	l, e, _ := faults.Parse(words)
	if e != api.OK {
		t.Fatalf("%q are no faults: %d", words, e)
	}
	k, e := kern.New(kern.Config{
		Files:  []api.Named{{Name: "a", Data: []byte(said)}, {Name: "b"}},
		Terms:  []api.Typed{{Name: "t"}},
		Faults: l,
	})
	if e != api.OK {
		t.Fatalf("there is no kernel: %d", e)
	}
	return k
}

func handleOf(t *testing.T, k *kern.Kernel, name string, flags int) kern.Handle {
	t.Helper()
	d, e := k.Open(name, flags)
	if e != api.OK {
		t.Fatalf("Open(%q, %d): %d", name, flags, e)
	}
	return kern.Handle{K: k, D: d}
}

// target is a Raw, and what it has taken.
type target struct {
	retry.Raw
	taken func() string
}

// targets are Raws of each kind that may be written.
func targets(t *testing.T, words string) map[string]target {
	t.Helper()
	k := kernelOf(t, words)
	_, w, e := k.Pipe()
	if e != api.OK {
		t.Fatal("there is no pipe:", e)
	}
	f, _ := memory.NewFixed(1000, nil)
	g, _ := memory.NewGrowing(nil)
	c, _ := memory.NewCustom(nil, []int{1, 0, 2, 1, 0, 0, 5})
	return map[string]target{
		"file":     {handleOf(t, k, "b", 2), func() string { return string(k.Files()[1].Data) }},
		"terminal": {handleOf(t, k, "t", 2), func() string { b, _ := k.Screen("t"); return string(b) }},
		"pipe":     {kern.Handle{K: k, D: w}, func() string { return string(k.Held(w)) }},
		"fixed":    {f, func() string { return string(f.Bytes()) }},
		"growing":  {g, func() string { return string(g.Bytes()) }},
		"custom":   {c, func() string { return string(c.Taken()) }},
	}
}

// TestTakenInTheEnd: over each kind of Raw, whatever the faults are, whenever the mode and the size are changed (P12.4).
func TestTakenInTheEnd(t *testing.T) {
	for _, words := range plans {
		for seed := range 60 {
			for name, x := range targets(t, words) {
				roll := dice(uint64(seed))
				about := fmt.Sprintf("%s, faults %q, seed %d", name, words, seed)
				s := both(1+roll(3), 1+roll(9))
				often := 1 + roll(12)
				for i := range len(said) {
					s = put(t, s, x, said[i:i+1])
					if roll(often) == 0 {
						s = set(t, s, x, 1+roll(3), 1+roll(9), api.OK)
						if x.taken() != said[:i+1] || len(s.Out) > 0 {
							t.Fatalf("P12.1: %s: Set: %q was taken of %q, %s", about, x.taken(), said[:i+1], show(s))
						}
					}
				}
				closed(t, s, x)
				if x.taken() != said {
					t.Fatalf("P12.4: %s: %q was taken", about, x.taken())
				}
			}
		}
	}
}

// stubborn is a Raw that now and then takes a part, is blocked, or fails.
type stubborn struct {
	roll  func(int) int
	taken string
	quiet bool
}

func (x *stubborn) Read(n int) ([]byte, api.Errno) {
	return nil, api.ErrMode
}

func (x *stubborn) Write(b []byte) (int, api.Errno) {
	n := len(b)
	if !x.quiet {
		switch x.roll(6) {
		case 0:
			return 0, api.ErrBlock
		case 1:
			return 0, api.ErrPipe
		case 2:
			n = x.roll(n + 1)
		}
	}
	x.taken += string(b[:n])
	return n, api.OK
}

func (x *stubborn) Seek(off int, whence int) (int, api.Errno) {
	return 0, api.ErrSeek
}

// TestTakenAcrossErrors: a byte that was taken is delivered once, in order, be it that Set's delivery is blocked, delivers a part or fails again and again (P12.1, P12.4).
func TestTakenAcrossErrors(t *testing.T) {
	for seed := range 400 {
		roll := dice(uint64(seed))
		x := &stubborn{roll: roll}
		s := holding(2+roll(2), 1+roll(9), "")
		sent := ""
		for sent != said && !t.Failed() {
			if roll(3) == 0 {
				s = setOver(t, s, x, 1+roll(3), 1+roll(9))
				continue
			}
			was := x.taken + string(s.Out)
			s, _ = stream.Put(s, x, said[len(sent)])
			// Of a Put that was refused the byte was not taken.
			if x.taken+string(s.Out) != was {
				sent = said[:len(sent)+1]
			}
			if x.taken+string(s.Out) != sent {
				t.Fatalf("P12.4: seed %d: Put: %q was taken, %q is held, of %q", seed, x.taken, s.Out, sent)
			}
		}
		x.quiet = true
		closed(t, s, x)
		if x.taken != said {
			t.Fatalf("P12.4: seed %d: %q was taken", seed, x.taken)
		}
	}
}

// setOver holds the state that follows a Set over a stubborn Raw against what the Raw took.
func setOver(t *testing.T, s stream.State, x *stubborn, mode, size int) stream.State {
	t.Helper()
	before := x.taken
	after, e := Set(s, x, mode, size)
	want := s
	want.Out = []byte(strings.TrimPrefix(before+string(s.Out), x.taken))
	switch e {
	case api.OK:
		want.Mode, want.Size = mode, size
	case api.ErrPipe:
		want.Bad = true
	}
	wantState(t, "P12.1: Set", after, want)
	if before+string(s.Out) != x.taken+string(after.Out) || e == api.OK && len(after.Out) > 0 {
		t.Errorf("P12.4: Set, %s: %d, %q was taken", show(s), e, strings.TrimPrefix(x.taken, before))
	}
	return after
}

// TestPipeBlocksSet: a full pipe holds Set up and loses nothing; with no reader left it is told (P12.1).
func TestPipeBlocksSet(t *testing.T) {
	k := kernelOf(t, "")
	rd, wd, _ := k.Pipe()
	r, w := kern.Handle{K: k, D: rd}, kern.Handle{K: k, D: wd}
	s := put(t, both(3, 8), w, "abc")
	if n, e := retry.Put(w, []byte(text(api.PipeCap))); n != api.PipeCap || e != api.OK {
		t.Fatal("the pipe takes", n, e)
	}
	s = set(t, s, w, 1, 1, api.ErrBlock)
	wantState(t, "P12.1: Set", s, holding(3, 8, "abc"))
	retry.All(r, api.PipeCap)
	s = set(t, s, w, 2, 5, api.OK)
	wantState(t, "P12.1: Set", s, holding(2, 5, ""))
	if b := string(k.Held(wd)); b != "abc" {
		t.Errorf("P12.1: Set: the pipe holds %q", b)
	}
	s = put(t, s, w, "de")
	k.Drop(rd)
	wantState(t, "P12.1: Set", set(t, s, w, 3, 8, api.ErrPipe), bad(holding(2, 5, "de")))
}

// TestGetsAcrossSets: what Gets tell does not hang on modes and sizes either, as what was read stays (P12.1).
func TestGetsAcrossSets(t *testing.T) {
	for _, words := range plans {
		for seed := range 60 {
			roll := dice(uint64(seed))
			x := handleOf(t, kernelOf(t, words), "a", 1)
			s := both(1+roll(3), 1+roll(9))
			often := 1 + roll(12)
			for i := range len(said) {
				s = get(t, s, x, said[i:i+1])
				if roll(often) == 0 {
					s = set(t, s, x, 1+roll(3), 1+roll(9), api.OK)
				}
			}
			if _, _, e := stream.Get(s, x); e != api.ErrEnd {
				t.Errorf("P12.1: faults %q, seed %d: behind the end %d", words, seed, e)
			}
		}
	}
}

// TestFileWays: a file is read and written through one stream whose buffer is changed in each Dir (P12.1, P12.4).
func TestFileWays(t *testing.T) {
	k := kernelOf(t, "s1 i a")
	h := handleOf(t, k, "a", 3)
	s := set(t, both(3, 16), h, 2, 7, api.OK)
	s = get(t, s, h, said[:20])
	s = set(t, s, h, 1, 1, api.OK)
	s = get(t, s, h, said[20:])
	s, _, _ = stream.Get(s, h)
	s = set(t, s, h, 3, 3, api.OK)
	s = put(t, s, h, "mo")
	s = set(t, s, h, 3, 64, api.OK)
	s = put(t, s, h, "re")
	s = flush(t, s, h)
	s = set(t, s, h, 2, 64, api.OK)
	s = put(t, s, h, "\nand more")
	closed(t, s, h)
	if b := string(k.Files()[0].Data); b != said+"more\nand more" {
		t.Errorf("P12.4: the file is %q", b)
	}
}
