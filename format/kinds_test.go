package format

import (
	"fmt"
	"slices"
	"testing"

	"millrace/api"
	"millrace/faults"
	"millrace/kern"
	"millrace/memory"
	"millrace/retry"
	"millrace/stream"
)

// plans are the faults of these tests.
var plans = []string{"", "i", "a i a", "s1 s1 i s2 a s1", "s2 s1 s3 i i a s1 s1 s1 s7 s1 a"}

func kernelOf(t *testing.T, words, typed string) *kern.Kernel {
	t.Helper()
	l, e, _ := faults.Parse(words)
	if e != api.OK {
		t.Fatalf("%q are no faults: %d", words, e)
	}
	k, e := kern.New(kern.Config{
		Files:  []api.Named{{Name: "a", Data: []byte(typed)}, {Name: "b"}},
		Terms:  []api.Typed{{Name: "t", Lines: [][]byte{[]byte(typed)}}},
		Faults: l,
	})
	if e != api.OK {
		t.Fatal("there is no kernel:", e)
	}
	return k
}

func handleOf(t *testing.T, k *kern.Kernel, name string, flags int) kern.Handle {
	t.Helper()
	d, e := k.Open(name, flags)
	if e != api.OK {
		t.Fatalf("Open(%q, %d): %d", name, flags, e)
	}
	return kern.Handle{K: k, D: d}
}

func readerOf(b []byte) retry.Raw {
	r, _ := memory.NewReader(b)
	return r
}

// joined is a Raw to be written, and one that reads what was written, once it is asked for.
type joined struct {
	to   retry.Raw
	from func() retry.Raw
}

// joinedRaws are Raws of each kind.
func joinedRaws(t *testing.T, words string) map[string]joined {
	t.Helper()
	k := kernelOf(t, words, "")
	rd, wd, _ := k.Pipe()
	fixed, _ := memory.NewFixed(2000, nil)
	growing, _ := memory.NewGrowing(nil)
	custom, _ := memory.NewCustom(nil, []int{1, 0, 3, 0, 0, 2, 1})
	fromStart := func(r retry.Raw) func() retry.Raw {
		return func() retry.Raw {
			r.Seek(0, 0)
			return r
		}
	}
	return map[string]joined{
		"file":     {handleOf(t, k, "b", 2), func() retry.Raw { return handleOf(t, k, "b", 1) }},
		"pipe":     {kern.Handle{K: k, D: wd}, func() retry.Raw { k.Drop(wd); return kern.Handle{K: k, D: rd} }},
		"terminal": {handleOf(t, k, "t", 2), func() retry.Raw { b, _ := k.Screen("t"); return readerOf(b) }},
		"fixed":    {fixed, fromStart(fixed)},
		"growing":  {growing, fromStart(growing)},
		"custom":   {custom, func() retry.Raw { return readerOf(custom.Taken()) }},
	}
}

// TestThrough: what is printed is what is read, over each kind of Raw, with faults, whatever the buffer is (P17.2).
func TestThrough(t *testing.T) {
	for _, words := range plans {
		for mode, size := range buffers {
			for name, x := range joinedRaws(t, words) {
				s, whole := both(mode, size), ""
				for _, said := range append(sayings, sayings...) {
					s = prints(t, s, x.to, len(said.text), api.OK, said.f, said.args...)
					whole += said.text
				}
				if _, e := stream.Close(s, x.to); e != api.OK {
					t.Errorf("P17.2: Close: %d", e)
				}
				b, e := retry.All(x.from(), 2000)
				if string(b) != whole || e != api.OK || t.Failed() {
					t.Fatalf("P17.2: a %s, with the faults %q, mode %d, size %d, took %q, not %q", name, words, mode, size, b, whole)
				}
			}
		}
	}
}

// TestTogetherThrough: two Prints are the Print of both patterns (P17.5).
func TestTogetherThrough(t *testing.T) {
	for _, words := range plans {
		for mode, size := range buffers {
			for _, one := range sayings {
				for _, two := range sayings {
					g, _ := memory.NewGrowing(nil)
					k := kernelOf(t, words, "")
					h := handleOf(t, k, "b", 2)
					s1 := prints(t, both(mode, size), h, len(one.text), api.OK, one.f, one.args...)
					s1 = prints(t, s1, h, len(two.text), api.OK, two.f, two.args...)
					s2 := prints(t, both(mode, size), g, len(one.text+two.text), api.OK, one.f+two.f, slices.Concat(one.args, two.args)...)
					wantState(t, "P17.5: Print", s1, s2)
					stream.Close(s1, h)
					stream.Close(s2, g)
					b, _ := retry.All(handleOf(t, k, "b", 1), 2000)
					if string(b) != one.text+two.text || string(g.Bytes()) != string(b) {
						t.Fatalf("P17.5: with the faults %q: %q and %q", words, b, g.Bytes())
					}
				}
			}
		}
	}
}

// TestFullPipe: a pipe without room is no failure; what was taken is told (P17.2).
func TestFullPipe(t *testing.T) {
	k := kernelOf(t, "", "")
	rd, wd, _ := k.Pipe()
	r, w := kern.Handle{K: k, D: rd}, kern.Handle{K: k, D: wd}
	said := letters(3000)
	s := prints(t, both(1, 9), w, api.PipeCap, api.ErrBlock, "%s%3000.d", Text(said), Int(0))
	wantState(t, "P17.2: Print", s, holding(1, 9, ""))
	b, _ := retry.Some(r, 9000)
	if string(b) != fmt.Sprintf("%s%1096s", said, "") {
		t.Errorf("P17.2: %d bytes came through", len(b))
	}
	s = prints(t, both(3, 1000), w, 5000, api.ErrBlock, "%s%s", Text(said), Text(said))
	wantState(t, "P17.2: Print", s, holding(3, 1000, said[1096:2000]))
}

// TestNoReader: a pipe that nobody reads any more is told, and marks the stream (P17.2).
func TestNoReader(t *testing.T) {
	k := kernelOf(t, "", "")
	rd, wd, _ := k.Pipe()
	k.Drop(rd)
	w := kern.Handle{K: k, D: wd}
	wantState(t, "P17.2: Print", prints(t, both(1, 9), w, 0, api.ErrPipe, "%d", Int(1)), bad(holding(1, 9, "")))
	wantState(t, "P17.2: Print", prints(t, both(2, 9), w, 3, api.ErrPipe, "%d\nab", Int(42)), bad(holding(2, 9, "42\n")))
	wantState(t, "P17.2: Print", prints(t, both(3, 2), w, 2, api.ErrPipe, "%d", Int(-42)), bad(holding(3, 2, "-4")))
}

// TestFullMemory: memory takes what it has room for (P17.2).
func TestFullMemory(t *testing.T) {
	f, _ := memory.NewFixed(4, nil)
	wantState(t, "P17.2: Print", prints(t, both(1, 9), f, 4, api.ErrFull, "%6d", Int(42)), bad(holding(1, 9, "")))
	if string(f.Bytes()) != "    " {
		t.Errorf("P17.2: the memory has %q", f.Bytes())
	}
	f, _ = memory.NewFixed(4, nil)
	wantState(t, "P17.2: Print", prints(t, both(3, 3), f, 6, api.ErrFull, "%08d", Int(42)), bad(holding(3, 3, "00")))
}

// TestOthers: a memory that is only read, a custom stream's error, and Raws that no call made (P17.2, P1).
func TestOthers(t *testing.T) {
	wantState(t, "P17.2: Print", prints(t, both(1, 4), readerOf([]byte("abc")), 0, api.ErrMode, "%d", Int(1)), bad(holding(1, 4, "")))
	wantState(t, "P17.2: Print", prints(t, both(3, 2), readerOf([]byte("abc")), 2, api.ErrMode, "%d", Int(123)), bad(holding(3, 2, "12")))
	c, _ := memory.NewCustom(nil, []int{2, 0, -1})
	wantState(t, "P17.2: Print", prints(t, both(1, 9), c, 2, api.ErrCustom, "%d", Int(1234)), bad(holding(1, 9, "")))
	if string(c.Taken()) != "12" {
		t.Errorf("P17.2: %q was taken", c.Taken())
	}
	for _, r := range []retry.Raw{(*memory.Fixed)(nil), (*memory.Reader)(nil), (*memory.Custom)(nil), &memory.Growing{}, kern.Handle{}} {
		if x := printing(both(1, 4), r, "%d", Int(1)); !x.is(outcome{s: bad(holding(1, 4, "")), e: api.ErrMade}) {
			t.Errorf("P1: Print over %T: %s", r, x)
		}
	}
}
