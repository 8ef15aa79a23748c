package retry

import (
	"fmt"
	"slices"
	"strings"
	"testing"

	"millrace/api"
	"millrace/faults"
	"millrace/kern"
)

// Flags of the kernel's Open.
const (
	toRead   = 1
	toWrite  = 2
	toAppend = 4
)

// kernelOf has a file a of hello, an empty one b, and a terminal t with three lines, then an end, then one line more; it meets the faults.
func kernelOf(t *testing.T, l []api.Fault) *kern.Kernel {
	t.Helper()
	k, e := kern.New(kern.Config{
		Files:  []api.Named{{Name: "a", Data: []byte("hello")}, {Name: "b"}},
		Terms:  []api.Typed{{Name: "t", Lines: [][]byte{[]byte("one\n"), []byte("two\n"), []byte("3"), {}, []byte("five\n")}}},
		Faults: l,
	})
	if e != api.OK {
		t.Fatalf("there is no kernel: %d", e)
	}
	return k
}

// plan is the faults that the words tell.
func plan(t *testing.T, words string) []api.Fault {
	t.Helper()
	l, e, _ := faults.Parse(words)
	if e != api.OK {
		t.Fatalf("%q are no faults: %d", words, e)
	}
	return l
}

func opened(t *testing.T, k *kern.Kernel, name string, flags int) kern.Handle {
	t.Helper()
	d, e := k.Open(name, flags)
	if e != api.OK {
		t.Fatalf("Open(%q, %d): %d", name, flags, e)
	}
	return kern.Handle{K: k, D: d}
}

func piped(t *testing.T, k *kern.Kernel) (kern.Handle, kern.Handle) {
	t.Helper()
	r, w, e := k.Pipe()
	if e != api.OK {
		t.Fatalf("Pipe: %d", e)
	}
	return kern.Handle{K: k, D: r}, kern.Handle{K: k, D: w}
}

func wantCalls(t *testing.T, k *kern.Kernel, reads, writes int) {
	t.Helper()
	if r, w := k.Calls(); r != reads || w != writes {
		t.Errorf("P8.2, P8.3: %d reads, %d writes of the kernel, not %d, %d", r, w, reads, writes)
	}
}

// TestExample: the chapter's first (P8.2, P8.3).
func TestExample(t *testing.T) {
	k := kernelOf(t, plan(t, "s1 i a s2"))
	wantAll(t, opened(t, k, "a", toRead), 5, "hello", api.OK)
	wantCalls(t, k, 5, 0)
	r, w := piped(t, k)
	k.Drop(r.D)
	wantPut(t, w, "abc", 0, api.ErrPipe)
	wantCalls(t, k, 5, 0)
}

// TestFile: reads to the end, and writes to where there is no room any more (P8.1, P8.2, P8.3).
func TestFile(t *testing.T) {
	k := kernelOf(t, nil)
	h := opened(t, k, "a", toRead+toWrite)
	wantSome(t, h, 3, "hel", api.OK)
	wantSome(t, h, 3, "lo", api.OK)
	wantSome(t, h, 3, "", api.OK)
	wantAll(t, h, 3, "", api.OK)
	wantPut(t, h, ", you", 5, api.OK)
	h.Seek(0, 0)
	wantAll(t, h, 10, "hello, you", api.OK)
	h.Seek(0, 0)
	wantAll(t, h, 11, "hello, you", api.OK)

	h.Seek(api.MaxFile-2, 0)
	wantPut(t, h, "abc", 2, api.ErrFull)
	wantPut(t, h, "c", 0, api.ErrFull)
	wantPut(t, h, "", 0, api.OK)
	h.Seek(-2, 2)
	wantAll(t, h, api.MaxFile, "ab", api.OK)

	whole := text(api.MaxFile)
	h = opened(t, k, "b", toRead+toWrite)
	wantPut(t, h, whole, api.MaxFile, api.OK)
	h.Seek(0, 0)
	wantAll(t, h, api.MaxFile, whole, api.OK)
}

// TestTerminal: All goes on over lines, up to an end (P8.1, P8.2, P8.3).
func TestTerminal(t *testing.T) {
	k := kernelOf(t, nil)
	h := opened(t, k, "t", toRead+toWrite)
	wantSome(t, h, 9, "one\n", api.OK)
	wantAll(t, h, 9, "two\n3", api.OK)
	wantAll(t, h, 2, "fi", api.OK)
	wantAll(t, h, 9, "ve\n", api.OK)
	wantSome(t, h, 9, "", api.OK)
	wantPut(t, h, "said", 4, api.OK)
	if s, _ := k.Screen("t"); string(s) != "said" {
		t.Errorf("P8.3: Put: the screen is %q", s)
	}
}

// TestPipe: what would wait, and what nobody reads, is answered beside what was moved (P8.1, P8.2, P8.3).
func TestPipe(t *testing.T) {
	k := kernelOf(t, nil)
	r, w := piped(t, k)
	wantSome(t, r, 4, "", api.ErrBlock)
	wantAll(t, r, 4, "", api.ErrBlock)
	wantPut(t, w, "abcde", 5, api.OK)
	wantSome(t, r, 2, "ab", api.OK)
	wantAll(t, r, 4, "cde", api.ErrBlock)
	whole := text(api.PipeCap + 1)
	wantPut(t, w, whole, api.PipeCap, api.ErrBlock)
	wantPut(t, w, "x", 0, api.ErrBlock)
	wantAll(t, r, api.PipeCap, whole[:api.PipeCap], api.OK)
	wantPut(t, w, "end", 3, api.OK)
	k.Drop(w.D)
	wantAll(t, r, 4, "end", api.OK)
	wantSome(t, r, 4, "", api.OK)
	wantPut(t, w, "x", 0, api.ErrDesc)
	wantPut(t, r, "x", 0, api.ErrMode)
}

// TestWrongHandles: the kernel's errors are answered as they are (P8.1, P8.2, P8.3).
func TestWrongHandles(t *testing.T) {
	k := kernelOf(t, plan(t, "i i"))
	in, out := opened(t, k, "a", toRead), opened(t, k, "a", toWrite)
	for _, c := range []struct {
		h kern.Handle
		e api.Errno
	}{
		{kern.Handle{K: nil, D: 1}, api.ErrMade},
		{kern.Handle{K: &kern.Kernel{}, D: 1}, api.ErrMade},
		{kern.Handle{K: k, D: 99}, api.ErrDesc},
		{out, api.ErrMode},
	} {
		wantSome(t, c.h, 3, "", c.e)
		wantAll(t, c.h, 3, "", c.e)
		if c.h != out {
			wantPut(t, c.h, "x", 0, c.e)
		}
	}
	wantPut(t, in, "x", 0, api.ErrMode)
	wantCalls(t, k, 0, 0)
	if l := k.Rest(); len(l) != 2 {
		t.Errorf("P4: faults were used up: %v", l)
	}
}

// TestLongestPlans: MaxFaults of a kind, and mixed, are fewer than MaxTries, so that all is moved (P8.4).
func TestLongestPlans(t *testing.T) {
	for _, words := range []string{"i", "a", "i a", "s1", "i s1 a s1"} {
		each := plan(t, words)
		var l []api.Fault
		for len(l) < api.MaxFaults {
			l = append(l, each[len(l)%len(each)])
		}
		k := kernelOf(t, l)
		wantAll(t, opened(t, k, "a", toRead), 5, "hello", api.OK)
		whole := text(2 * api.MaxFaults)
		h := opened(t, k, "b", toRead+toWrite)
		wantPut(t, h, whole, len(whole), api.OK)
		h.Seek(0, 0)
		wantAll(t, h, len(whole), whole, api.OK)
		if l := k.Rest(); len(l) != 0 {
			t.Errorf("P8.4: %q: %d faults are left", words, len(l))
		}
	}
}

// anyPlan has faults of each kind, in any order.
func anyPlan(roll func(int) int) []api.Fault {
	var l []api.Fault
	for range roll(40) {
		f := api.Fault{Kind: roll(4)}
		if f.Kind == 1 {
			f.N = 1 + roll(5)
		}
		l = append(l, f)
	}
	return l
}

// moves tells all answers of a run of calls over a kernel, and what there is behind it. A pipe has room for all that is put into it here, as without room a small write that a fault left is whole or not at all.
func moves(t *testing.T, k *kern.Kernel, roll func(int) int) string {
	var l []string
	tell := func(what ...any) { l = append(l, fmt.Sprintf("%q", what)) }
	handles := []kern.Handle{opened(t, k, "a", toRead+toWrite), opened(t, k, "b", toWrite+toAppend+toRead), opened(t, k, "t", toRead+toWrite), opened(t, k, "a", toRead), {K: k, D: 77}}
	r, w := piped(t, k)
	handles = append(handles, r, w)
	for range 24 {
		h := handles[roll(len(handles))]
		switch n := 1 + roll(12); roll(3) {
		case 0:
			b, e := All(h, n)
			tell("all", h.D, n, string(b), e)
		case 1:
			m, e := Put(h, []byte(text(n)))
			tell("put", h.D, n, m, e)
		default:
			place, e := h.Seek(roll(9), roll(3))
			tell("seek", h.D, place, e)
		}
	}
	k.Drop(w.D)
	b, e := All(r, api.MaxFile)
	tell("rest", string(b), e)
	screen, _ := k.Screen("t")
	tell("screen", string(screen))
	for _, f := range k.Files() {
		tell("file", f.Name, string(f.Data))
	}
	return strings.Join(l, "\n")
}

// TestFaultsChangeNothing: All and Put move, with whatever faults, what they move without them (P8.4).
func TestFaultsChangeNothing(t *testing.T) {
	faulty := dice(84)
	for seed := range uint64(3000) {
		l := anyPlan(faulty)
		want := moves(t, kernelOf(t, nil), dice(seed))
		got := moves(t, kernelOf(t, l), dice(seed))
		if got != want {
			t.Fatalf("P8.4: faults %v:\n%s\nnot\n%s", l, got, want)
		}
	}
}

// TestSomeOverKernel: with whatever faults Some has at least one byte till the end, and all of them together are the file's (P8.5).
func TestSomeOverKernel(t *testing.T) {
	roll := dice(5)
	for range 300 {
		k := kernelOf(t, anyPlan(roll))
		h := opened(t, k, "a", toRead)
		var pieces []string
		for len(pieces) < 6 {
			b, e := Some(h, 1+roll(6))
			if e != api.OK {
				t.Fatalf("P8.5: Some: %d", e)
			}
			pieces = append(pieces, string(b))
			if len(b) == 0 {
				break
			}
		}
		if strings.Join(pieces, "") != "hello" || slices.Index(pieces, "") != len(pieces)-1 {
			t.Fatalf("P8.5: Some: %q", pieces)
		}
	}
}
