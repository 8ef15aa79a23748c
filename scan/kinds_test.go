package scan

import (
	"strings"
	"testing"

	"millrace/api"
	"millrace/faults"
	"millrace/format"
	"millrace/kern"
	"millrace/memory"
	"millrace/position"
	"millrace/retry"
	"millrace/stream"
)

// plans are the faults of these tests.
var plans = []string{"", "i", "a i a", "s1 s1 i s2 a s1", "s2 s1 s3 i i a s1 s1 s1 s7 s1 a"}

func kernelOf(t *testing.T, words, typed string) *kern.Kernel {
	t.Helper()
	l, e, _ := faults.Parse(words)
	if e != api.OK {
		t.Fatalf("%q are no faults: %d", words, e)
	}
	k, e := kern.New(kern.Config{
		Files:  []api.Named{{Name: "a", Data: []byte(typed)}, {Name: "b"}},
		Terms:  []api.Typed{{Name: "t", Lines: typedLines(typed)}},
		Faults: l,
	})
	if e != api.OK {
		t.Fatal("there is no kernel:", e)
	}
	return k
}

func typedLines(typed string) [][]byte {
	var l [][]byte
	for line := range strings.Lines(typed) {
		l = append(l, []byte(line))
	}
	return l
}

func handleOf(t *testing.T, k *kern.Kernel, name string, flags int) kern.Handle {
	t.Helper()
	d, e := k.Open(name, flags)
	if e != api.OK {
		t.Fatalf("Open(%q, %d): %d", name, flags, e)
	}
	return kern.Handle{K: k, D: d}
}

func readerOf(b []byte) retry.Raw {
	r, _ := memory.NewReader(b)
	return r
}

// fromRaws are Raws of each kind that is read, with that text in it, of 9 bytes at least.
func fromRaws(t *testing.T, words, said string) map[string]retry.Raw {
	t.Helper()
	k := kernelOf(t, words, said)
	rd, wd, _ := k.Pipe()
	retry.Put(kern.Handle{K: k, D: wd}, []byte(said))
	k.Drop(wd)
	fixed, _ := memory.NewFixed(len(said), []byte(said))
	growing, _ := memory.NewGrowing([]byte(said))
	custom, _ := memory.NewCustom([]memory.Answer{{Data: []byte(said[:9])}, {Err: api.ErrIntr}, {Data: []byte(said[9:])}}, nil)
	return map[string]retry.Raw{
		"file":     handleOf(t, k, "a", 1),
		"pipe":     kern.Handle{K: k, D: rd},
		"terminal": handleOf(t, k, "t", 1),
		"fixed":    fixed,
		"growing":  growing,
		"custom":   custom,
		"reader":   readerOf([]byte(said)),
	}
}

// TestReadKinds: from each kind of Raw and with faults what is read is what Scan tells of the same bytes, one pattern behind the other (P18.2, P18.4).
func TestReadKinds(t *testing.T) {
	said := "-17 word\n\tdEaD  777,9%\n18446744073709551616 x+5 -y9223372036854775807\nthe end"
	patterns := []string{"%d %s", "%x%o", ",%d%%", "%u", "%*c%*c", "%d %d", "%c%d", "%2s", "e%*3c%s%c", "%s", " "}
	for _, words := range plans {
		for mode, size := range buffers {
			for name, r := range fromRaws(t, words, said) {
				s, left := both(mode, size), said
				for _, f := range patterns {
					want := scanning(f, left)
					s = read(t, s, r, f, want.e, want.args...)
					left = left[want.n:]
				}
				if b := rest(t, s, r); b != left || t.Failed() {
					t.Fatalf("P18.4: from a %s, with the faults %q, mode %d, size %d: %q is left, not %q", name, words, mode, size, b, left)
				}
			}
		}
	}
}

// TestSomeKinds: the same by dice (P18.4).
func TestSomeKinds(t *testing.T) {
	roll := dice(185)
	for mode, size := range buffers {
		for range 60 {
			said, words := someText(roll)+" 12 word 7", plans[roll(len(plans))]
			for name, r := range fromRaws(t, words, said) {
				f := somePattern(roll)
				want := scanning(f, said)
				s := read(t, both(mode, size), r, f, want.e, want.args...)
				if b := rest(t, s, r); b != said[want.n:] || t.Failed() {
					t.Fatalf("P18.4: Read(%q) of %q from a %s, with the faults %q, mode %d, size %d: %q is left", f, said, name, words, mode, size, b)
				}
			}
		}
	}
}

// TestEmptyPipe: where nothing is to be read yet ErrBlock is told, which is no failure, with the Args so far; what comes then is read on (P18.2).
func TestEmptyPipe(t *testing.T) {
	for mode, size := range buffers {
		k := kernelOf(t, "", "")
		rd, wd, _ := k.Pipe()
		r, w := kern.Handle{K: k, D: rd}, kern.Handle{K: k, D: wd}
		s := read(t, both(mode, size), r, "%d", api.ErrBlock)
		wantState(t, "P18.2: Read", s, got(mode, size, "", ""))
		retry.Put(w, []byte("12 word"))
		s = read(t, s, r, "%d %s", api.ErrBlock, in(12))
		wantState(t, "P18.2: Read", s, got(mode, size, "", ""))
		retry.Put(w, []byte(" 34 ab"))
		s = read(t, s, r, "%d%*3c", api.OK, in(34))
		s = read(t, s, r, "%c", api.ErrBlock)
		k.Drop(wd)
		s = read(t, s, r, "%c", api.ErrEnd)
		wantState(t, "P18.2: Read", s, ended(got(mode, size, "", "")))
	}
}

// TestTerminal: a terminal's lines one behind the other; an empty one is an end, behind which Clear lets the stream go on (P18.2).
func TestTerminal(t *testing.T) {
	for mode, size := range buffers {
		k, _ := kern.New(kern.Config{Terms: []api.Typed{{Name: "t", Lines: [][]byte{[]byte("1 2\n"), []byte("3"), {}, []byte("4\n5")}}}})
		h := handleOf(t, k, "t", 1)
		s := read(t, both(mode, size), h, "%d%d%d%d", api.ErrEnd, in(1), in(2), in(3))
		s = read(t, s, h, "%d", api.ErrEnd)
		s, _ = stream.Clear(s)
		s = read(t, s, h, "%d %d", api.OK, in(4), in(5))
		read(t, s, h, " ", api.OK)
	}
}

// TestPlaces: what was pushed back is not used up: a stream's place is behind what was read (P18.4).
func TestPlaces(t *testing.T) {
	said := "12 word  -5,x"
	for _, words := range plans {
		for mode, size := range buffers {
			k := kernelOf(t, words, said)
			h := handleOf(t, k, "a", 3)
			s, at := both(mode, size), 0
			for _, f := range []string{"%d", "%s", "%d", "y", ",%d"} {
				want := scanning(f, said[at:])
				s = read(t, s, h, f, want.e, want.args...)
				at += want.n
				after, told, e := position.Tell(s, h)
				if told != at || e != api.OK {
					t.Errorf("P18.4: behind Read(%q) Tell is %d, %d, not %d", f, told, e, at)
				}
				s = after
			}
			// It is turned there, and written over.
			s, _, e := position.Seek(s, h, 0, 1)
			if e != api.OK {
				t.Fatal("Seek:", e)
			}
			s, _, e = format.Print(s, h, "%d", []api.Arg{in(7)})
			if _, e2 := stream.Close(s, h); e != api.OK || e2 != api.OK {
				t.Fatal("Print, Close:", e, e2)
			}
			b, _ := retry.All(handleOf(t, k, "a", 1), 99)
			if string(b) != "12 word  -5,7" {
				t.Errorf("P18.4: with the faults %q, mode %d, size %d: the file is %q", words, mode, size, b)
			}
		}
	}
}

// TestCustomFails: a custom stream's error is told with the Args so far (P18.2).
func TestCustomFails(t *testing.T) {
	c, _ := memory.NewCustom([]memory.Answer{{Data: []byte("1 2")}, {Err: api.ErrCustom}, {Data: []byte("3 4")}}, nil)
	s := read(t, both(3, 9), c, "%d%d%d", api.ErrCustom, in(1))
	wantState(t, "P18.2: Read", s, bad(got(3, 9, "", "")))
	read(t, s, c, "%d%d", api.OK, in(3), in(4))
}

// TestNilRaws: memories and handles that no call made answer as Raws, and do not panic (P1).
func TestNilRaws(t *testing.T) {
	for _, r := range []retry.Raw{(*memory.Fixed)(nil), (*memory.Reader)(nil), (*memory.Custom)(nil), &memory.Growing{}, kern.Handle{}} {
		for _, f := range somePatterns {
			if x := reading(both(3, 4), r, f); !x.is(outcome{s: bad(got(3, 4, "", "")), e: api.ErrMade}) {
				t.Errorf("P1: Read(%q) over %T: %s", f, r, x)
			}
		}
	}
}
