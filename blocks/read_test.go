package blocks

import (
	"fmt"
	"testing"

	"millrace/api"
	"millrace/memory"
	"millrace/retry"
	"millrace/stream"
)

// TestRead: elements of each shape from each mode and size, one Read behind another; then what is left, and the end (P16.1).
func TestRead(t *testing.T) {
	said := "one\n\ntwo\x00\xff three" + text(140)
	for mode, bufSize := range buffers {
		for size := 1; size <= 13; size++ {
			for count := 1; count <= 13; count++ {
				x := texts(said[:7], said[7:8], said[8:100], said[100:])
				s := both(mode, bufSize)
				rest := said
				for len(rest) >= size*count {
					s = read(t, s, x, size, count, rest[:size*count], count, api.OK)
					rest = rest[size*count:]
				}
				s = read(t, s, x, size, count, rest, len(rest)/size, api.ErrEnd)
				wantState(t, "P16.1: Read at the end", s, ended(got(mode, bufSize, "", "")))
				s = read(t, s, x, size, count, "", 0, api.ErrEnd)
				wantState(t, "P16.1: Read behind the end", s, ended(got(mode, bufSize, "", "")))
				if t.Failed() {
					t.Fatalf("mode %d, size %d", mode, bufSize)
				}
			}
		}
	}
}

// TestReadEnds: all bytes that there are, with which the end is not met yet; one more; an end within an element, and right behind one (P16.1).
func TestReadEnds(t *testing.T) {
	for _, c := range []struct {
		size, count, n int
		e              api.Errno
	}{
		{6, 1, 1, api.OK}, {1, 6, 6, api.OK}, {2, 3, 3, api.OK}, {3, 2, 2, api.OK},
		{7, 1, 0, api.ErrEnd}, {1, 7, 6, api.ErrEnd}, {api.MaxFile, 1, 0, api.ErrEnd}, {1, api.MaxFile, 6, api.ErrEnd},
		{2, 4, 3, api.ErrEnd}, {3, 3, 2, api.ErrEnd}, {6, 2, 1, api.ErrEnd}, {2, api.MaxFile / 2, 3, api.ErrEnd},
		{4, 2, 1, api.ErrEnd}, {5, 2, 1, api.ErrEnd}, {4, 100, 1, api.ErrEnd}, {5, 3, 1, api.ErrEnd},
	} {
		for mode, bufSize := range buffers {
			want := got(mode, bufSize, "", "")
			want.End = c.e == api.ErrEnd
			for _, x := range []*scripted{texts("abcdef"), texts("a", "bcde", "f"), texts("abcde", "f")} {
				wantState(t, "P16.1: Read", read(t, both(mode, bufSize), x, c.size, c.count, "abcdef", c.n, c.e), want)
			}
			r, _ := memory.NewReader([]byte("abcdef"))
			wantState(t, "P16.1: Read", read(t, both(mode, bufSize), r, c.size, c.count, "abcdef", c.n, c.e), want)
			wantState(t, "P16.1: Read of none", read(t, both(mode, bufSize), texts(), c.size, c.count, "", 0, api.ErrEnd), ended(want))
		}
	}
}

// TestReadBehindEnd: behind the end there is no raw read till Clear; what is held is told all the same (P16.1).
func TestReadBehindEnd(t *testing.T) {
	for mode := 1; mode <= 3; mode++ {
		x := texts("more")
		s := read(t, ended(got(mode, 4, "in", "kcab")), x, 2, 4, "backin", 3, api.ErrEnd)
		wantState(t, "P16.1: Read behind the end", s, ended(got(mode, 4, "", "")))
		s = read(t, s, x, 1, 1, "", 0, api.ErrEnd)
		wantState(t, "P16.1: Read behind the end", s, ended(got(mode, 4, "", "")))
		wantState(t, "P16.1: Read behind the end", read(t, ended(both(mode, 4)), x, 1, 1, "", 0, api.ErrEnd), ended(got(mode, 4, "", "")))
		wantCalls(t, "Read behind the end", x)
		s, _ = stream.Clear(s)
		s = read(t, s, x, 2, 2, "more", 2, api.OK)
		wantState(t, "P16.1: Read behind Clear", s, got(mode, 4, "", ""))
		// What is held is enough.
		wantState(t, "P16.1: Read", read(t, ended(got(mode, 4, "in", "kcab")), x, 3, 2, "backin", 2, api.OK), ended(got(mode, 4, "", "")))
	}
}

// TestHeldIsGot: what was pushed back is got first, then what was read, then what the Raw tells; what is left stays in its place (P16.1).
func TestHeldIsGot(t *testing.T) {
	const whole = "kcab" + "in\nside" + "raw"
	for mode := 1; mode <= 3; mode++ {
		for n := 1; n <= len(whole); n++ {
			for size, count := range shapes(n) {
				x := texts("raw")
				s := read(t, got(mode, 5, "in\nside", "back"), x, size, count, whole[:n], count, api.OK)
				backLeft := "back"[:max(0, 4-n)]
				inLeft := "in\nside"[max(0, min(7, n-4)):]
				if n > 11 && mode != 1 {
					inLeft = "raw"[n-11:]
				}
				wantState(t, fmt.Sprintf("P16.1: Read(%d, %d)", size, count), s, got(mode, 5, inLeft, backLeft))
				read(t, s, x, 1, 100, whole[n:], len(whole)-n, api.ErrEnd)
			}
		}
	}
}

// TestLongHeld: a full In is got in order, whatever part of it, and what is left is all there (P16.1).
func TestLongHeld(t *testing.T) {
	in := text(api.MaxBuf)
	said := "12345678" + in
	for _, n := range []int{1, 7, 8, 9, 10, 72, 1000, api.MaxBuf - 1, api.MaxBuf, api.MaxBuf + 7, api.MaxBuf + 8} {
		x := texts("raw")
		s := read(t, got(3, 3, in, "87654321"), x, n, 1, said[:n], 1, api.OK)
		wantState(t, fmt.Sprintf("P16.1: Read of %d", n), s, got(3, 3, in[max(0, n-8):], "87654321"[:max(0, 8-n)]))
		wantCalls(t, "Read of what is held", x)
		read(t, s, x, 1, api.MaxFile, said[n:]+"raw", len(said)-n+3, api.ErrEnd)
	}
}

// TestReadCalls: just the raw reads that the bytes ask for, each of the whole size: none behind the last byte, one at the end (P16.1, P5).
func TestReadCalls(t *testing.T) {
	for mode := 2; mode <= 3; mode++ {
		x := texts("ab\ncdefg\nh")
		s := read(t, both(mode, 4), x, 3, 1, "ab\n", 1, api.OK)
		wantState(t, "P16.1: Read", s, got(mode, 4, "c", ""))
		wantCalls(t, "Read", x, "read 4")
		s = read(t, s, x, 1, 1, "c", 1, api.OK)
		wantCalls(t, "Read", x, "read 4")
		s = read(t, s, x, 2, 2, "defg", 2, api.OK)
		wantState(t, "P16.1: Read", s, got(mode, 4, "", ""))
		wantCalls(t, "Read", x, "read 4", "read 4")
		s = read(t, s, x, 2, 1, "\nh", 1, api.OK)
		wantCalls(t, "Read", x, "read 4", "read 4", "read 4")
		s = read(t, s, x, 9, 1, "", 0, api.ErrEnd)
		read(t, s, x, 9, 1, "", 0, api.ErrEnd)
		wantCalls(t, "Read at the end", x, "read 4", "read 4", "read 4", "read 4")
	}
	x := texts("abc")
	s := read(t, both(1, 4), x, 1, 2, "ab", 2, api.OK)
	wantCalls(t, "Read", x, "read 1", "read 1")
	read(t, s, x, 2, 1, "c", 0, api.ErrEnd)
	wantCalls(t, "Read", x, "read 1", "read 1", "read 1", "read 1")
}

// TestReadGreat: as many bytes as may be, by great and small buffers and elements; one more is refused (P16.1).
func TestReadGreat(t *testing.T) {
	said := letters(api.MaxFile)
	for mode, bufSize := range fewBuffers {
		for _, c := range [][2]int{{1, api.MaxFile}, {api.MaxFile, 1}, {1 << 10, 1 << 10}} {
			r, _ := memory.NewReader([]byte(said))
			s := read(t, both(mode, bufSize), r, c[0], c[1], said, c[1], api.OK)
			wantState(t, "P16.1: Read", s, got(mode, bufSize, "", ""))
			read(t, s, r, c[0], c[1], "", 0, api.ErrEnd)
		}
		r, _ := memory.NewReader([]byte(said[1:]))
		s := read(t, both(mode, bufSize), r, 1<<10, 1<<10, said[1:], 1<<10-1, api.ErrEnd)
		wantState(t, "P16.1: Read of one byte fewer", s, ended(got(mode, bufSize, "", "")))
		wantState(t, "P16.1: Read of one byte more", read(t, both(mode, bufSize), r, 17, 61681, "", 0, api.ErrRange), both(mode, bufSize))
	}
}

// TestReadFails: beside an error the bytes so far and how many elements are whole in them; Bad is set but by ErrBlock, and what comes next is got behind it (P16.1).
func TestReadFails(t *testing.T) {
	for mode, bufSize := range buffers {
		for _, e := range append([]api.Errno{api.ErrBlock}, rawErrors...) {
			for _, so := range []string{"", "a", "abcdefg", letters(200)} {
				for size := 1; size <= 9; size++ {
					x := texts(so).then(e)
					x.reads = append(x.reads, reply{b: "more"})
					if so == "" {
						x.reads = x.reads[1:]
					}
					want := got(mode, bufSize, "", "")
					want.Bad = e != api.ErrBlock
					s := read(t, both(mode, bufSize), x, size, 300, so, len(so)/size, e)
					wantState(t, "P16.1: Read", s, want)
					read(t, s, x, 2, 2, "more", 2, api.OK)
				}
			}
		}
	}
}

// TestReadEnoughAheadOfAnError: with all bytes no error is met (P16.1).
func TestReadEnoughAheadOfAnError(t *testing.T) {
	for mode, bufSize := range buffers {
		for size, count := range shapes(12) {
			x := texts("abcdefg", "hijkl").then(api.ErrCustom)
			wantState(t, "P16.1: Read", read(t, both(mode, bufSize), x, size, count, "abcdefghijkl", count, api.OK), got(mode, bufSize, "", ""))
		}
	}
}

// TestReadTries: interrupted reads are begun anew, too many of them in a row are told (P16.1, P8.1).
func TestReadTries(t *testing.T) {
	for mode := 1; mode <= 3; mode++ {
		x := texts("a").then(api.ErrIntr).then(api.ErrAgain)
		x.reads = append(x.reads, reply{b: "bc"})
		read(t, both(mode, 4), x, 1, 3, "abc", 3, api.OK)
		x = texts("abc")
		for i := range api.MaxTries {
			x.then([]api.Errno{api.ErrIntr, api.ErrAgain}[i%2])
		}
		wantState(t, "P16.1: Read", read(t, both(mode, 4), x, 2, 2, "abc", 1, api.ErrTries), bad(got(mode, 4, "", "")))
	}
}

// tooMuch is a Raw that tells more than it is asked for.
type tooMuch struct{ scripted }

func (*tooMuch) Read(n int) ([]byte, api.Errno) { return make([]byte, n+1), api.OK }

func TestReadTooMuch(t *testing.T) {
	for mode := 1; mode <= 3; mode++ {
		wantState(t, "P16.1: Read", read(t, got(mode, 4, "c", "b"), &tooMuch{}, 1, 3, "bc", 2, api.ErrRaw), bad(got(mode, 4, "", "")))
	}
}

// TestReadNotSo: a stream that does not read, and one that is being written; nothing is changed (P16.1).
func TestReadNotSo(t *testing.T) {
	for mode := 1; mode <= 3; mode++ {
		cases := map[api.Errno][]stream.State{
			api.ErrMode: {{Writes: true, Mode: mode, Size: 4}, {Mode: mode, Size: 4}, {Writes: true, Mode: mode, Size: 4, Dir: 2, End: true}},
			api.ErrDir:  {holding(mode, 4, ""), bad(ended(holding(mode, 4, "")))},
		}
		if mode != 1 {
			cases[api.ErrDir] = append(cases[api.ErrDir], holding(mode, 4, "out\n"), holding(mode, 4, "o"))
		}
		for e, states := range cases {
			for _, s := range states {
				for _, c := range [][2]int{{1, 1}, {2, 3}, {api.MaxFile, 1}} {
					x := texts("abc")
					wantState(t, "P16.1: Read", read(t, s, x, c[0], c[1], "", 0, e), s)
					wantCalls(t, "Read", x)
				}
			}
		}
	}
}

// byGets is what the chapter says of Read: stream.Get, till there are as many bytes, or one told an error.
func byGets(s stream.State, r retry.Raw, size, count int) outcome {
	var b []byte
	for len(b) < size*count {
		after, c, e := stream.Get(s, r)
		s = after
		if e != api.OK {
			return outcome{s: s, b: b, n: len(b) / size, e: e}
		}
		b = append(b, c)
	}
	return outcome{s: s, b: b, n: count}
}

// TestIsGets: over Raws whose reads answer by chance Read answers as stream.Get does, again and again, by the same raw calls (P16.1).
func TestIsGets(t *testing.T) {
	for seed := range 1000 {
		roll := dice(uint64(seed))
		one, two := randomReads(dice(uint64(seed))), randomReads(dice(uint64(seed)))
		s := both(1+roll(3), 1+roll(200))
		for range 12 {
			if s.Dir == 1 && roll(3) == 0 {
				s.Back = []byte(letters(roll(api.MaxUnget + 1)))
			}
			size, count := 1+roll(12), 1+roll(12)
			answered, want := reading(s, one, size, count), byGets(s, two, size, count)
			if !answered.is(want) || fmt.Sprint(one.calls) != fmt.Sprint(two.calls) {
				t.Fatalf("P16.1: seed %d, Read(%d, %d), %s: %s, not %s; %.200q, not %.200q", seed, size, count, show(s), answered, want, one.calls, two.calls)
			}
			s = answered.s
			if roll(4) == 0 {
				s.End = false
			}
		}
	}
}

// randomReads is a Raw whose reads tell texts of some length, ends and errors.
func randomReads(roll func(int) int) *scripted {
	x := &scripted{}
	for range 12 {
		switch roll(6) {
		case 0:
			x.then([]api.Errno{api.ErrBlock, api.ErrCustom, api.ErrIntr, api.ErrEnd}[roll(4)])
		case 1:
			x.then(api.OK)
		default:
			x.reads = append(x.reads, reply{b: letters(1 + roll(180))})
		}
	}
	return x
}
