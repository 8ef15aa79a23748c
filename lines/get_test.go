package lines

import (
	"fmt"
	"math"
	"strings"
	"testing"

	"millrace/api"
	"millrace/memory"
	"millrace/retry"
	"millrace/stream"
)

// cut is what Until tells of a text: up to d, at most limit bytes.
func cut(b string, d byte, limit int) string {
	if at := strings.IndexByte(b, d); at >= 0 {
		b = b[:at+1]
	}
	return b[:min(len(b), limit)]
}

// TestUntil: the bytes up to d, by each limit, from each mode and size; behind the last one the end (P15.1).
func TestUntil(t *testing.T) {
	const said = "one\n\ntwo;three\n\x00\xff;;no newline"
	for mode, size := range buffers {
		for _, d := range []byte{'\n', ';', 0, 255, 'x'} {
			for limit := 1; limit <= len(said)+1; limit++ {
				x := texts(said[:7], said[7:8], said[8:])
				s := both(mode, size)
				for rest := said; rest != ""; {
					want := cut(rest, d, limit)
					s = until(t, s, x, d, limit, want, api.OK)
					rest = rest[len(want):]
				}
				s = until(t, s, x, d, limit, "", api.ErrEnd)
				until(t, s, x, d, limit, "", api.ErrEnd)
				if t.Failed() {
					t.Fatalf("mode %d, size %d", mode, size)
				}
			}
		}
	}
}

// TestGet: Get is Until of a newline (P15.1).
func TestGet(t *testing.T) {
	for mode, size := range buffers {
		x := texts("ab\n\nc;d\x00\r\nlast")
		s := both(mode, size)
		for _, want := range []string{"ab\n", "\n", "c;d\x00\r\n", "last"} {
			s = get(t, s, x, 100, want, api.OK)
		}
		get(t, s, x, 100, "", api.ErrEnd)
	}
}

// TestJustAsLong: a line that is just as long as the limit, one that is shorter by one, one that is longer by one; what is left is got next (P15.1).
func TestJustAsLong(t *testing.T) {
	for _, limit := range []int{1, 2, 7, 63, 64, 65, 4096, api.MaxLine - 1, api.MaxLine} {
		for _, size := range []int{1, 64, 4096, api.MaxBuf} {
			line := letters(limit - 1)
			s := get(t, both(3, size), texts(line+"\n"), limit, line+"\n", api.OK)
			wantState(t, "P15.1: Get of a line just as long", s, got(3, size, "", ""))
			x := texts(line[:max(0, limit-2)] + "\nnext")
			want := line[:max(0, limit-2)] + "\n"
			s = get(t, both(3, size), x, limit, want, api.OK)
			get(t, s, x, 1, "n", api.OK)
			line = letters(limit)
			x = texts(line + "\nnext\n")
			s = get(t, both(3, size), x, limit, line, api.OK)
			s = get(t, s, x, limit, "\n", api.OK)
			get(t, s, x, api.MaxLine, "next\n", api.OK)
		}
	}
}

// TestLimits: those that the chapter names, and numbers that wrap round in fewer bits (P15.1).
func TestLimits(t *testing.T) {
	const said = "a;b\nc"
	want := map[string]string{"Get": "a;b\n", "Until": "a;", "All": said}
	for name, call := range gets {
		least, most := 1, api.MaxLine
		if name == "All" {
			least, most = 0, api.MaxFile
		}
		for _, limit := range []int{-1, 0, 1, 2, api.MaxLine - 1, api.MaxLine, api.MaxLine + 1, api.MaxFile - 1, api.MaxFile, api.MaxFile + 1, -2, 1 << 32, 1<<32 + 1, -1 << 32, math.MaxInt, math.MinInt, math.MinInt + 1} {
			x := texts(said)
			answered := call(both(3, 4), x, limit)
			if limit < least || limit > most {
				if !answered.is(outcome{s: both(3, 4), e: api.ErrRange}) || len(x.calls) != 0 {
					t.Errorf("P15.1: %s(%d): %s, %q", name, limit, answered, x.calls)
				}
				continue
			}
			w := want[name]
			w = w[:min(len(w), limit)]
			if string(answered.b) != w || answered.e != api.OK {
				t.Errorf("P15.1: %s(%d): %s, not %q", name, limit, answered, w)
			}
		}
	}
}

// TestAll: all up to the end, by each limit; the end is no error, not even at once (P15.1).
func TestAll(t *testing.T) {
	const said = "one\n\ntwo\x00"
	for mode, size := range buffers {
		for limit := range len(said) + 3 {
			x := texts(said[:3], said[3:])
			s := all(t, both(mode, size), x, limit, said[:min(limit, len(said))], api.OK)
			if s.End != (limit > len(said)) {
				t.Errorf("P15.1: All(%d) of %d bytes: End is %t", limit, len(said), s.End)
			}
			s = all(t, s, x, api.MaxFile, said[min(limit, len(said)):], api.OK)
			s = all(t, s, x, api.MaxFile, "", api.OK)
			wantState(t, "P15.1: All at the end", s, ended(got(mode, size, "", "")))
			all(t, s, x, 0, "", api.OK)
		}
	}
}

// TestAllOfNone: by a limit of 0 no byte is asked for, so that nothing is said and nothing is changed (P15.1).
func TestAllOfNone(t *testing.T) {
	for _, s := range []stream.State{both(3, 4), {Mode: 1, Size: 1}, {Writes: true, Mode: 2, Size: 4}, holding(3, 4, "out"), got(3, 4, "in", "back"), bad(ended(got(1, 4, "", "")))} {
		x := texts("abc")
		wantState(t, "P15.1: All(0)", all(t, s, x, 0, "", api.OK), s)
		wantCalls(t, "All(0)", x)
	}
}

// TestGreat: as many bytes as may be, by great and small buffers.
func TestGreat(t *testing.T) {
	said := letters(api.MaxFile)
	for mode, size := range fewBuffers {
		r, _ := memory.NewReader([]byte(said))
		s := all(t, both(mode, size), r, api.MaxFile, said, api.OK)
		wantState(t, "P15.1: All", s, got(mode, size, "", ""))
		s = all(t, s, r, api.MaxFile, "", api.OK)
		wantState(t, "P15.1: All", s, ended(got(mode, size, "", "")))
	}
	long := letters(api.MaxLine + 5)
	for mode, size := range fewBuffers {
		r, _ := memory.NewReader([]byte(long))
		s := get(t, both(mode, size), r, api.MaxLine, long[:api.MaxLine], api.OK)
		s = get(t, s, r, api.MaxLine, long[api.MaxLine:], api.OK)
		get(t, s, r, api.MaxLine, "", api.ErrEnd)
	}
}

// TestHeldIsGot: what was pushed back is got first, then what was read, then what the Raw tells; what is left stays in its place (P15.1).
func TestHeldIsGot(t *testing.T) {
	const whole = "kcab" + "in\nside" + "raw"
	for mode := 1; mode <= 3; mode++ {
		for limit := 1; limit <= len(whole); limit++ {
			x := texts("raw")
			s := all(t, got(mode, 5, "in\nside", "back"), x, limit, whole[:limit], api.OK)
			backLeft := "back"[:max(0, 4-limit)]
			inLeft := "in\nside"[max(0, min(7, limit-4)):]
			if limit > 11 && mode != 1 {
				inLeft = "raw"[limit-11:]
			}
			wantState(t, fmt.Sprintf("P15.1: All(%d)", limit), s, got(mode, 5, inLeft, backLeft))
			all(t, s, x, 100, whole[limit:], api.OK)
		}
		x := texts("raw")
		s := get(t, got(mode, 5, "in\nside", "back"), x, 100, "kcabin\n", api.OK)
		wantState(t, "P15.1: Get", s, got(mode, 5, "side", ""))
		wantCalls(t, "Get of what is held", x)
		s = until(t, s, x, 'w', 100, "sideraw", api.OK)
		until(t, s, x, 'w', 100, "", api.ErrEnd)
		// A newline that was pushed back is a line.
		s = get(t, got(mode, 5, "x", "\n\n"), x, 100, "\n", api.OK)
		wantState(t, "P15.1: Get", s, got(mode, 5, "x", "\n"))
	}
}

// TestLongHeld: a full In is got in order, whatever part of it, and what is left is all there (P15.1).
func TestLongHeld(t *testing.T) {
	in := text(api.MaxBuf)
	for _, limit := range []int{1, 7, 8, 9, 63, 64, 65, 71, 72, 73, 127, 128, 129, 136, 1000, api.MaxBuf - 1, api.MaxBuf, api.MaxBuf + 7, api.MaxBuf + 8} {
		x := texts("raw")
		s := all(t, got(3, 3, in, "87654321"), x, limit, ("12345678" + in)[:limit], api.OK)
		wantState(t, fmt.Sprintf("P15.1: All(%d)", limit), s, got(3, 3, in[max(0, limit-8):], "87654321"[:max(0, 8-limit)]))
		wantCalls(t, "All of what is held", x)
		all(t, s, x, api.MaxFile, ("12345678" + in)[limit:]+"raw", api.OK)
	}
}

// TestReadCalls: just the raw reads that the bytes ask for: none behind the one that ends them, none behind the end (P15.1, P5).
func TestReadCalls(t *testing.T) {
	for mode := 2; mode <= 3; mode++ {
		x := texts("ab\ncdefg\nh")
		s := get(t, both(mode, 4), x, 9, "ab\n", api.OK)
		wantState(t, "P15.1: Get", s, got(mode, 4, "c", ""))
		wantCalls(t, "Get", x, "read 4")
		s = get(t, s, x, 5, "cdefg", api.OK)
		wantState(t, "P15.1: Get", s, got(mode, 4, "", ""))
		wantCalls(t, "Get", x, "read 4", "read 4")
		s = all(t, s, x, 2, "\nh", api.OK)
		wantCalls(t, "All", x, "read 4", "read 4", "read 4")
		s = get(t, s, x, 9, "", api.ErrEnd)
		wantState(t, "P15.1: Get at the end", s, ended(got(mode, 4, "", "")))
		s = get(t, s, x, 9, "", api.ErrEnd)
		all(t, s, x, 9, "", api.OK)
		wantCalls(t, "Get at the end", x, "read 4", "read 4", "read 4", "read 4")
	}
	x := texts("ab\ncd")
	s := get(t, both(1, 4), x, 9, "ab\n", api.OK)
	wantCalls(t, "Get", x, "read 1", "read 1", "read 1")
	s = get(t, s, x, 9, "cd", api.OK)
	wantState(t, "P15.1: Get of a last line", s, ended(got(1, 4, "", "")))
	wantCalls(t, "Get", x, "read 1", "read 1", "read 1", "read 1", "read 1", "read 1")
}

// TestEnd: behind a byte at least the end is no error; at once it is one to Get and Until, and none to All (P15.1).
func TestEnd(t *testing.T) {
	for mode, size := range buffers {
		for name, call := range gets {
			for _, s := range []stream.State{both(mode, size), bad(both(mode, size)), got(mode, size, "", ""), ended(got(mode, size, "", ""))} {
				want := outcome{s: ended(got(mode, size, "", "")), e: api.ErrEnd}
				want.s.Bad = s.Bad
				if name == "All" {
					want.e = api.OK
				}
				if answered := call(s, texts(), 9); !answered.is(want) {
					t.Errorf("P15.1: %s at the end, %s: %s", name, show(s), answered)
				}
				want.e = api.OK
				want.b = []byte("b")
				s = with(s, func(s *stream.State) { s.Back, s.Dir = []byte("b"), 1 })
				if answered := call(s, texts(), 9); !answered.is(want) {
					t.Errorf("P15.1: %s behind a byte, %s: %s", name, show(s), answered)
				}
			}
		}
	}
}

// TestEndAsAnError: a Raw that answers ErrEnd as its error is told as stream.Get tells it, and that is an end (P15.1).
func TestEndAsAnError(t *testing.T) {
	for name, call := range gets {
		want := outcome{s: bad(got(3, 4, "", "")), e: api.ErrEnd}
		if name == "All" {
			want.e = api.OK
		}
		if answered := call(both(3, 4), texts().then(api.ErrEnd), 9); !answered.is(want) {
			t.Errorf("P15.1: %s: %s", name, answered)
		}
		want.b, want.e = []byte("ab"), api.OK
		if answered := call(both(3, 4), texts("ab").then(api.ErrEnd), 9); !answered.is(want) {
			t.Errorf("P15.1: %s: %s", name, answered)
		}
	}
}

// TestGetFails: with an error the bytes so far, none at once; Bad is set but by ErrBlock, and what comes next is got behind it (P15.1).
func TestGetFails(t *testing.T) {
	for mode, size := range buffers {
		for name, call := range gets {
			for _, e := range append([]api.Errno{api.ErrBlock}, rawErrors...) {
				for _, so := range []string{"", "a", "abcdefg", letters(200)} {
					x := texts(so).then(e)
					x.reads = append(x.reads, reply{b: "more"})
					if so == "" {
						x.reads = x.reads[1:]
					}
					want := outcome{s: got(mode, size, "", ""), b: []byte(so), e: e}
					want.s.Bad = e != api.ErrBlock
					answered := call(both(mode, size), x, 999)
					if !answered.is(want) {
						t.Errorf("P15.1: %s behind %d bytes: %s, not %s", name, len(so), answered, want)
					}
					if again := call(answered.s, x, 999); string(again.b) != "more" || again.e != api.OK {
						t.Errorf("P15.1: %s behind an error: %s", name, again)
					}
				}
			}
		}
	}
}

// TestGetEnoughAheadOfAnError: where there are enough bytes no error is met (P15.1).
func TestGetEnoughAheadOfAnError(t *testing.T) {
	for mode, size := range buffers {
		s := get(t, both(mode, size), texts("ab\n").then(api.ErrCustom), 9, "ab\n", api.OK)
		wantState(t, "P15.1: Get", s, got(mode, size, "", ""))
		s = get(t, both(mode, size), texts("abc").then(api.ErrCustom), 3, "abc", api.OK)
		wantState(t, "P15.1: Get", s, got(mode, size, "", ""))
		s = all(t, both(mode, size), texts("abc").then(api.ErrCustom), 3, "abc", api.OK)
		wantState(t, "P15.1: All", s, got(mode, size, "", ""))
	}
}

// TestGetTries: interrupted reads are begun anew, too many of them in a row are told (P15.1, P8.1).
func TestGetTries(t *testing.T) {
	for name, call := range gets {
		x := texts("a").then(api.ErrIntr).then(api.ErrAgain)
		x.reads = append(x.reads, reply{b: "b;\n"})
		if answered := call(both(1, 4), x, 2); string(answered.b) != "ab" || answered.e != api.OK {
			t.Errorf("P15.1: %s: %s", name, answered)
		}
		x = texts("a")
		for range api.MaxTries {
			x.then(api.ErrIntr)
		}
		want := outcome{s: bad(got(3, 4, "", "")), b: []byte("a"), e: api.ErrTries}
		if answered := call(both(3, 4), x, 9); !answered.is(want) {
			t.Errorf("P15.1: %s: %s", name, answered)
		}
	}
}

// tooMuch is a Raw that tells more than it is asked for.
type tooMuch struct{ scripted }

func (*tooMuch) Read(n int) ([]byte, api.Errno) { return make([]byte, n+1), api.OK }

func TestGetTooMuch(t *testing.T) {
	for name, call := range gets {
		want := outcome{s: bad(got(3, 4, "", "")), b: []byte("b"), e: api.ErrRaw}
		if answered := call(got(3, 4, "", "b"), &tooMuch{}, 9); !answered.is(want) {
			t.Errorf("P15.1: %s: %s", name, answered)
		}
	}
}

// TestGetNotSo: a stream that does not read, and one that is being written; nothing is changed (P15.1).
func TestGetNotSo(t *testing.T) {
	for name, call := range gets {
		for mode := 1; mode <= 3; mode++ {
			for _, limit := range []int{1, 9, api.MaxLine} {
				cases := map[api.Errno][]stream.State{
					api.ErrMode: {{Writes: true, Mode: mode, Size: 4}, {Mode: mode, Size: 4}, {Writes: true, Mode: mode, Size: 4, Dir: 2, End: true}},
					api.ErrDir:  {holding(mode, 4, ""), bad(ended(holding(mode, 4, "")))},
				}
				if mode != 1 {
					cases[api.ErrDir] = append(cases[api.ErrDir], holding(mode, 4, "out\n"), holding(mode, 4, "o"))
				}
				for e, states := range cases {
					for _, s := range states {
						x := texts("abc\n;")
						if answered := call(s, x, limit); !answered.is(outcome{s: s, e: e}) || len(x.calls) != 0 {
							t.Errorf("P15.1: %s, %s: %s, %q", name, show(s), answered, x.calls)
						}
					}
				}
			}
		}
	}
}

// byGets is what the chapter says of Until and All: stream.Get, again and again.
func byGets(s stream.State, r retry.Raw, limit int, d int, all bool) outcome {
	var b []byte
	for len(b) < limit && (len(b) == 0 || int(b[len(b)-1]) != d) {
		after, c, e := stream.Get(s, r)
		s = after
		if e == api.ErrEnd && (all || len(b) > 0) {
			break
		}
		if e != api.OK {
			return outcome{s: s, b: b, e: e}
		}
		b = append(b, c)
	}
	return outcome{s: s, b: b}
}

// TestIsGets: over Raws whose reads answer by chance the calls answer as stream.Get does, again and again, by the same raw calls (P15.1).
func TestIsGets(t *testing.T) {
	for seed := range 400 {
		roll := dice(uint64(seed))
		one, two := randomReads(dice(uint64(seed))), randomReads(dice(uint64(seed)))
		s := both(1+roll(3), 1+roll(200))
		for range 12 {
			limit, d := 1+roll(150), byte('a'+roll(23))
			var answered, want outcome
			if roll(3) == 0 {
				answered, want = gets["All"](s, one, limit), byGets(s, two, limit, -1, true)
			} else {
				after, b, e := Until(s, one, d, limit)
				answered, want = outcome{s: after, b: b, e: e}, byGets(s, two, limit, int(d), false)
			}
			if !answered.is(want) || fmt.Sprint(one.calls) != fmt.Sprint(two.calls) {
				t.Fatalf("P15.1: seed %d, limit %d, %q, %s: %s, not %s; %.200q, not %.200q", seed, limit, d, show(s), answered, want, one.calls, two.calls)
			}
			s = answered.s
			if roll(4) == 0 {
				s.End = false
			}
		}
	}
}

// randomReads is a Raw whose reads tell texts of some length, ends and errors.
func randomReads(roll func(int) int) *scripted {
	x := &scripted{}
	for range 12 {
		switch roll(6) {
		case 0:
			x.then([]api.Errno{api.ErrBlock, api.ErrCustom, api.ErrIntr, api.ErrEnd}[roll(4)])
		case 1:
			x.then(api.OK)
		default:
			x.reads = append(x.reads, reply{b: letters(1 + roll(180))})
		}
	}
	return x
}
