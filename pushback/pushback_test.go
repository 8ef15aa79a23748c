package pushback

import (
	"fmt"
	"testing"

	"millrace/api"
	"millrace/retry"
	"millrace/stream"
)

// counting is a Raw that gives its texts, one to a read, and takes all that is written; it counts the calls of each kind.
type counting struct {
	texts                []string
	taken                string
	reads, writes, seeks int
}

func (c *counting) Read(n int) ([]byte, api.Errno) {
	c.reads++
	if len(c.texts) == 0 {
		return nil, api.OK
	}
	text := c.texts[0]
	c.texts = c.texts[1:]
	return []byte(text), api.OK
}

func (c *counting) Write(b []byte) (int, api.Errno) {
	c.writes++
	c.taken += string(b)
	return len(b), api.OK
}

func (c *counting) Seek(off int, whence int) (int, api.Errno) {
	c.seeks++
	return 0, api.ErrSeek
}

func rawOf(texts ...string) *counting { return &counting{texts: texts} }

// wantReads holds how often the Raw was read so far, and that it had no other call.
func wantReads(t *testing.T, r *counting, reads int) {
	t.Helper()
	if r.reads != reads || r.writes+r.seeks != 0 {
		t.Errorf("P13.2: the Raw had %d reads, %d writes, %d seeks, not %d reads", r.reads, r.writes, r.seeks, reads)
	}
}

// text is a pattern of n bytes, of all values.
func text(n int) string {
	b := make([]byte, n)
	for i := range b {
		b[i] = byte(i * 7)
	}
	return string(b)
}

// backwards is a text, the last byte first.
func backwards(s string) string {
	out := ""
	for i := range len(s) {
		out = s[i:i+1] + out
	}
	return out
}

// dice are numbers that hang on the seed alone.
func dice(seed uint64) func(n int) int {
	return func(n int) int {
		seed = seed*6364136223846793005 + 1442695040888963407
		return int(seed >> 33 % uint64(n))
	}
}

// show tells a state; long lists by their length.
func show(s stream.State) string {
	list := func(b []byte) string {
		if len(b) > 20 {
			return fmt.Sprintf("%q.. (%d)", b[:20], len(b))
		}
		return fmt.Sprintf("%q", b)
	}
	return fmt.Sprintf("{Reads %t Writes %t Mode %d Size %d Out %s In %s Back %s Dir %d End %t Bad %t Closed %t}", s.Reads, s.Writes, s.Mode, s.Size, list(s.Out), list(s.In), list(s.Back), s.Dir, s.End, s.Bad, s.Closed)
}

// same tells whether states are one; nil and empty lists are (P1).
func same(a, b stream.State) bool {
	lists := string(a.Out) == string(b.Out) && string(a.In) == string(b.In) && string(a.Back) == string(b.Back)
	marks := a.End == b.End && a.Bad == b.Bad && a.Closed == b.Closed
	return lists && marks && a.Reads == b.Reads && a.Writes == b.Writes && a.Mode == b.Mode && a.Size == b.Size && a.Dir == b.Dir
}

func wantState(t *testing.T, call string, got, want stream.State) {
	t.Helper()
	if !same(got, want) {
		t.Errorf("%s: the state that follows is %s, not %s", call, show(got), show(want))
	}
	if stream.Check(got) != api.OK && stream.Check(want) == api.OK {
		t.Errorf("P11.8: %s: the state that follows may not be: %s", call, show(got))
	}
}

// both is a state that reads and writes, of that mode and size.
func both(mode, size int) stream.State {
	return stream.State{Reads: true, Writes: true, Mode: mode, Size: size}
}

// holding is a state that writes, with that held.
func holding(mode, size int, out string) stream.State {
	s := both(mode, size)
	s.Out, s.Dir = []byte(out), 2
	return s
}

// got is a state that reads, with that held; the last byte of back is got first.
func got(mode, size int, in, back string) stream.State {
	s := both(mode, size)
	s.In, s.Back, s.Dir = []byte(in), []byte(back), 1
	return s
}

// with answers the state, changed.
func with(s stream.State, change func(*stream.State)) stream.State {
	change(&s)
	return s
}

func ended(s stream.State) stream.State { return with(s, func(s *stream.State) { s.End = true }) }
func bad(s stream.State) stream.State   { return with(s, func(s *stream.State) { s.Bad = true }) }
func done(s stream.State) stream.State  { return with(s, func(s *stream.State) { s.Closed = true }) }

// readOnly is that state, open for nothing but to read.
func readOnly(s stream.State) stream.State {
	return with(s, func(s *stream.State) { s.Writes = false })
}

// pushed is the state that follows where some bytes are pushed back.
func pushed(s stream.State, b string) stream.State {
	return with(s, func(s *stream.State) {
		s.Back = []byte(string(s.Back) + backwards(b))
		s.Dir, s.End = 1, false
	})
}

// unget, ungetAll, wantHeld, get and getEnd make a call and hold what it answers against what is wanted; all but wantHeld answer the state that follows.
func unget(t *testing.T, s stream.State, c byte, want api.Errno) stream.State {
	t.Helper()
	after, e := Unget(s, c)
	if e != want {
		t.Errorf("P13.1: Unget %q, %s: %d, not %d", c, show(s), e, want)
	}
	return after
}

func ungetAll(t *testing.T, s stream.State, b string, want api.Errno) stream.State {
	t.Helper()
	after, e := UngetAll(s, []byte(b))
	if e != want {
		t.Errorf("P13.1: UngetAll %.20q (%d), %s: %d, not %d", b, len(b), show(s), e, want)
	}
	return after
}

func wantHeld(t *testing.T, s stream.State, want string) {
	t.Helper()
	b, e := Held(s)
	if string(b) != want || e != api.OK {
		t.Errorf("P13.1: Held, %s: %.40q (%d), %d, not %.40q (%d)", show(s), b, len(b), e, want, len(want))
	}
}

func get(t *testing.T, s stream.State, r retry.Raw, want string) stream.State {
	t.Helper()
	for i := range len(want) {
		after, c, e := stream.Get(s, r)
		if c != want[i] || e != api.OK {
			t.Fatalf("P13.2: Get, %s: %q, %d, not %q", show(s), c, e, want[i])
		}
		s = after
	}
	return s
}

func getEnd(t *testing.T, s stream.State, r retry.Raw) stream.State {
	t.Helper()
	after, c, e := stream.Get(s, r)
	if c != 0 || e != api.ErrEnd {
		t.Errorf("P13.2: Get, %s: %q, %d, not the end", show(s), c, e)
	}
	return after
}

// TestExamples: those of the chapter (P13.1, P13.2).
func TestExamples(t *testing.T) {
	r := rawOf()
	s := unget(t, both(3, 4), 'a', api.OK)
	s = unget(t, s, 'b', api.OK)
	wantHeld(t, s, "ba")
	get(t, s, r, "ba")
	s = ungetAll(t, both(3, 4), "ab", api.OK)
	wantHeld(t, s, "ab")
	get(t, s, r, "ab")
	s = both(3, 4)
	for i := range 8 {
		s = unget(t, s, byte('1'+i), api.OK)
	}
	wantState(t, "P13.1: a ninth", unget(t, s, '9', api.ErrFull), s)
	get(t, s, r, "87654321")
	wantReads(t, r, 0)
}

// TestNumbers: the numbers of ways are those of chapter 11, the most that may be pushed back is 8.
func TestNumbers(t *testing.T) {
	if reading != 1 || writing != 2 || api.MaxUnget != 8 {
		t.Errorf("P13.1: %d %d, %d", reading, writing, api.MaxUnget)
	}
}

// TestFromBehind: a loop over it may end early, and gets no byte any more.
func TestFromBehind(t *testing.T) {
	for most := 1; most <= 4; most++ {
		seen := ""
		for c := range fromBehind([]byte("abc")) {
			seen += string(c)
			if len(seen) == most {
				break
			}
		}
		if want := "cba"[:min(most, 3)]; seen != want {
			t.Errorf("P13.3: %d from behind: %q, not %q", most, seen, want)
		}
	}
	for range fromBehind(nil) {
		t.Error("P13.3: no bytes have one from behind")
	}
}
