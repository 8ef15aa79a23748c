package bufmode

import (
	"fmt"
	"math"
	"slices"
	"testing"

	"millrace/api"
	"millrace/retry"
	"millrace/stream"
)

// outside are numbers that are neither a mode, nor a size, nor a number of bytes.
var outside = []int{-1, -2, -3, api.MaxFile + 1, api.MaxFile + 2, 2 * api.MaxFile, -api.MaxBuf, -api.MaxFile, 1 << 32, 1<<32 + 1, -1 << 32, math.MinInt, math.MinInt + 1, math.MaxInt - 1, math.MaxInt}

// wrongModes and wrongSizes are all that lie outside, and what lies next to the ranges.
var (
	wrongModes = append([]int{0, 4, 5, 100, api.MaxBuf, api.MaxFile}, outside...)
	wrongSizes = append([]int{0, api.MaxBuf + 1, api.MaxBuf + 2, api.MaxFile}, outside...)
)

// sizes are some of those that may be, the edges among them.
var sizes = []int{1, 2, 3, 5, 4096, api.MaxBuf - 1, api.MaxBuf}

// answer is what a raw call answers: data or n, and an error.
type answer struct {
	data string
	n    int
	e    api.Errno
}

// scripted is a Raw that gives its answers one by one and writes down what it is asked; behind the last answer reads come to the end and writes take all.
type scripted struct {
	answers []answer
	// calls are the raw calls: a number that was asked for, or the bytes that were handed in.
	calls []string
	taken string
	seeks int
}

func (s *scripted) next(otherwise answer) answer {
	if len(s.answers) == 0 {
		return otherwise
	}
	a := s.answers[0]
	s.answers = s.answers[1:]
	return a
}

func (s *scripted) Read(n int) ([]byte, api.Errno) {
	s.calls = append(s.calls, fmt.Sprint(n))
	a := s.next(answer{})
	return []byte(a.data), a.e
}

func (s *scripted) Write(b []byte) (int, api.Errno) {
	s.calls = append(s.calls, string(b))
	a := s.next(answer{n: len(b)})
	if a.e == api.OK && a.n > 0 && a.n <= len(b) {
		s.taken += string(b[:a.n])
	}
	return a.n, a.e
}

func (s *scripted) Seek(off int, whence int) (int, api.Errno) {
	s.seeks++
	return 0, api.OK
}

// rawOf takes texts that are read, numbers that are taken, errors and whole answers.
func rawOf(parts ...any) *scripted {
	s := &scripted{}
	for _, p := range parts {
		switch x := p.(type) {
		case string:
			s.answers = append(s.answers, answer{data: x})
		case int:
			s.answers = append(s.answers, answer{n: x})
		case api.Errno:
			s.answers = append(s.answers, answer{e: x})
		case answer:
			s.answers = append(s.answers, x)
		}
	}
	return s
}

func wantCalls(t *testing.T, r *scripted, calls ...string) {
	t.Helper()
	if !slices.Equal(r.calls, calls) || r.seeks != 0 {
		t.Errorf("P12.1, P5: the raw calls are %.200q, %d seeks, not %.200q", r.calls, r.seeks, calls)
	}
	r.calls = nil
}

// counting is a Raw that takes whole writes and gives whole reads of what it has, and counts them.
type counting struct {
	have   int
	reads  int
	writes []int
	taken  []byte
}

func (c *counting) Read(n int) ([]byte, api.Errno) {
	c.reads++
	n = min(n, c.have)
	c.have -= n
	return make([]byte, n), api.OK
}

func (c *counting) Write(b []byte) (int, api.Errno) {
	c.writes = append(c.writes, len(b))
	c.taken = append(c.taken, b...)
	return len(b), api.OK
}

func (c *counting) Seek(off int, whence int) (int, api.Errno) {
	return 0, api.ErrSeek
}

// text is a pattern of n bytes, of all values, newlines among them.
func text(n int) string {
	b := make([]byte, n)
	for i := range b {
		b[i] = byte(i * 7)
	}
	return string(b)
}

// dice are numbers that hang on the seed alone.
func dice(seed uint64) func(n int) int {
	return func(n int) int {
		seed = seed*6364136223846793005 + 1442695040888963407
		return int(seed >> 33 % uint64(n))
	}
}

// show tells a state; long lists by their length.
func show(s stream.State) string {
	list := func(b []byte) string {
		if len(b) > 20 {
			return fmt.Sprintf("%q.. (%d)", b[:20], len(b))
		}
		return fmt.Sprintf("%q", b)
	}
	return fmt.Sprintf("{Reads %t Writes %t Mode %d Size %d Out %s In %s Back %s Dir %d End %t Bad %t Closed %t}", s.Reads, s.Writes, s.Mode, s.Size, list(s.Out), list(s.In), list(s.Back), s.Dir, s.End, s.Bad, s.Closed)
}

// same tells whether states are one; nil and empty lists are (P1).
func same(a, b stream.State) bool {
	lists := string(a.Out) == string(b.Out) && string(a.In) == string(b.In) && string(a.Back) == string(b.Back)
	marks := a.End == b.End && a.Bad == b.Bad && a.Closed == b.Closed
	return lists && marks && a.Reads == b.Reads && a.Writes == b.Writes && a.Mode == b.Mode && a.Size == b.Size && a.Dir == b.Dir
}

func wantState(t *testing.T, call string, got, want stream.State) {
	t.Helper()
	if !same(got, want) {
		t.Errorf("%s: the state that follows is %s, not %s", call, show(got), show(want))
	}
	if stream.Check(got) != api.OK && stream.Check(want) == api.OK {
		t.Errorf("%s: the state that follows may not be: %s", call, show(got))
	}
}

// both is a state that reads and writes, of that mode and size.
func both(mode, size int) stream.State {
	return stream.State{Reads: true, Writes: true, Mode: mode, Size: size}
}

// holding is a state that writes, with that held.
func holding(mode, size int, out string) stream.State {
	s := both(mode, size)
	s.Out, s.Dir = []byte(out), 2
	return s
}

// got is a state that reads, with that held.
func got(mode, size int, in, back string) stream.State {
	s := both(mode, size)
	s.In, s.Back, s.Dir = []byte(in), []byte(back), 1
	return s
}

// with answers the state, changed.
func with(s stream.State, change func(*stream.State)) stream.State {
	change(&s)
	return s
}

func ended(s stream.State) stream.State { return with(s, func(s *stream.State) { s.End = true }) }
func bad(s stream.State) stream.State   { return with(s, func(s *stream.State) { s.Bad = true }) }
func done(s stream.State) stream.State  { return with(s, func(s *stream.State) { s.Closed = true }) }

// set, put, get, flush and closed make a call and hold the error (and the byte) against what is wanted; they answer the state that follows.
func set(t *testing.T, s stream.State, r retry.Raw, mode, size int, want api.Errno) stream.State {
	t.Helper()
	after, e := Set(s, r, mode, size)
	if e != want {
		t.Errorf("P12.1: Set %d, %d, %s: %d, not %d", mode, size, show(s), e, want)
	}
	return after
}

func put(t *testing.T, s stream.State, r retry.Raw, b string) stream.State {
	t.Helper()
	for i := range len(b) {
		after, e := stream.Put(s, r, b[i])
		if e != api.OK {
			t.Errorf("Put %q, %s: %d", b[i], show(s), e)
		}
		s = after
	}
	return s
}

func get(t *testing.T, s stream.State, r retry.Raw, want string) stream.State {
	t.Helper()
	for i := range len(want) {
		after, c, e := stream.Get(s, r)
		if c != want[i] || e != api.OK {
			t.Errorf("Get, %s: %q, %d, not %q", show(s), c, e, want[i])
		}
		s = after
	}
	return s
}

func flush(t *testing.T, s stream.State, r retry.Raw) stream.State {
	t.Helper()
	after, e := stream.Flush(s, r)
	if e != api.OK {
		t.Errorf("Flush, %s: %d", show(s), e)
	}
	return after
}

func closed(t *testing.T, s stream.State, r retry.Raw) stream.State {
	t.Helper()
	after, e := stream.Close(s, r)
	if e != api.OK {
		t.Errorf("Close, %s: %d", show(s), e)
	}
	return after
}

// TestNumbers: the numbers of modes are those of chapter 11.
func TestNumbers(t *testing.T) {
	if unbuffered != 1 || byLines != 2 || full != 3 || newline != '\n' {
		t.Errorf("P12.1: %d %d %d, %d", unbuffered, byLines, full, newline)
	}
}
