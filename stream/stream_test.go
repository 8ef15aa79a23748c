package stream

import (
	"fmt"
	"math"
	"slices"
	"strings"
	"testing"

	"millrace/api"
	"millrace/openmode"
	"millrace/retry"
)

// outside are numbers that are neither a mode, nor a size, nor a way.
var outside = []int{-1, -2, -3, api.MaxBuf + 1, api.MaxBuf + 2, 2 * api.MaxBuf, -api.MaxBuf, 1 << 32, 1<<32 + 1, -1 << 32, math.MinInt, math.MinInt + 1, math.MaxInt - 1, math.MaxInt}

// rawErrors are errors that a Raw may answer, and that are told as they are; the last ones are no known errors.
var rawErrors = []api.Errno{api.ErrArg, api.ErrMade, api.ErrRange, api.ErrFull, api.ErrState, api.ErrPipe, api.ErrDesc, api.ErrMode, api.ErrCustom, api.ErrEnd, api.ErrDir, api.ErrClosed, api.ErrTries, api.ErrRaw, 7, -1, -52, math.MaxInt, math.MinInt}

// answer is what a raw call answers: data or n, and an error.
type answer struct {
	data string
	n    int
	e    api.Errno
}

// scripted is a Raw that gives its answers one by one and writes down what it is asked; behind the last answer reads come to the end and writes take all.
type scripted struct {
	answers []answer
	// calls are the raw calls: a number that was asked for, or the bytes that were handed in.
	calls []string
	taken string
	seeks int
}

func (s *scripted) next(otherwise answer) answer {
	if len(s.answers) == 0 {
		return otherwise
	}
	a := s.answers[0]
	s.answers = s.answers[1:]
	return a
}

func (s *scripted) Read(n int) ([]byte, api.Errno) {
	s.calls = append(s.calls, fmt.Sprint(n))
	a := s.next(answer{})
	return []byte(a.data), a.e
}

func (s *scripted) Write(b []byte) (int, api.Errno) {
	s.calls = append(s.calls, string(b))
	a := s.next(answer{n: len(b)})
	if a.e == api.OK && a.n > 0 && a.n <= len(b) {
		s.taken += string(b[:a.n])
	}
	return a.n, a.e
}

func (s *scripted) Seek(off int, whence int) (int, api.Errno) {
	s.seeks++
	return 0, api.OK
}

// rawOf takes texts that are read, numbers that are taken, errors and whole answers.
func rawOf(parts ...any) *scripted {
	s := &scripted{}
	for _, p := range parts {
		switch x := p.(type) {
		case string:
			s.answers = append(s.answers, answer{data: x})
		case int:
			s.answers = append(s.answers, answer{n: x})
		case api.Errno:
			s.answers = append(s.answers, answer{e: x})
		case answer:
			s.answers = append(s.answers, x)
		}
	}
	return s
}

func wantCalls(t *testing.T, r *scripted, calls ...string) {
	t.Helper()
	if !slices.Equal(r.calls, calls) || r.seeks != 0 {
		t.Errorf("P11.2 to P11.4, P5: the raw calls are %.200q, %d seeks, not %.200q", r.calls, r.seeks, calls)
	}
	r.calls = nil
}

// text is a pattern of n bytes, of all values, newlines among them.
func text(n int) string {
	b := make([]byte, n)
	for i := range b {
		b[i] = byte(i * 7)
	}
	return string(b)
}

// show tells a state; long lists by their length.
func show(s State) string {
	list := func(b []byte) string {
		if len(b) > 20 {
			return fmt.Sprintf("%q.. (%d)", b[:20], len(b))
		}
		return fmt.Sprintf("%q", b)
	}
	return fmt.Sprintf("{Reads %t Writes %t Mode %d Size %d Out %s In %s Back %s Dir %d End %t Bad %t Closed %t}", s.Reads, s.Writes, s.Mode, s.Size, list(s.Out), list(s.In), list(s.Back), s.Dir, s.End, s.Bad, s.Closed)
}

// same tells whether states are one; nil and empty lists are (P1).
func same(a, b State) bool {
	lists := string(a.Out) == string(b.Out) && string(a.In) == string(b.In) && string(a.Back) == string(b.Back)
	marks := a.End == b.End && a.Bad == b.Bad && a.Closed == b.Closed
	return lists && marks && a.Reads == b.Reads && a.Writes == b.Writes && a.Mode == b.Mode && a.Size == b.Size && a.Dir == b.Dir
}

func wantState(t *testing.T, call string, got, want State) {
	t.Helper()
	if !same(got, want) {
		t.Errorf("%s: the state that follows is %s, not %s", call, show(got), show(want))
	}
	if e := Check(got); e != api.OK && Check(want) == api.OK {
		t.Errorf("P11.8: %s: the state that follows may not be: %s", call, show(got))
	}
}

// put, get, flush, clearMarks and closed make a call and hold the error (and the byte) against what is wanted; they answer the state that follows.
func put(t *testing.T, s State, r retry.Raw, c byte, want api.Errno) State {
	t.Helper()
	after, e := Put(s, r, c)
	if e != want {
		t.Errorf("P11.2: Put %q, %s: %d, not %d", c, show(s), e, want)
	}
	return after
}

func putAll(t *testing.T, s State, r retry.Raw, b string) State {
	t.Helper()
	for i := range len(b) {
		s = put(t, s, r, b[i], api.OK)
	}
	return s
}

func get(t *testing.T, s State, r retry.Raw, want byte) State {
	t.Helper()
	after, c, e := Get(s, r)
	if c != want || e != api.OK {
		t.Errorf("P11.3: Get, %s: %q, %d, not %q", show(s), c, e, want)
	}
	return after
}

func getAll(t *testing.T, s State, r retry.Raw, want string) State {
	t.Helper()
	for i := range len(want) {
		s = get(t, s, r, want[i])
	}
	return s
}

func getNone(t *testing.T, s State, r retry.Raw, want api.Errno) State {
	t.Helper()
	after, c, e := Get(s, r)
	if c != 0 || e != want {
		t.Errorf("P11.3: Get, %s: %q, %d, not 0, %d", show(s), c, e, want)
	}
	return after
}

func flush(t *testing.T, s State, r retry.Raw, want api.Errno) State {
	t.Helper()
	after, e := Flush(s, r)
	if e != want {
		t.Errorf("P11.4: Flush, %s: %d, not %d", show(s), e, want)
	}
	return after
}

func clearMarks(t *testing.T, s State, want api.Errno) State {
	t.Helper()
	after, e := Clear(s)
	if e != want {
		t.Errorf("P11.4: Clear, %s: %d, not %d", show(s), e, want)
	}
	return after
}

func closed(t *testing.T, s State, r retry.Raw, want api.Errno) State {
	t.Helper()
	after, e := Close(s, r)
	if e != want {
		t.Errorf("P11.4: Close, %s: %d, not %d", show(s), e, want)
	}
	return after
}

// both is a state that reads and writes, of that mode and size.
func both(mode, size int) State {
	return State{Reads: true, Writes: true, Mode: mode, Size: size}
}

// holding is a state that writes, with that held.
func holding(mode, size int, out string) State {
	s := both(mode, size)
	s.Out, s.Dir = []byte(out), writing
	return s
}

// got is a state that reads, with that held.
func got(mode, size int, in, back string) State {
	s := both(mode, size)
	s.In, s.Back, s.Dir = []byte(in), []byte(back), reading
	return s
}

// with answers the state, changed.
func with(s State, change func(*State)) State {
	change(&s)
	return s
}

func ended(s State) State { return with(s, func(s *State) { s.End = true }) }
func bad(s State) State   { return with(s, func(s *State) { s.Bad = true }) }

func wantCheck(t *testing.T, s State, want api.Errno) {
	t.Helper()
	if e := Check(s); e != want {
		t.Errorf("P11.1: Check, %s: %d, not %d", show(s), e, want)
	}
}

// TestNumbers: the numbers of modes and ways are those of the chapter (P11.1).
func TestNumbers(t *testing.T) {
	if unbuffered != 1 || byLines != 2 || full != 3 || noWay != 0 || reading != 1 || writing != 2 || newline != '\n' {
		t.Errorf("P11.1: %d %d %d, %d %d %d, %d", unbuffered, byLines, full, noWay, reading, writing, newline)
	}
}

// TestCheckNumbers: the modes, sizes and ways that may be, and all others (P11.1).
func TestCheckNumbers(t *testing.T) {
	for mode := 1; mode <= 3; mode++ {
		for _, size := range []int{1, 2, 4096, api.MaxBuf - 1, api.MaxBuf} {
			for dir := 0; dir <= 2; dir++ {
				wantCheck(t, with(both(mode, size), func(s *State) { s.Dir = dir }), api.OK)
			}
		}
	}
	for _, n := range append([]int{0, 4, 5, 100}, outside...) {
		wantCheck(t, both(n, 1), api.ErrState)
	}
	for _, n := range append([]int{0}, outside...) {
		wantCheck(t, both(3, n), api.ErrState)
		wantCheck(t, both(1, n), api.ErrState)
	}
	for _, n := range append([]int{3, 4, 100}, outside...) {
		wantCheck(t, with(both(3, 1), func(s *State) { s.Dir = n }), api.ErrState)
	}
	wantCheck(t, State{}, api.ErrState)
	wantCheck(t, State{Mode: 1, Size: 1}, api.OK)
}

// TestCheckLists: how much each list may hold (P11.1).
func TestCheckLists(t *testing.T) {
	for _, size := range []int{1, 2, 100, api.MaxBuf} {
		for mode := 1; mode <= 3; mode++ {
			for _, n := range []int{0, 1, size - 1, size, size + 1, api.MaxBuf + 1} {
				want := api.OK
				if n > size || mode == 1 && n > 0 {
					want = api.ErrState
				}
				wantCheck(t, holding(mode, size, text(n)), want)
			}
			// In hangs neither on Mode nor on Size.
			wantCheck(t, got(mode, size, text(api.MaxBuf), ""), api.OK)
			wantCheck(t, got(mode, size, text(api.MaxBuf+1), ""), api.ErrState)
			wantCheck(t, got(mode, size, "", text(api.MaxUnget)), api.OK)
			wantCheck(t, got(mode, size, "", text(api.MaxUnget+1)), api.ErrState)
			wantCheck(t, got(mode, size, text(api.MaxBuf), text(api.MaxUnget)), api.OK)
			wantCheck(t, got(mode, size, "", text(api.MaxBuf)), api.ErrState)
		}
	}
}

// mayBe is the chapter's list, thing by thing.
func mayBe(s State) bool {
	for _, broken := range []bool{
		s.Mode != 1 && s.Mode != 2 && s.Mode != 3,
		s.Size < 1,
		s.Size > 65536,
		len(s.Out) > s.Size,
		s.Mode == 1 && len(s.Out) != 0,
		len(s.In) > 65536,
		len(s.Back) > 8,
		s.Dir != 0 && s.Dir != 1 && s.Dir != 2,
		s.Dir == 1 && !s.Reads,
		s.Dir == 2 && !s.Writes,
		len(s.Out) != 0 && s.Dir != 2,
		len(s.In) != 0 && s.Dir != 1,
		len(s.Back) != 0 && s.Dir != 1,
		s.Closed && s.Dir != 0,
	} {
		if broken {
			return false
		}
	}
	return true
}

// manyStates hands out states of all kinds, those that may be and others.
func manyStates(yield func(State) bool) {
	lists := [][]byte{nil, []byte("a"), []byte("ab"), []byte("abc")}
	backs := [][]byte{nil, []byte("x"), []byte("12345678"), []byte("123456789")}
	for bits := range 32 {
		on := func(i int) bool { return bits>>i&1 == 1 }
		s := State{Reads: on(0), Writes: on(1), End: on(2), Bad: on(3), Closed: on(4)}
		for s.Mode = range 5 {
			for _, s.Size = range []int{-1, 0, 1, 2, api.MaxBuf, api.MaxBuf + 1} {
				for s.Dir = -1; s.Dir <= 3; s.Dir++ {
					for _, s.Out = range lists {
						for _, s.In = range lists[:2] {
							for _, s.Back = range backs {
								if !yield(s) {
									return
								}
							}
						}
					}
				}
			}
		}
	}
}

// TestCheckEach: of each kind of state the chapter's list (P11.1).
func TestCheckEach(t *testing.T) {
	may := 0
	for s := range manyStates {
		want := api.ErrState
		if mayBe(s) {
			may++
			want = api.OK
		}
		if e := Check(s); e != want {
			t.Fatalf("P11.1: Check, %s: %d, not %d", show(s), e, want)
		}
	}
	if may < 500 {
		t.Errorf("only %d of the states may be", may)
	}
}

// refusalWanted is the first error that the chapter names for a call, in its order.
func refusalWanted(call string, s State, r retry.Raw) api.Errno {
	for _, c := range []struct {
		of    string
		holds bool
		e     api.Errno
	}{
		{"Put Get Flush Clear Close", !mayBe(s), api.ErrState},
		{"Put Get Flush Close", r == nil, api.ErrMade},
		{"Put Get Flush Clear Close", s.Closed, api.ErrClosed},
		{"Put", !s.Writes, api.ErrMode},
		{"Put", s.Dir == 1 && !(s.End && len(s.In) == 0 && len(s.Back) == 0), api.ErrDir},
		{"Get", !s.Reads, api.ErrMode},
		{"Get", s.Dir == 2, api.ErrDir},
	} {
		if c.holds && strings.Contains(c.of, call) {
			return c.e
		}
	}
	return api.OK
}

// callOf makes one of the calls by its name; its byte is left out.
func callOf(call string, s State, r retry.Raw) (State, api.Errno) {
	switch call {
	case "Put":
		return Put(s, r, 'p')
	case "Get":
		after, _, e := Get(s, r)
		return after, e
	case "Flush":
		return Flush(s, r)
	case "Clear":
		return Clear(s)
	}
	return Close(s, r)
}

var calls = []string{"Put", "Get", "Flush", "Clear", "Close"}

// TestRefusals: in each kind of state each call is refused by the error that is named first, and then the state is the one handed in and there is no raw call (P11.2, P11.3, P11.4).
func TestRefusals(t *testing.T) {
	seen := map[string]int{}
	for s := range manyStates {
		for _, call := range calls {
			for _, raw := range []*scripted{nil, rawOf("i")} {
				var r retry.Raw
				if raw != nil {
					r = raw
				}
				want := refusalWanted(call, s, r)
				after, e := callOf(call, s, r)
				seen[fmt.Sprint(call, " ", want)]++
				if want == api.OK {
					if !mayBe(after) {
						t.Fatalf("P11.8: %s, %s: the state that follows may not be: %s", call, show(s), show(after))
					}
					// A Get behind the end is refused too, but by ErrEnd.
					if e != api.OK && !(call == "Get" && e == api.ErrEnd) {
						t.Fatalf("P11.2 to P11.4: %s, %s: %d", call, show(s), e)
					}
					continue
				}
				if e != want || !same(after, s) {
					t.Fatalf("P11.2 to P11.4: %s, %s: %s, %d, not the state handed in, %d", call, show(s), show(after), e, want)
				}
				if raw != nil && len(raw.calls) > 0 {
					t.Fatalf("P5: %s, %s: %d and yet the raw calls %q", call, show(s), e, raw.calls)
				}
			}
		}
	}
	// All errors were met: 5 calls have OK, ErrState and ErrClosed, 4 ErrMade, 2 ErrMode and ErrDir.
	if len(seen) != 3*5+4+2*2 {
		t.Errorf("not all refusals were met: %v", seen)
	}
}

// TestRefusedByte: beside a refusal the byte is 0 (P4).
func TestRefusedByte(t *testing.T) {
	for _, s := range []State{
		{},
		with(both(3, 2), func(s *State) { s.Closed = true }),
		{Writes: true, Mode: 3, Size: 2},
		holding(3, 2, "a"),
		got(3, 2, text(api.MaxBuf+1), "x"),
	} {
		if _, c, e := Get(s, rawOf("in")); c != 0 || e == api.OK {
			t.Errorf("P4: Get, %s: %q, %d", show(s), c, e)
		}
	}
	if _, c, e := Get(got(3, 2, "a", "b"), nil); c != 0 || e != api.ErrMade {
		t.Errorf("P4: Get over no Raw: %q, %d", c, e)
	}
}

// TestNew: of each mode that may be and each that may not, with modes and sizes in and out of their ranges (P11.1).
func TestNew(t *testing.T) {
	modes := append([]int{0, 1, 2, 3, 4}, outside...)
	sizes := append([]int{0, 1, 2, api.MaxBuf - 1, api.MaxBuf}, outside...)
	for bits := range 256 {
		on := func(i int) bool { return bits>>i&1 == 1 }
		m := api.Mode{Reads: on(0), Writes: on(1), Append: on(2), Create: on(3), Truncate: on(4), Exclusive: on(5), Binary: on(6), Mark: on(7)}
		for _, mode := range modes {
			for _, size := range sizes {
				want, e := State{}, openmode.Check(m)
				if e == api.OK {
					switch {
					case mode < 1 || mode > 3:
						e = api.ErrArg
					case size < 1 || size > api.MaxBuf:
						e = api.ErrRange
					default:
						want = State{Reads: m.Reads, Writes: m.Writes, Mode: mode, Size: size}
					}
				}
				s, ge := New(m, mode, size)
				if ge != e || !same(s, want) {
					t.Fatalf("P11.1: New(%+v, %d, %d): %s, %d, not %s, %d", m, mode, size, show(s), ge, show(want), e)
				}
				if e == api.OK && Check(s) != api.OK {
					t.Fatalf("P11.8: New(%+v, %d, %d): %s may not be", m, mode, size, show(s))
				}
			}
		}
	}
}

// opened is a new stream of a mode's text.
func opened(t *testing.T, how string, mode, size int) State {
	t.Helper()
	m, e, _ := openmode.Parse(how)
	if e != api.OK {
		t.Fatalf("%q is no mode", how)
	}
	s, e := New(m, mode, size)
	if e != api.OK {
		t.Fatalf("P11.1: New(%q, %d, %d): %d", how, mode, size, e)
	}
	return s
}
