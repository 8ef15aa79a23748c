package position

import (
	"fmt"
	"math"
	"slices"
	"testing"

	"millrace/api"
	"millrace/memory"
	"millrace/pushback"
	"millrace/retry"
	"millrace/stream"
)

// numbers are places and offsets: the edges that are named, and numbers whose sums wrap round.
var numbers = []int{0, 1, -1, 2, 7, -7, api.MaxBuf, api.MaxFile - 1, api.MaxFile, api.MaxFile + 1, -api.MaxFile, 1 << 32, -1 << 32, 1 << 62, -1 << 62, math.MaxInt - 1, math.MaxInt, math.MinInt, math.MinInt + 1}

// wrongWhences are numbers that no offset is counted from.
var wrongWhences = []int{-1, 3, 4, -2, 256, 1 << 32, 1<<32 + 1, math.MinInt, math.MaxInt}

// rawErrors are errors that a Raw may answer, and that are told as they are; the last ones are no known errors.
var rawErrors = []api.Errno{api.ErrArg, api.ErrMade, api.ErrRange, api.ErrFull, api.ErrState, api.ErrPipe, api.ErrDesc, api.ErrMode, api.ErrSeek, api.ErrCustom, api.ErrEnd, api.ErrDir, api.ErrClosed, api.ErrTries, api.ErrRaw, 7, -1, -52}

// answer is what a raw call answers.
type answer struct {
	n int
	e api.Errno
}

// scripted is a Raw that gives its answers one by one and writes down what it is asked; behind the last answer writes take all, and seeks tell a place of any size.
type scripted struct {
	writes, seeks []answer
	calls         []string
	taken         string
	place, size   int
}

func (x *scripted) Read(n int) ([]byte, api.Errno) {
	x.calls = append(x.calls, fmt.Sprint("read ", n))
	return nil, api.OK
}

func (x *scripted) Write(b []byte) (int, api.Errno) {
	x.calls = append(x.calls, "write "+string(b))
	a := answer{n: len(b)}
	if len(x.writes) > 0 {
		a, x.writes = x.writes[0], x.writes[1:]
	}
	if a.e == api.OK && a.n > 0 && a.n <= len(b) {
		x.taken += string(b[:a.n])
	}
	return a.n, a.e
}

func (x *scripted) Seek(off int, whence int) (int, api.Errno) {
	x.calls = append(x.calls, seekCall(off, whence))
	if len(x.seeks) > 0 {
		a := x.seeks[0]
		x.seeks = x.seeks[1:]
		return a.n, a.e
	}
	x.place = [3]int{0, x.place, x.size}[whence] + off
	return x.place, api.OK
}

func seekCall(off, whence int) string { return fmt.Sprint("seek ", off, " ", whence) }

// placedAt is a Raw at that place.
func placedAt(place int) *scripted { return &scripted{place: place, size: 1000} }

// seeksOf is a Raw whose seeks give these answers.
func seeksOf(answers ...answer) *scripted { return &scripted{seeks: answers} }

// writesOf is a Raw whose writes give these answers.
func writesOf(answers ...answer) *scripted { return &scripted{writes: answers, place: 100} }

// wantCalls holds the raw calls against those of what is held to be delivered, and some more.
func wantCalls(t *testing.T, x *scripted, out []byte, more ...string) {
	t.Helper()
	var want []string
	if len(out) > 0 {
		want = append(want, "write "+string(out))
	}
	want = append(want, more...)
	if !slices.Equal(x.calls, want) {
		t.Errorf("P14.1, P5: the raw calls are %.200q, not %.200q", x.calls, want)
	}
}

// text is a pattern of n bytes, of all values.
func text(n int) string {
	b := make([]byte, n)
	for i := range b {
		b[i] = byte(i * 7)
	}
	return string(b)
}

// dice are numbers that hang on the seed alone.
func dice(seed uint64) func(n int) int {
	return func(n int) int {
		seed = seed*6364136223846793005 + 1442695040888963407
		return int(seed >> 33 % uint64(n))
	}
}

// show tells a state; long lists by their length.
func show(s stream.State) string {
	list := func(b []byte) string {
		if len(b) > 20 {
			return fmt.Sprintf("%q.. (%d)", b[:20], len(b))
		}
		return fmt.Sprintf("%q", b)
	}
	return fmt.Sprintf("{Reads %t Writes %t Mode %d Size %d Out %s In %s Back %s Dir %d End %t Bad %t Closed %t}", s.Reads, s.Writes, s.Mode, s.Size, list(s.Out), list(s.In), list(s.Back), s.Dir, s.End, s.Bad, s.Closed)
}

// same tells whether states are one; nil and empty lists are (P1).
func same(a, b stream.State) bool {
	lists := string(a.Out) == string(b.Out) && string(a.In) == string(b.In) && string(a.Back) == string(b.Back)
	marks := a.End == b.End && a.Bad == b.Bad && a.Closed == b.Closed
	return lists && marks && a.Reads == b.Reads && a.Writes == b.Writes && a.Mode == b.Mode && a.Size == b.Size && a.Dir == b.Dir
}

func wantState(t *testing.T, call string, got, want stream.State) {
	t.Helper()
	if !same(got, want) {
		t.Errorf("%s: the state that follows is %s, not %s", call, show(got), show(want))
	}
	if stream.Check(got) != api.OK && stream.Check(want) == api.OK {
		t.Errorf("P11.8: %s: the state that follows may not be: %s", call, show(got))
	}
}

// both is a state that reads and writes, of that mode and size.
func both(mode, size int) stream.State {
	return stream.State{Reads: true, Writes: true, Mode: mode, Size: size}
}

// holding is a state that writes, with that held.
func holding(mode, size int, out string) stream.State {
	s := both(mode, size)
	s.Out, s.Dir = []byte(out), 2
	return s
}

// got is a state that reads, with that held; the last byte of back is got first.
func got(mode, size int, in, back string) stream.State {
	s := both(mode, size)
	s.In, s.Back, s.Dir = []byte(in), []byte(back), 1
	return s
}

// with answers the state, changed.
func with(s stream.State, change func(*stream.State)) stream.State {
	change(&s)
	return s
}

func ended(s stream.State) stream.State { return with(s, func(s *stream.State) { s.End = true }) }
func bad(s stream.State) stream.State   { return with(s, func(s *stream.State) { s.Bad = true }) }
func done(s stream.State) stream.State  { return with(s, func(s *stream.State) { s.Closed = true }) }

// left is that state, where of Out only this is left.
func left(s stream.State, out string) stream.State {
	return with(s, func(s *stream.State) { s.Out = []byte(out) })
}

// moveOf is the state that follows a Seek that is OK.
func moveOf(s stream.State) stream.State {
	return with(s, func(s *stream.State) {
		s.Out, s.In, s.Back, s.Dir, s.End = nil, nil, nil, 0, false
	})
}

// openStates hands out states that no call refuses: each mode, each Dir, with nothing held, something, and all that may be.
func openStates(yield func(stream.State) bool) {
	for mode := 1; mode <= 3; mode++ {
		states := []stream.State{
			both(mode, 4),
			got(mode, 4, "", ""),
			got(mode, 4, "in", "back"),
			got(mode, 4, "in", ""),
			got(mode, 4, "", "12345678"),
			got(mode, api.MaxBuf, text(api.MaxBuf), "12345678"),
			holding(mode, 4, ""),
			{Reads: true, Mode: mode, Size: 4, Dir: 1, In: []byte("i"), Back: []byte("b")},
			{Writes: true, Mode: mode, Size: 4, Dir: 2},
			{Mode: mode, Size: 1},
		}
		if mode != 1 {
			states = append(states, holding(mode, 4, "a"), holding(mode, 4, "a\nbc"), holding(mode, api.MaxBuf, text(api.MaxBuf)),
				stream.State{Writes: true, Mode: mode, Size: 4, Dir: 2, Out: []byte("out")})
		}
		for _, s := range states {
			for _, s := range []stream.State{s, ended(s), bad(s), ended(bad(s))} {
				if !yield(s) {
					return
				}
			}
		}
	}
}

// calls are all calls of the layer, and Seek from each whence, as calls that answer a place.
var calls = map[string]func(stream.State, retry.Raw) (stream.State, int, api.Errno){
	"Tell":       Tell,
	"Seek(0, 0)": func(s stream.State, r retry.Raw) (stream.State, int, api.Errno) { return Seek(s, r, 0, 0) },
	"Seek(3, 0)": func(s stream.State, r retry.Raw) (stream.State, int, api.Errno) { return Seek(s, r, 3, 0) },
	"Seek(2, 1)": func(s stream.State, r retry.Raw) (stream.State, int, api.Errno) { return Seek(s, r, 2, 1) },
	"Seek(0, 1)": func(s stream.State, r retry.Raw) (stream.State, int, api.Errno) { return Seek(s, r, 0, 1) },
	"Seek(0, 2)": func(s stream.State, r retry.Raw) (stream.State, int, api.Errno) { return Seek(s, r, 0, 2) },
	"Rewind": func(s stream.State, r retry.Raw) (stream.State, int, api.Errno) {
		after, e := Rewind(s, r)
		return after, 0, e
	},
}

// tell, seek, rewind, get, put and unget make a call and hold what it answers against what is wanted; they answer the state that follows.
func tell(t *testing.T, s stream.State, r retry.Raw, want int, wantE api.Errno) stream.State {
	t.Helper()
	after, n, e := Tell(s, r)
	if n != want || e != wantE {
		t.Errorf("P14.1: Tell, %s: %d, %d, not %d, %d", show(s), n, e, want, wantE)
	}
	return after
}

func seek(t *testing.T, s stream.State, r retry.Raw, off, whence int, want int, wantE api.Errno) stream.State {
	t.Helper()
	after, n, e := Seek(s, r, off, whence)
	if n != want || e != wantE {
		t.Errorf("P14.1: Seek(%d, %d), %s: %d, %d, not %d, %d", off, whence, show(s), n, e, want, wantE)
	}
	return after
}

func rewind(t *testing.T, s stream.State, r retry.Raw, want api.Errno) stream.State {
	t.Helper()
	after, e := Rewind(s, r)
	if e != want {
		t.Errorf("P14.2: Rewind, %s: %d, not %d", show(s), e, want)
	}
	return after
}

func get(t *testing.T, s stream.State, r retry.Raw, want string) stream.State {
	t.Helper()
	for i := range len(want) {
		after, c, e := stream.Get(s, r)
		if c != want[i] || e != api.OK {
			t.Fatalf("P14.5: Get, %s: %q, %d, not %q", show(s), c, e, want[i])
		}
		s = after
	}
	return s
}

func getEnd(t *testing.T, s stream.State, r retry.Raw) stream.State {
	t.Helper()
	after, c, e := stream.Get(s, r)
	if c != 0 || e != api.ErrEnd {
		t.Errorf("P14.5: Get, %s: %q, %d, not the end", show(s), c, e)
	}
	return after
}

func put(t *testing.T, s stream.State, r retry.Raw, b string) stream.State {
	t.Helper()
	for i := range len(b) {
		after, e := stream.Put(s, r, b[i])
		if e != api.OK {
			t.Fatalf("Put %q, %s: %d", b[i], show(s), e)
		}
		s = after
	}
	return s
}

func unget(t *testing.T, s stream.State, b string) stream.State {
	t.Helper()
	after, e := pushback.UngetAll(s, []byte(b))
	if e != api.OK {
		t.Fatalf("UngetAll %q, %s: %d", b, show(s), e)
	}
	return after
}

// TestExamples: that of the chapter, and the document's fourth of the whole.
func TestExamples(t *testing.T) {
	g, _ := memory.NewGrowing([]byte("hello"))
	s := get(t, both(3, 4), g, "h")
	s = tell(t, s, g, 1, api.OK)
	if n, _ := g.Seek(0, 1); n != 4 {
		t.Errorf("P14.1: the raw place is %d, not 4", n)
	}
	s = unget(t, s, "x")
	s = tell(t, s, g, 0, api.OK)
	s = seek(t, s, g, 1, 1, 1, api.OK)
	get(t, s, g, "e")

	g, _ = memory.NewGrowing([]byte("hello"))
	s = get(t, both(3, 64), g, "h")
	s = tell(t, s, g, 1, api.OK)
	s = unget(t, s, "x")
	s = tell(t, s, g, 0, api.OK)
	s = get(t, s, g, "x")
	s = seek(t, s, g, 1, 0, 1, api.OK)
	s = put(t, s, g, "J")
	if _, e := stream.Close(s, g); e != api.OK || string(g.Bytes()) != "hJllo" {
		t.Errorf("P14.5: Close: %d, and then %q", e, g.Bytes())
	}
}

// TestNumbers: the numbers of whence are those of chapter 6.
func TestNumbers(t *testing.T) {
	if fromBeginning != 0 || fromPlace != 1 || fromEnd != 2 {
		t.Errorf("P14.1: %d %d %d", fromBeginning, fromPlace, fromEnd)
	}
}

// TestListsOf: the lists are reached where they are, each once, and no state that is handed in by value is changed by it.
func TestListsOf(t *testing.T) {
	s := stream.State{Out: []byte("o"), In: []byte("in"), Back: []byte("bck")}
	if held(s) != 6 || held(stream.State{}) != 0 {
		t.Errorf("%d are held, and %d in a zero state", held(s), held(stream.State{}))
	}
	own := copied(s)
	emptied(s)
	if !same(s, own) || &own.Out[0] == &s.Out[0] || &own.In[0] == &s.In[0] || &own.Back[0] == &s.Back[0] {
		t.Errorf("P14.6: %s, and its copy %s", show(s), show(own))
	}
}
