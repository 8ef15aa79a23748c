package registry

import (
	"fmt"
	"math"
	"slices"
	"testing"

	"millrace/api"
	"millrace/retry"
	"millrace/stream"
)

// rawErrors are errors that a Raw may answer, that are told as they are and set Bad; some are those that a call says of its own, the last ones are no known errors.
var rawErrors = []api.Errno{api.ErrArg, api.ErrMade, api.ErrCount, api.ErrRange, api.ErrLong, api.ErrFull, api.ErrState, api.ErrPipe, api.ErrDesc, api.ErrMode, api.ErrCustom, api.ErrEnd, api.ErrDir, api.ErrClosed, api.ErrTries, api.ErrRaw, api.ErrStream, api.ErrExiting, api.ErrPanic, 7, -1, -52}

// reply is what a raw read answers, answer what a raw write answers; either may panic, with what is no nil.
type reply struct {
	b     string
	e     api.Errno
	panic any
}

type answer struct {
	n     int
	e     api.Errno
	panic any
}

// breaks is the answer of a write that panics.
var breaks = answer{panic: "a write panics"}

// log is what Raws were asked, all of them, in order.
type log struct{ calls []string }

// scripted is a Raw that gives its answers one by one and writes down what it is asked; behind the last one reads meet the end, and writes take all.
type scripted struct {
	name   string
	log    *log
	reads  []reply
	writes []answer
	taken  string
}

func (x *scripted) Read(n int) ([]byte, api.Errno) {
	x.log.calls = append(x.log.calls, fmt.Sprint(x.name, " reads ", n))
	if len(x.reads) == 0 {
		return nil, api.OK
	}
	a := x.reads[0]
	if a.e == api.OK && len(a.b) > n {
		x.reads[0].b = a.b[n:]
		return []byte(a.b[:n]), api.OK
	}
	x.reads = x.reads[1:]
	if a.panic != nil {
		panic(a.panic)
	}
	return []byte(a.b), a.e
}

func (x *scripted) Write(b []byte) (int, api.Errno) {
	x.log.calls = append(x.log.calls, x.name+" writes "+string(b))
	a := answer{n: len(b)}
	if len(x.writes) > 0 {
		a, x.writes = x.writes[0], x.writes[1:]
	}
	if a.panic != nil {
		panic(a.panic)
	}
	if a.e == api.OK && a.n > 0 && a.n <= len(b) {
		x.taken += string(b[:a.n])
	}
	return a.n, a.e
}

func (x *scripted) Seek(off int, whence int) (int, api.Errno) {
	x.log.calls = append(x.log.calls, x.name+" seeks")
	return 0, api.ErrSeek
}

// raw is a Raw of that name whose writes give these answers.
func (l *log) raw(name string, answers ...answer) *scripted {
	return &scripted{name: name, log: l, writes: answers}
}

// tells is that Raw, whose reads tell these texts behind the others, each by as many reads as it takes.
func (x *scripted) tells(texts ...string) *scripted {
	for _, b := range texts {
		x.reads = append(x.reads, reply{b: b})
	}
	return x
}

// then is that Raw, with one more read behind the others that answers so.
func (x *scripted) then(e api.Errno) *scripted {
	x.reads = append(x.reads, reply{e: e})
	return x
}

// thenBreaks is that Raw, with one more read behind the others that panics.
func (x *scripted) thenBreaks() *scripted {
	x.reads = append(x.reads, reply{panic: "a read panics"})
	return x
}

// wantCalls holds the raw calls since the last look against those that are wanted.
func wantCalls(t *testing.T, about string, l *log, want ...string) {
	t.Helper()
	if !slices.Equal(l.calls, want) {
		t.Errorf("%s: the raw calls are %.500q, not %.500q", about, l.calls, want)
	}
	l.calls = nil
}

// letters are n bytes, none of which is a newline.
func letters(n int) string {
	b := make([]byte, n)
	for i := range b {
		b[i] = 'a' + byte(i%23)
	}
	return string(b)
}

// dice are numbers that hang on the seed alone.
func dice(seed uint64) func(n int) int {
	return func(n int) int {
		seed = seed*6364136223846793005 + 1442695040888963407
		return int(seed >> 33 % uint64(n))
	}
}

// short tells bytes; long ones by their length.
func short(b []byte) string {
	if len(b) > 20 {
		return fmt.Sprintf("%q.. (%d)", b[:20], len(b))
	}
	return fmt.Sprintf("%q", b)
}

func show(s stream.State) string {
	return fmt.Sprintf("{Reads %t Writes %t Mode %d Size %d Out %s In %s Back %s Dir %d End %t Bad %t Closed %t}", s.Reads, s.Writes, s.Mode, s.Size, short(s.Out), short(s.In), short(s.Back), s.Dir, s.End, s.Bad, s.Closed)
}

// same tells whether states are one; nil and empty lists are (P1).
func same(a, b stream.State) bool {
	lists := string(a.Out) == string(b.Out) && string(a.In) == string(b.In) && string(a.Back) == string(b.Back)
	marks := a.End == b.End && a.Bad == b.Bad && a.Closed == b.Closed
	return lists && marks && a.Reads == b.Reads && a.Writes == b.Writes && a.Mode == b.Mode && a.Size == b.Size && a.Dir == b.Dir
}

// both is a state that reads and writes, of that mode and size.
func both(mode, size int) stream.State {
	return stream.State{Reads: true, Writes: true, Mode: mode, Size: size}
}

// holding is a state that writes, with that held.
func holding(mode, size int, out string) stream.State {
	s := both(mode, size)
	s.Out, s.Dir = []byte(out), 2
	return s
}

// got is a state that reads, with that held; the last byte of back is got first.
func got(mode, size int, in, back string) stream.State {
	s := both(mode, size)
	s.In, s.Back, s.Dir = []byte(in), []byte(back), 1
	return s
}

// with answers the state, changed.
func with(s stream.State, change func(*stream.State)) stream.State {
	change(&s)
	return s
}

func ended(s stream.State) stream.State { return with(s, func(s *stream.State) { s.End = true }) }
func bad(s stream.State) stream.State   { return with(s, func(s *stream.State) { s.Bad = true }) }
func done(s stream.State) stream.State  { return with(s, func(s *stream.State) { s.Closed = true }) }

// goodStates are states that may be, and are open.
var goodStates = []stream.State{
	both(1, 1), both(1, api.MaxBuf), both(2, 9), both(3, 9),
	holding(3, 9, "out"), holding(3, 3, "out"), holding(2, 9, "o\nut"), holding(2, 1, "o"), holding(1, 9, ""), holding(3, api.MaxBuf, letters(api.MaxBuf)),
	got(3, 9, "in\nside", "back"), got(2, 1, letters(api.MaxBuf), "12345678"), got(1, 9, "", "b"), got(3, 9, "in", ""), got(3, 9, "", ""),
	ended(got(3, 9, "", "")), ended(bad(got(1, 9, "", "back"))), bad(holding(3, 9, "out")), ended(holding(2, 9, "out")),
	{Mode: 3, Size: 9}, {Reads: true, Mode: 2, Size: 9}, {Writes: true, Mode: 1, Size: 9},
}

// wrongStates are states that may not be; of some a wrong call could think that they are merely closed.
var wrongStates = []stream.State{
	{},
	both(0, 4),
	both(4, 4),
	both(-1, 4),
	both(3, 0),
	both(3, api.MaxBuf+1),
	both(math.MaxInt, math.MinInt),
	holding(3, 2, "out"),
	holding(1, 4, "o"),
	got(3, 4, "in", "123456789"),
	got(3, 4, letters(api.MaxBuf+1), ""),
	with(both(3, 4), func(s *stream.State) { s.Dir = 3 }),
	with(got(3, 4, "", ""), func(s *stream.State) { s.Reads = false }),
	with(holding(3, 4, ""), func(s *stream.State) { s.Writes = false }),
	with(holding(3, 4, "o"), func(s *stream.State) { s.In = []byte("i") }),
	with(both(3, 4), func(s *stream.State) { s.Back = []byte("b") }),
	done(got(3, 4, "in", "back")),
	done(holding(3, 4, "out")),
	done(stream.State{}),
}

// add adds a stream, which must be no terminal's.
func add(t *testing.T, g *Registry, s stream.State, r retry.Raw) int {
	t.Helper()
	return added(t, g, s, r, false)
}

// addTerminal adds a terminal's stream.
func addTerminal(t *testing.T, g *Registry, s stream.State, r retry.Raw) int {
	t.Helper()
	return added(t, g, s, r, true)
}

func added(t *testing.T, g *Registry, s stream.State, r retry.Raw, terminal bool) int {
	t.Helper()
	id, e := g.Add(s, r, terminal)
	if e != api.OK {
		t.Fatalf("P19.1: Add(%s): %d", show(s), e)
	}
	return id
}

// adding is what Add answers; it must tell no number beside an error.
func adding(t *testing.T, g *Registry, s stream.State, r retry.Raw) api.Errno {
	t.Helper()
	id, e := g.Add(s, r, true)
	if e != api.OK && id != 0 {
		t.Errorf("P4: Add(%s): the number %d beside the error %d", show(s), id, e)
	}
	return e
}

// hook adds a hook.
func hook(t *testing.T, g *Registry, h Hook) {
	t.Helper()
	if e := g.AtExit(h); e != api.OK {
		t.Fatalf("P19.3: AtExit(%v): %d", h, e)
	}
}

// wantState holds an open stream's state against the one that is wanted.
func wantState(t *testing.T, about string, g *Registry, id int, want stream.State) {
	t.Helper()
	s, e := g.State(id)
	if e != api.OK || !same(s, want) {
		t.Errorf("%s: stream %d is %s, %d, not %s", about, id, show(s), e, show(want))
	}
}

// wantPut puts bytes, and holds what Put answers against what is wanted.
func wantPut(t *testing.T, about string, g *Registry, id int, b string, n int, e api.Errno) {
	t.Helper()
	if m, f := g.Put(id, []byte(b)); m != n || f != e {
		t.Errorf("%s: Put(%d, %s): %d, %d, not %d, %d", about, id, short([]byte(b)), m, f, n, e)
	}
}

// wantGet gets a byte, or meets the error.
func wantGet(t *testing.T, about string, g *Registry, id int, c byte, e api.Errno) {
	t.Helper()
	if d, f := g.Get(id); d != c || f != e {
		t.Errorf("%s: Get(%d): %q, %d, not %q, %d", about, id, d, f, c, e)
	}
}

// wantLine gets a line.
func wantLine(t *testing.T, about string, g *Registry, id, limit int, b string, e api.Errno) {
	t.Helper()
	if l, f := g.Line(id, limit); string(l) != b || f != e {
		t.Errorf("%s: Line(%d, %d): %s, %d, not %s, %d", about, id, limit, short(l), f, short([]byte(b)), e)
	}
}

// wantError holds an error against the one that is wanted.
func wantError(t *testing.T, about string, e, want api.Errno) {
	t.Helper()
	if e != want {
		t.Errorf("%s: %d, not %d", about, e, want)
	}
}

// wantOpen holds the numbers of the open streams against those that are wanted.
func wantOpen(t *testing.T, about string, g *Registry, want ...int) {
	t.Helper()
	if l := g.Open(); !slices.Equal(l, want) {
		t.Errorf("%s: Open: %v, not %v", about, l, want)
	}
}

// wantExit asks for the end, and holds what Exit answers against what is wanted.
func wantExit(t *testing.T, about string, g *Registry, code int, notes ...Note) {
	t.Helper()
	n, l, e := g.Exit(code)
	if n != code || !slices.Equal(l, notes) || e != api.OK {
		t.Errorf("%s: Exit(%d): %d, %v, %d, not %v", about, code, n, l, e, notes)
	}
	if !g.Ended() || len(g.Open()) > 0 {
		t.Errorf("%s: behind Exit: Ended %t, Open %v", about, g.Ended(), g.Open())
	}
}

// The notes of hooks and of streams.
func hookNote(number int, e api.Errno) Note   { return Note{What: 1, Number: number, Err: e} }
func streamNote(number int, e api.Errno) Note { return Note{What: 2, Number: number, Err: e} }
