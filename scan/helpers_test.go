package scan

import (
	"fmt"
	"math"
	"slices"
	"testing"

	"millrace/api"
	"millrace/lines"
	"millrace/retry"
	"millrace/stream"
)

// rawErrors are errors that a Raw may answer, that are told as they are and set Bad; some are those that a call says of its own, the last ones are no known errors.
var rawErrors = []api.Errno{api.ErrArg, api.ErrMade, api.ErrCount, api.ErrRange, api.ErrLong, api.ErrFull, api.ErrState, api.ErrPipe, api.ErrDesc, api.ErrMode, api.ErrCustom, api.ErrEnd, api.ErrDir, api.ErrClosed, api.ErrTries, api.ErrRaw, api.ErrFormat, api.ErrMatch, 7, -1, -52}

// reply is what a raw read answers.
type reply struct {
	b string
	e api.Errno
}

// scripted is a Raw that gives its answers one by one and writes down what it is asked; behind the last one reads meet the end.
type scripted struct {
	reads []reply
	calls []string
}

func (x *scripted) Read(n int) ([]byte, api.Errno) {
	x.calls = append(x.calls, readCall(n))
	if len(x.reads) == 0 {
		return nil, api.OK
	}
	a := x.reads[0]
	if a.e == api.OK && len(a.b) > n {
		x.reads[0].b = a.b[n:]
		return []byte(a.b[:n]), api.OK
	}
	x.reads = x.reads[1:]
	return []byte(a.b), a.e
}

func (x *scripted) Write(b []byte) (int, api.Errno) {
	x.calls = append(x.calls, "write "+string(b))
	return len(b), api.OK
}

func (x *scripted) Seek(off int, whence int) (int, api.Errno) {
	x.calls = append(x.calls, "seek")
	return 0, api.ErrSeek
}

func readCall(n int) string { return fmt.Sprint("read ", n) }

// texts is a Raw whose reads tell these texts, each by as many reads as it takes.
func texts(l ...string) *scripted {
	x := &scripted{}
	for _, b := range l {
		x.reads = append(x.reads, reply{b: b})
	}
	return x
}

// then is that Raw, with one more read behind the others that answers so.
func (x *scripted) then(e api.Errno) *scripted {
	x.reads = append(x.reads, reply{e: e})
	return x
}

// wantCalls holds the raw calls against those that are wanted.
func wantCalls(t *testing.T, call string, x *scripted, want ...string) {
	t.Helper()
	if !slices.Equal(x.calls, want) {
		t.Errorf("P5: %s: the raw calls are %.300q, not %.300q", call, x.calls, want)
	}
}

// someBytes are n bytes, of all values.
func someBytes(n int) string {
	b := make([]byte, n)
	for i := range b {
		b[i] = byte(i * 7)
	}
	return string(b)
}

// letters are n bytes, none of which is a blank.
func letters(n int) string {
	b := make([]byte, n)
	for i := range b {
		b[i] = 'a' + byte(i%23)
	}
	return string(b)
}

// dice are numbers that hang on the seed alone.
func dice(seed uint64) func(n int) int {
	return func(n int) int {
		seed = seed*6364136223846793005 + 1442695040888963407
		return int(seed >> 33 % uint64(n))
	}
}

// short tells bytes; long ones by their length.
func short(b []byte) string {
	if len(b) > 20 {
		return fmt.Sprintf("%q.. (%d)", b[:20], len(b))
	}
	return fmt.Sprintf("%q", b)
}

func show(s stream.State) string {
	return fmt.Sprintf("{Reads %t Writes %t Mode %d Size %d Out %s In %s Back %s Dir %d End %t Bad %t Closed %t}", s.Reads, s.Writes, s.Mode, s.Size, short(s.Out), short(s.In), short(s.Back), s.Dir, s.End, s.Bad, s.Closed)
}

// same tells whether states are one; nil and empty lists are (P1).
func same(a, b stream.State) bool {
	lists := string(a.Out) == string(b.Out) && string(a.In) == string(b.In) && string(a.Back) == string(b.Back)
	marks := a.End == b.End && a.Bad == b.Bad && a.Closed == b.Closed
	return lists && marks && a.Reads == b.Reads && a.Writes == b.Writes && a.Mode == b.Mode && a.Size == b.Size && a.Dir == b.Dir
}

func wantState(t *testing.T, call string, got, want stream.State) {
	t.Helper()
	if !same(got, want) {
		t.Errorf("%s: the state that follows is %s, not %s", call, show(got), show(want))
	}
	if stream.Check(got) != api.OK && stream.Check(want) == api.OK {
		t.Errorf("P11.8: %s: the state that follows may not be: %s", call, show(got))
	}
}

// both is a state that reads and writes, of that mode and size.
func both(mode, size int) stream.State {
	return stream.State{Reads: true, Writes: true, Mode: mode, Size: size}
}

// holding is a state that writes, with that held.
func holding(mode, size int, out string) stream.State {
	s := both(mode, size)
	s.Out, s.Dir = []byte(out), 2
	return s
}

// got is a state that reads, with that held; the last byte of back is got first.
func got(mode, size int, in, back string) stream.State {
	s := both(mode, size)
	s.In, s.Back, s.Dir = []byte(in), []byte(back), 1
	return s
}

// with answers the state, changed.
func with(s stream.State, change func(*stream.State)) stream.State {
	change(&s)
	return s
}

func ended(s stream.State) stream.State { return with(s, func(s *stream.State) { s.End = true }) }
func bad(s stream.State) stream.State   { return with(s, func(s *stream.State) { s.Bad = true }) }
func done(s stream.State) stream.State  { return with(s, func(s *stream.State) { s.Closed = true }) }

// buffers hands out modes and sizes.
func buffers(yield func(mode, size int) bool) {
	for mode := 1; mode <= 3; mode++ {
		for _, size := range []int{1, 2, 3, 5, 64, api.MaxBuf} {
			if !yield(mode, size) {
				return
			}
		}
	}
}

// fewBuffers hands out some of them, for as many bytes as may be.
func fewBuffers(yield func(mode, size int) bool) {
	_ = yield(1, 1) && yield(2, 65) && yield(3, 1) && yield(3, api.MaxBuf)
}

// wrongStates are states that may not be.
var wrongStates = []stream.State{
	{},
	both(0, 4),
	both(4, 4),
	both(-1, 4),
	both(3, 0),
	both(3, -1),
	both(3, api.MaxBuf+1),
	both(math.MaxInt, math.MinInt),
	holding(3, 2, "out"),
	holding(1, 4, "o"),
	got(3, 4, "in", "123456789"),
	got(3, 4, someBytes(api.MaxBuf+1), ""),
	with(both(3, 4), func(s *stream.State) { s.Dir = 3 }),
	with(both(3, 4), func(s *stream.State) { s.Dir = -1 }),
	with(got(3, 4, "", ""), func(s *stream.State) { s.Reads = false }),
	with(holding(3, 4, ""), func(s *stream.State) { s.Writes = false }),
	with(holding(3, 4, "o"), func(s *stream.State) { s.In = []byte("i") }),
	with(got(3, 4, "i", ""), func(s *stream.State) { s.Out = []byte("o") }),
	with(both(3, 4), func(s *stream.State) { s.Back = []byte("b") }),
	done(got(3, 4, "in", "back")),
	done(holding(3, 4, "out")),
}

// The Args that are read.
func in(n int) api.Arg      { return api.Arg{Kind: 1, Int: n} }
func un(n uint64) api.Arg   { return api.Arg{Kind: 2, Uint: n} }
func char(c byte) api.Arg   { return api.Arg{Kind: 3, Uint: uint64(c)} }
func word(s string) api.Arg { return api.Arg{Kind: 4, Text: s} }

// said tells Args; long texts by their length.
func said(args []api.Arg) string {
	l := []string{}
	for _, a := range args {
		if a.Kind == 4 {
			l = append(l, short([]byte(a.Text)))
		} else {
			l = append(l, fmt.Sprint(a))
		}
	}
	if len(l) > 9 {
		return fmt.Sprint(l[:9], ".. (", len(l), ")")
	}
	return fmt.Sprint(l)
}

// scanned is what Scan answers.
type scanned struct {
	args []api.Arg
	n    int
	e    api.Errno
}

func (x scanned) String() string { return fmt.Sprintf("%s, %d, %d", said(x.args), x.n, x.e) }

func (x scanned) is(y scanned) bool {
	return slices.Equal(x.args, y.args) && x.n == y.n && x.e == y.e
}

func scanning(f, b string) scanned {
	args, n, e := Scan(f, []byte(b))
	return scanned{args, n, e}
}

// wantScan makes a Scan and holds what it answers against what is wanted.
func wantScan(t *testing.T, f, b string, n int, e api.Errno, args ...api.Arg) {
	t.Helper()
	want := scanned{args, n, e}
	if x := scanning(f, b); !x.is(want) {
		t.Errorf("P18.1: Scan(%s, %s): %s, not %s", short([]byte(f)), short([]byte(b)), x, want)
	}
}

// outcome is what Read answers.
type outcome struct {
	s    stream.State
	args []api.Arg
	e    api.Errno
}

func (x outcome) String() string { return fmt.Sprintf("%s, %d, %s", said(x.args), x.e, show(x.s)) }

func (x outcome) is(y outcome) bool {
	return same(x.s, y.s) && slices.Equal(x.args, y.args) && x.e == y.e
}

func reading(s stream.State, r retry.Raw, f string) outcome {
	after, args, e := Read(s, r, f)
	return outcome{after, args, e}
}

// read makes a Read, holds what it answers against what is wanted, and answers the state that follows.
func read(t *testing.T, s stream.State, r retry.Raw, f string, e api.Errno, args ...api.Arg) stream.State {
	t.Helper()
	x := reading(s, r, f)
	if !slices.Equal(x.args, args) || x.e != e {
		t.Errorf("P18.2: Read(%s), %s: %s, not %s, %d", short([]byte(f)), show(s), x, said(args), e)
	}
	return x.s
}

// rest is what is got behind a state, up to the end.
func rest(t *testing.T, s stream.State, r retry.Raw) string {
	t.Helper()
	_, b, e := lines.All(s, r, api.MaxFile)
	if e != api.OK {
		t.Errorf("lines.All, %s: %d", show(s), e)
	}
	return string(b)
}
