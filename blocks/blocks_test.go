package blocks

import (
	"fmt"
	"math"
	"math/big"
	"slices"
	"testing"

	"millrace/api"
	"millrace/memory"
	"millrace/retry"
	"millrace/stream"
)

// rawErrors are errors that a Raw may answer, that are told as they are and set Bad; some are those that a call says of its own, the last ones are no known errors.
var rawErrors = []api.Errno{api.ErrArg, api.ErrMade, api.ErrCount, api.ErrRange, api.ErrLong, api.ErrFull, api.ErrState, api.ErrPipe, api.ErrDesc, api.ErrMode, api.ErrCustom, api.ErrEnd, api.ErrDir, api.ErrClosed, api.ErrTries, api.ErrRaw, 7, -1, -52}

// reply is what a raw read answers, answer what a raw write answers.
type reply struct {
	b string
	e api.Errno
}

type answer struct {
	n int
	e api.Errno
}

// scripted is a Raw that gives its answers one by one and writes down what it is asked; behind the last one reads meet the end, and writes take all.
type scripted struct {
	reads  []reply
	writes []answer
	calls  []string
	taken  string
}

func (x *scripted) Read(n int) ([]byte, api.Errno) {
	x.calls = append(x.calls, readCall(n))
	if len(x.reads) == 0 {
		return nil, api.OK
	}
	a := x.reads[0]
	if a.e == api.OK && len(a.b) > n {
		x.reads[0].b = a.b[n:]
		return []byte(a.b[:n]), api.OK
	}
	x.reads = x.reads[1:]
	return []byte(a.b), a.e
}

func (x *scripted) Write(b []byte) (int, api.Errno) {
	x.calls = append(x.calls, writeCall(string(b)))
	a := answer{n: len(b)}
	if len(x.writes) > 0 {
		a, x.writes = x.writes[0], x.writes[1:]
	}
	if a.e == api.OK && a.n > 0 && a.n <= len(b) {
		x.taken += string(b[:a.n])
	}
	return a.n, a.e
}

func (x *scripted) Seek(off int, whence int) (int, api.Errno) {
	x.calls = append(x.calls, "seek")
	return 0, api.ErrSeek
}

func readCall(n int) string     { return fmt.Sprint("read ", n) }
func writeCall(b string) string { return "write " + b }

// texts is a Raw whose reads tell these texts, each by as many reads as it takes.
func texts(l ...string) *scripted {
	x := &scripted{}
	for _, b := range l {
		x.reads = append(x.reads, reply{b: b})
	}
	return x
}

// then is that Raw, with one more read behind the others that answers so.
func (x *scripted) then(e api.Errno) *scripted {
	x.reads = append(x.reads, reply{e: e})
	return x
}

// writesOf is a Raw whose writes give these answers.
func writesOf(answers ...answer) *scripted { return &scripted{writes: answers} }

// wantCalls holds the raw calls against those that are wanted.
func wantCalls(t *testing.T, call string, x *scripted, want ...string) {
	t.Helper()
	if !slices.Equal(x.calls, want) {
		t.Errorf("P5: %s: the raw calls are %.300q, not %.300q", call, x.calls, want)
	}
}

// text is a pattern of n bytes, of all values.
func text(n int) string {
	b := make([]byte, n)
	for i := range b {
		b[i] = byte(i * 7)
	}
	return string(b)
}

// letters is a pattern of n bytes, none of which is a newline.
func letters(n int) string {
	b := make([]byte, n)
	for i := range b {
		b[i] = 'a' + byte(i%23)
	}
	return string(b)
}

// dice are numbers that hang on the seed alone.
func dice(seed uint64) func(n int) int {
	return func(n int) int {
		seed = seed*6364136223846793005 + 1442695040888963407
		return int(seed >> 33 % uint64(n))
	}
}

// short tells bytes; long ones by their length.
func short(b []byte) string {
	if len(b) > 20 {
		return fmt.Sprintf("%q.. (%d)", b[:20], len(b))
	}
	return fmt.Sprintf("%q", b)
}

func show(s stream.State) string {
	return fmt.Sprintf("{Reads %t Writes %t Mode %d Size %d Out %s In %s Back %s Dir %d End %t Bad %t Closed %t}", s.Reads, s.Writes, s.Mode, s.Size, short(s.Out), short(s.In), short(s.Back), s.Dir, s.End, s.Bad, s.Closed)
}

// same tells whether states are one; nil and empty lists are (P1).
func same(a, b stream.State) bool {
	lists := string(a.Out) == string(b.Out) && string(a.In) == string(b.In) && string(a.Back) == string(b.Back)
	marks := a.End == b.End && a.Bad == b.Bad && a.Closed == b.Closed
	return lists && marks && a.Reads == b.Reads && a.Writes == b.Writes && a.Mode == b.Mode && a.Size == b.Size && a.Dir == b.Dir
}

func wantState(t *testing.T, call string, got, want stream.State) {
	t.Helper()
	if !same(got, want) {
		t.Errorf("%s: the state that follows is %s, not %s", call, show(got), show(want))
	}
	if stream.Check(got) != api.OK && stream.Check(want) == api.OK {
		t.Errorf("P11.8: %s: the state that follows may not be: %s", call, show(got))
	}
}

// both is a state that reads and writes, of that mode and size.
func both(mode, size int) stream.State {
	return stream.State{Reads: true, Writes: true, Mode: mode, Size: size}
}

// holding is a state that writes, with that held.
func holding(mode, size int, out string) stream.State {
	s := both(mode, size)
	s.Out, s.Dir = []byte(out), 2
	return s
}

// got is a state that reads, with that held; the last byte of back is got first.
func got(mode, size int, in, back string) stream.State {
	s := both(mode, size)
	s.In, s.Back, s.Dir = []byte(in), []byte(back), 1
	return s
}

// with answers the state, changed.
func with(s stream.State, change func(*stream.State)) stream.State {
	change(&s)
	return s
}

func ended(s stream.State) stream.State { return with(s, func(s *stream.State) { s.End = true }) }
func bad(s stream.State) stream.State   { return with(s, func(s *stream.State) { s.Bad = true }) }
func done(s stream.State) stream.State  { return with(s, func(s *stream.State) { s.Closed = true }) }

// buffers hands out modes and sizes.
func buffers(yield func(mode, size int) bool) {
	for mode := 1; mode <= 3; mode++ {
		for _, size := range []int{1, 2, 3, 5, 64, api.MaxBuf} {
			if !yield(mode, size) {
				return
			}
		}
	}
}

// fewBuffers hands out some of them, for as many bytes as may be.
func fewBuffers(yield func(mode, size int) bool) {
	_ = yield(1, 1) && yield(2, 65) && yield(3, 1) && yield(3, api.MaxBuf)
}

// shapes hands out all sizes and counts of that product, which is not 0.
func shapes(product int) func(yield func(size, count int) bool) {
	return func(yield func(size, count int) bool) {
		for size := 1; size <= product; size++ {
			if product%size == 0 && !yield(size, product/size) {
				return
			}
		}
	}
}

// empties are sizes and counts whose product is 0.
var empties = [][2]int{{0, 0}, {0, 1}, {1, 0}, {0, 7}, {7, 0}, {0, api.MaxFile + 1}, {api.MaxFile + 1, 0}, {0, math.MaxInt}, {math.MaxInt, 0}}

// outOfRange are sizes and counts that Bytes refuses.
var outOfRange = [][2]int{{-1, 3}, {3, -1}, {-1, 0}, {0, -1}, {-1, -1}, {math.MinInt, 0}, {0, math.MinInt}, {math.MinInt, math.MinInt}, {-1, math.MinInt}, {1, api.MaxFile + 1}, {api.MaxFile + 1, 1}, {1 << 10, 1<<10 + 1}, {1 << 40, 1 << 40}, {math.MaxInt, math.MaxInt}, {1 << 32, 1 << 32}, {1 << 44, 1 << 20}, {7, 0x6DB6DB6DB6DB6DB7}}

// outcome is what Read and Write answer.
type outcome struct {
	s stream.State
	b []byte
	n int
	e api.Errno
}

func (x outcome) String() string {
	return fmt.Sprintf("%s, %d, %d, %s", short(x.b), x.n, x.e, show(x.s))
}

func (x outcome) is(y outcome) bool {
	return same(x.s, y.s) && string(x.b) == string(y.b) && x.n == y.n && x.e == y.e
}

func reading(s stream.State, r retry.Raw, size, count int) outcome {
	after, b, n, e := Read(s, r, size, count)
	return outcome{s: after, b: b, n: n, e: e}
}

func writing(s stream.State, r retry.Raw, b []byte, size, count int) outcome {
	after, n, e := Write(s, r, b, size, count)
	return outcome{s: after, n: n, e: e}
}

// read and write make a call and hold what it answers against what is wanted; they answer the state that follows.
func read(t *testing.T, s stream.State, r retry.Raw, size, count int, want string, wantN int, wantE api.Errno) stream.State {
	t.Helper()
	x := reading(s, r, size, count)
	if string(x.b) != want || x.n != wantN || x.e != wantE {
		t.Errorf("P16.1: Read(%d, %d), %s: %s, not %s, %d, %d", size, count, show(s), x, short([]byte(want)), wantN, wantE)
	}
	return x.s
}

func write(t *testing.T, s stream.State, r retry.Raw, b string, size, count int, wantN int, wantE api.Errno) stream.State {
	t.Helper()
	x := writing(s, r, []byte(b), size, count)
	if x.n != wantN || x.e != wantE {
		t.Errorf("P16.1: Write(%s, %d, %d), %s: %s, not %d, %d", short([]byte(b)), size, count, show(s), x, wantN, wantE)
	}
	return x.s
}

// wrongStates are states that may not be.
var wrongStates = []stream.State{
	{},
	both(0, 4),
	both(4, 4),
	both(-1, 4),
	both(3, 0),
	both(3, -1),
	both(3, api.MaxBuf+1),
	both(math.MaxInt, math.MinInt),
	holding(3, 2, "out"),
	holding(1, 4, "o"),
	got(3, 4, "in", "123456789"),
	got(3, 4, text(api.MaxBuf+1), ""),
	with(both(3, 4), func(s *stream.State) { s.Dir = 3 }),
	with(both(3, 4), func(s *stream.State) { s.Dir = -1 }),
	with(got(3, 4, "", ""), func(s *stream.State) { s.Reads = false }),
	with(holding(3, 4, ""), func(s *stream.State) { s.Writes = false }),
	with(holding(3, 4, "o"), func(s *stream.State) { s.In = []byte("i") }),
	with(got(3, 4, "i", ""), func(s *stream.State) { s.Out = []byte("o") }),
	with(both(3, 4), func(s *stream.State) { s.Back = []byte("b") }),
	done(got(3, 4, "in", "back")),
	done(holding(3, 4, "out")),
}

// TestExamples: those of the chapter, by each buffer.
func TestExamples(t *testing.T) {
	for mode, size := range buffers {
		r, _ := memory.NewReader([]byte("hello"))
		read(t, both(mode, size), r, 2, 3, "hello", 2, api.ErrEnd)
	}
	if n, e := Bytes(1<<40, 1<<40); n != 0 || e != api.ErrRange {
		t.Errorf("P16.1: Bytes(1 << 40, 1 << 40): %d, %d", n, e)
	}
}

// TestBytes: the edges that the chapter names (P16.1).
func TestBytes(t *testing.T) {
	for _, c := range []struct {
		size, count, n int
		e              api.Errno
	}{
		{2, 3, 6, api.OK},
		{1, 1, 1, api.OK},
		{1, api.MaxFile, api.MaxFile, api.OK},
		{api.MaxFile, 1, api.MaxFile, api.OK},
		{1 << 10, 1 << 10, api.MaxFile, api.OK},
		{1 << 9, 1 << 11, api.MaxFile, api.OK},
		{3, api.MaxFile / 3, api.MaxFile - 1, api.OK},
		// MaxFile + 1 is 17 times 61681.
		{17, 61681, 0, api.ErrRange},
		{61681, 17, 0, api.ErrRange},
		{17, 61680, api.MaxFile - 16, api.OK},
		{3, api.MaxFile/3 + 1, 0, api.ErrRange},
		{1, api.MaxFile + 1, 0, api.ErrRange},
		{api.MaxFile + 1, 1, 0, api.ErrRange},
	} {
		if n, e := Bytes(c.size, c.count); n != c.n || e != c.e {
			t.Errorf("P16.1: Bytes(%d, %d): %d, %d, not %d, %d", c.size, c.count, n, e, c.n, c.e)
		}
	}
	for _, c := range empties {
		if n, e := Bytes(c[0], c[1]); n != 0 || e != api.OK {
			t.Errorf("P16.1: Bytes(%d, %d): %d, %d", c[0], c[1], n, e)
		}
	}
	for _, c := range outOfRange {
		if n, e := Bytes(c[0], c[1]); n != 0 || e != api.ErrRange {
			t.Errorf("P16.1: Bytes(%d, %d): %d, %d", c[0], c[1], n, e)
		}
	}
}

// TestBytesOfAny: of numbers of any size, held against numbers that do not wrap round (P16.1).
func TestBytesOfAny(t *testing.T) {
	numbers := []int{0, 1, 2, 3, 7, math.MaxInt, math.MinInt, math.MinInt + 1, math.MaxInt - 1, 0x6DB6DB6DB6DB6DB7, api.MaxFile / 3}
	for bit := range 63 {
		numbers = append(numbers, 1<<bit-1, 1<<bit, 1<<bit+1, -1<<bit, -1<<bit-1)
	}
	for _, size := range numbers {
		for _, count := range numbers {
			product := new(big.Int).Mul(big.NewInt(int64(size)), big.NewInt(int64(count)))
			want, wantE := 0, api.ErrRange
			if size >= 0 && count >= 0 && product.Cmp(big.NewInt(api.MaxFile)) <= 0 {
				want, wantE = int(product.Int64()), api.OK
			}
			if n, e := Bytes(size, count); n != want || e != wantE {
				t.Errorf("P16.1: Bytes(%d, %d): %d, %d, not %d, %d", size, count, n, e, want, wantE)
			}
		}
	}
}

// call is Read or Write with what it is handed beside a state and a Raw.
type call struct {
	name string
	of   func(stream.State, retry.Raw) outcome
	// last is the error of what it is handed, if there is one.
	last api.Errno
}

// calls hands out Read and Write of all kinds.
func calls(yield func(call) bool) {
	sizes := append([][2]int{{1, 1}, {2, 3}, {6, 1}, {1, api.MaxFile}}, empties...)
	for _, c := range append(sizes, outOfRange...) {
		n, last := Bytes(c[0], c[1])
		if !yield(call{fmt.Sprint("Read ", c), func(s stream.State, r retry.Raw) outcome { return reading(s, r, c[0], c[1]) }, last}) {
			return
		}
		for _, many := range []int{0, n - 1, n, n + 1} {
			if many < 0 || many > 99 {
				continue
			}
			e := last
			if e == api.OK && many != n {
				e = api.ErrCount
			}
			b := []byte(letters(many))
			if !yield(call{fmt.Sprint("Write ", c, " of ", many), func(s stream.State, r retry.Raw) outcome { return writing(s, r, b, c[0], c[1]) }, e}) {
				return
			}
		}
	}
}

// TestRefusals: the first error that holds is told, beside nothing but the state that was handed in; no raw call is made (P16.1, P4).
func TestRefusals(t *testing.T) {
	open := []stream.State{both(3, 4), got(2, 4, "in", "back"), bad(ended(holding(3, 4, "out"))), both(1, 4), {Mode: 3, Size: 4}, {Reads: true, Mode: 1, Size: 4}, {Writes: true, Mode: 2, Size: 4}, holding(3, 3, "out")}
	for c := range calls {
		want := func(s stream.State, wantE api.Errno) {
			t.Helper()
			x := texts("abc")
			if got := c.of(s, x); !got.is(outcome{s: s, e: wantE}) {
				t.Errorf("P4: %s, %s: %s, not %d", c.name, show(s), got, wantE)
			}
			wantCalls(t, c.name, x)
		}
		wantMade := func(s stream.State, wantE api.Errno) {
			t.Helper()
			if got := c.of(s, nil); !got.is(outcome{s: s, e: wantE}) {
				t.Errorf("P4: %s, %s, no Raw: %s, not %d", c.name, show(s), got, wantE)
			}
		}
		for _, s := range wrongStates {
			want(s, api.ErrState)
			wantMade(s, api.ErrState)
		}
		for _, mode := range []int{1, 2, 3} {
			for _, s := range []stream.State{done(both(mode, 4)), done(bad(ended(both(mode, 4)))), done(stream.State{Mode: mode, Size: 4})} {
				want(s, api.ErrClosed)
				wantMade(s, api.ErrMade)
			}
		}
		for _, s := range open {
			wantMade(s, api.ErrMade)
			if c.last != api.OK {
				want(s, c.last)
			}
		}
	}
}

// TestNothing: of a product of 0 nothing is moved, said or changed, whatever the stream is open for and whichever way it goes (P16.1).
func TestNothing(t *testing.T) {
	for mode := 1; mode <= 3; mode++ {
		states := []stream.State{both(mode, 4), {Mode: mode, Size: 4}, {Reads: true, Mode: mode, Size: 4}, {Writes: true, Mode: mode, Size: 4}, got(mode, 4, "in", "back"), holding(mode, 4, ""), bad(ended(got(mode, 4, "", ""))), ended(both(mode, 4))}
		if mode != 1 {
			states = append(states, holding(mode, 4, "abc\n"), holding(mode, 4, "a"))
		}
		for _, s := range states {
			for _, c := range empties {
				x := texts("abc")
				x.writes = []answer{{e: api.ErrCustom}}
				wantState(t, "P16.1: Read of nothing", read(t, s, x, c[0], c[1], "", 0, api.OK), s)
				wantState(t, "P16.1: Write of nothing", write(t, s, x, "", c[0], c[1], 0, api.OK), s)
				if nilled := writing(s, x, nil, c[0], c[1]); !nilled.is(outcome{s: s}) {
					t.Errorf("P1: Write(nil, %d, %d), %s: %s", c[0], c[1], show(s), nilled)
				}
				wantState(t, "P16.1: Write of a byte too many", write(t, s, x, "a", c[0], c[1], 0, api.ErrCount), s)
				wantCalls(t, "nothing", x)
			}
		}
	}
}
