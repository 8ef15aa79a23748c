package retry

import (
	"bytes"
	"fmt"
	"math"
	"slices"
	"strings"
	"testing"

	"millrace/api"
	"millrace/kern"
)

// otherErrors are errors of a raw call behind which it is not made again; the last ones are no known errors.
var otherErrors = []api.Errno{api.ErrArg, api.ErrMade, api.ErrRange, api.ErrLong, api.ErrFull, api.ErrBlock, api.ErrPipe, api.ErrDesc, api.ErrMode, api.ErrTries, api.ErrRaw, api.ErrCustom, api.ErrEnd, 24, 21, -1, -22, math.MaxInt, math.MinInt}

// outside are numbers of bytes that may not be asked for.
var outside = []int{0, -1, -2, api.MaxFile + 1, api.MaxFile + 2, -api.MaxFile, -1 << 32, 1 << 32, 1<<32 + 1, math.MinInt, math.MinInt + 1, math.MaxInt32, math.MaxInt - 1, math.MaxInt}

// answer is what a raw call answers: data or n, and an error.
type answer struct {
	data string
	n    int
	e    api.Errno
}

// scripted is a Raw that gives its answers one by one and writes down what it is asked; behind the last answer reads come to the end and writes take all.
type scripted struct {
	answers []answer
	asked   []int
	handed  []string
	seeks   int
}

func (s *scripted) next(otherwise answer) answer {
	if len(s.answers) == 0 {
		return otherwise
	}
	a := s.answers[0]
	s.answers = s.answers[1:]
	return a
}

func (s *scripted) Read(n int) ([]byte, api.Errno) {
	s.asked = append(s.asked, n)
	a := s.next(answer{})
	return []byte(a.data), a.e
}

func (s *scripted) Write(b []byte) (int, api.Errno) {
	s.handed = append(s.handed, string(b))
	a := s.next(answer{n: len(b)})
	return a.n, a.e
}

func (s *scripted) Seek(off int, whence int) (int, api.Errno) {
	s.seeks++
	return 0, api.OK
}

func reads(parts ...any) *scripted {
	return &scripted{answers: answersOf(parts)}
}

func writes(parts ...any) *scripted {
	return &scripted{answers: answersOf(parts)}
}

// answersOf takes texts that are read, numbers that are taken, errors, whole answers, and lists of these.
func answersOf(parts []any) []answer {
	var l []answer
	for _, p := range parts {
		switch x := p.(type) {
		case string:
			l = append(l, answer{data: x})
		case int:
			l = append(l, answer{n: x})
		case api.Errno:
			l = append(l, answer{e: x})
		case answer:
			l = append(l, x)
		case []answer:
			l = append(l, x...)
		}
	}
	return l
}

// tries are so many answers of those, in turn.
func tries(count int, of ...any) []answer {
	each := answersOf(of)
	var l []answer
	for i := range count {
		l = append(l, each[i%len(each)])
	}
	return l
}

func wantSome(t *testing.T, r Raw, n int, want string, e api.Errno) {
	t.Helper()
	if b, ge := Some(r, n); string(b) != want || ge != e {
		t.Errorf("P8.1: Some(%d): %.40q (%d), %d, not %.40q (%d), %d", n, b, len(b), ge, want, len(want), e)
	}
}

func wantAll(t *testing.T, r Raw, n int, want string, e api.Errno) {
	t.Helper()
	if b, ge := All(r, n); string(b) != want || ge != e {
		t.Errorf("P8.2: All(%d): %.40q (%d), %d, not %.40q (%d), %d", n, b, len(b), ge, want, len(want), e)
	}
}

func wantPut(t *testing.T, r Raw, b string, want int, e api.Errno) {
	t.Helper()
	if n, ge := Put(r, []byte(b)); n != want || ge != e {
		t.Errorf("P8.3: Put of %d bytes: %d, %d, not %d, %d", len(b), n, ge, want, e)
	}
}

// wantAsked tells of the reads what was asked of each, and that no other raw call was made.
func wantAsked(t *testing.T, s *scripted, want ...int) {
	t.Helper()
	if !slices.Equal(s.asked, want) || len(s.handed) > 0 || s.seeks > 0 {
		t.Errorf("P8.1, P8.2: reads of %v, %d writes, %d seeks, not just reads of %v", s.asked, len(s.handed), s.seeks, want)
	}
}

// wantHanded tells of the writes what was handed to each, and that no other raw call was made.
func wantHanded(t *testing.T, s *scripted, want ...string) {
	t.Helper()
	if !slices.Equal(s.handed, want) || len(s.asked) > 0 || s.seeks > 0 {
		t.Errorf("P8.3: writes of %.200q, %d reads, %d seeks, not just writes of %.200q", s.handed, len(s.asked), s.seeks, want)
	}
}

// wantCount tells how many raw calls were made, where they are too many to be listed.
func wantCount(t *testing.T, s *scripted, want int) {
	t.Helper()
	if got := len(s.asked) + len(s.handed) + s.seeks; got != want {
		t.Errorf("P8.1, P8.3: %d raw calls, not %d", got, want)
	}
}

// text has n bytes, of all values, without a short period.
func text(n int) string {
	b := make([]byte, n)
	for i := range b {
		b[i] = byte(i*7 + i>>8 + i>>16*3)
	}
	return string(b)
}

// TestSome: what one read answers, whole or short, is answered (P8.1, P8.5).
func TestSome(t *testing.T) {
	s := reads("hello", "he", "l", "")
	wantSome(t, s, 5, "hello", api.OK)
	wantSome(t, s, 5, "he", api.OK)
	wantSome(t, s, 1, "l", api.OK)
	wantSome(t, s, 7, "", api.OK)
	wantSome(t, s, 8, "", api.OK)
	wantAsked(t, s, 5, 5, 1, 7, 8)

	whole := text(api.MaxFile)
	s = reads(whole, whole[1:])
	wantSome(t, s, api.MaxFile, whole, api.OK)
	wantSome(t, s, api.MaxFile, whole[1:], api.OK)
	wantAsked(t, s, api.MaxFile, api.MaxFile)
}

// TestSomeAgain: what was interrupted, or is to be tried again, is asked for again, by the same number (P8.1).
func TestSomeAgain(t *testing.T) {
	s := reads(api.ErrIntr, "ab", api.ErrAgain, "c", api.ErrIntr, api.ErrAgain, api.ErrAgain, api.ErrIntr, "", api.ErrIntr)
	wantSome(t, s, 3, "ab", api.OK)
	wantAsked(t, s, 3, 3)
	wantSome(t, s, 2, "c", api.OK)
	wantAsked(t, s, 3, 3, 2, 2)
	wantSome(t, s, 9, "", api.OK)
	wantAsked(t, s, 3, 3, 2, 2, 9, 9, 9, 9, 9)
	wantSome(t, s, 4, "", api.OK)
	wantAsked(t, s, 3, 3, 2, 2, 9, 9, 9, 9, 9, 4, 4)
}

// TestSomeTries: MaxTries reads in a row are made at most (P8.1).
func TestSomeTries(t *testing.T) {
	for _, kinds := range [][]any{{api.ErrIntr}, {api.ErrAgain}, {api.ErrIntr, api.ErrAgain}, {api.ErrAgain, api.ErrAgain, api.ErrIntr}} {
		for _, c := range []struct {
			tries int
			want  string
			e     api.Errno
			calls int
		}{
			{1, "x", api.OK, 2},
			{api.MaxFaults, "x", api.OK, api.MaxFaults + 1},
			{api.MaxTries - 2, "x", api.OK, api.MaxTries - 1},
			{api.MaxTries - 1, "x", api.OK, api.MaxTries},
			{api.MaxTries, "", api.ErrTries, api.MaxTries},
			{api.MaxTries + 1, "", api.ErrTries, api.MaxTries},
			{3 * api.MaxTries, "", api.ErrTries, api.MaxTries},
		} {
			s := reads(tries(c.tries, kinds...), "x")
			wantSome(t, s, 4, c.want, c.e)
			wantCount(t, s, c.calls)
		}
	}
}

// TestSomeTriesAnew: each call has MaxTries of its own (P8.1).
func TestSomeTriesAnew(t *testing.T) {
	most := tries(api.MaxTries-1, api.ErrIntr)
	s := reads(most, "a", most, "b", most, api.ErrIntr, most, "c")
	wantSome(t, s, 4, "a", api.OK)
	wantSome(t, s, 4, "b", api.OK)
	wantSome(t, s, 4, "", api.ErrTries)
	wantSome(t, s, 4, "c", api.OK)
	wantCount(t, s, 4*api.MaxTries)
}

// TestSomeErrors: another error is answered at once, without bytes (P8.1).
func TestSomeErrors(t *testing.T) {
	for _, e := range otherErrors {
		s := reads(e, "never")
		wantSome(t, s, 3, "", e)
		wantAsked(t, s, 3)
		s = reads(answer{data: "abc", e: e}, "never")
		wantSome(t, s, 3, "", e)
		wantAsked(t, s, 3)
		s = reads(api.ErrIntr, api.ErrAgain, answer{data: "a", e: e}, "never")
		wantSome(t, s, 3, "", e)
		wantAsked(t, s, 3, 3, 3)
	}
}

// TestSomeRaw: more bytes than were asked for is ErrRaw, ahead of another error; what comes beside a try is not looked at (P8.1).
func TestSomeRaw(t *testing.T) {
	for _, c := range []struct {
		n    int
		a    answer
		want string
		e    api.Errno
	}{
		{3, answer{data: "abc"}, "abc", api.OK},
		{3, answer{data: "abcd"}, "", api.ErrRaw},
		{1, answer{data: "ab"}, "", api.ErrRaw},
		{3, answer{data: text(5000)}, "", api.ErrRaw},
		{api.MaxFile, answer{data: text(api.MaxFile + 1)}, "", api.ErrRaw},
		{3, answer{data: "abcd", e: api.ErrPipe}, "", api.ErrRaw},
		{3, answer{data: "abc", e: api.ErrPipe}, "", api.ErrPipe},
	} {
		s := reads(c.a, "never")
		wantSome(t, s, c.n, c.want, c.e)
		wantAsked(t, s, c.n)
	}
	s := reads(answer{data: "no", e: api.ErrIntr}, answer{data: "nothing", e: api.ErrAgain}, "yes")
	wantSome(t, s, 3, "yes", api.OK)
	wantAsked(t, s, 3, 3, 3)
}

// TestAll: short reads go on till all is there, or none comes (P8.2).
func TestAll(t *testing.T) {
	for _, c := range []struct {
		s     *scripted
		n     int
		want  string
		asked []int
	}{
		{reads("hello"), 5, "hello", []int{5}},
		{reads("h", "ell", "o", "never"), 5, "hello", []int{5, 4, 1}},
		{reads("x", "never"), 1, "x", []int{1}},
		{reads(), 5, "", []int{5}},
		{reads("", "never"), 5, "", []int{5}},
		{reads("hel"), 5, "hel", []int{5, 2}},
		{reads("he", "l", "", "lo"), 5, "hel", []int{5, 3, 2}},
		{reads("hell", "o", ""), 5, "hello", []int{5, 1}},
		{reads("hello"), 6, "hello", []int{6, 1}},
		{reads(api.ErrIntr, "h", api.ErrAgain, api.ErrIntr, "ello", "never"), 5, "hello", []int{5, 5, 4, 4, 4}},
		{reads("he", api.ErrAgain, "", "never"), 5, "he", []int{5, 3, 3}},
	} {
		wantAll(t, c.s, c.n, c.want, api.OK)
		wantAsked(t, c.s, c.asked...)
	}
}

// TestAllOfMost: MaxFile bytes, in one piece, in bytes, and one short of them (P8.2).
func TestAllOfMost(t *testing.T) {
	whole := text(api.MaxFile)
	s := reads(whole)
	wantAll(t, s, api.MaxFile, whole, api.OK)
	wantAsked(t, s, api.MaxFile)
	s = reads(whole[:1], whole[1:])
	wantAll(t, s, api.MaxFile, whole, api.OK)
	wantAsked(t, s, api.MaxFile, api.MaxFile-1)
	s = reads(whole[1:])
	wantAll(t, s, api.MaxFile, whole[1:], api.OK)
	wantAsked(t, s, api.MaxFile, 1)

	s = reads()
	for i := range whole {
		s.answers = append(s.answers, answer{data: whole[i : i+1]})
	}
	wantAll(t, s, api.MaxFile, whole, api.OK)
	wantCount(t, s, api.MaxFile)
}

// TestAllErrors: an error is answered beside the bytes that came ahead of it (P8.2).
func TestAllErrors(t *testing.T) {
	for _, e := range otherErrors {
		s := reads(e, "never")
		wantAll(t, s, 5, "", e)
		wantAsked(t, s, 5)
		s = reads("he", api.ErrIntr, "l", answer{data: "lo", e: e}, "never")
		wantAll(t, s, 5, "hel", e)
		wantAsked(t, s, 5, 3, 3, 2)
	}
	s := reads("he", "llo!", "never")
	wantAll(t, s, 5, "he", api.ErrRaw)
	wantAsked(t, s, 5, 3)
	s = reads("hello!", "never")
	wantAll(t, s, 5, "", api.ErrRaw)
	wantAsked(t, s, 5)
	s = reads("hell", answer{data: "o!", e: api.ErrPipe}, "never")
	wantAll(t, s, 5, "hell", api.ErrRaw)
	wantAsked(t, s, 5, 1)
}

// TestAllTries: the tries count anew behind each read that went on (P8.2).
func TestAllTries(t *testing.T) {
	most := tries(api.MaxTries-1, api.ErrAgain, api.ErrIntr)
	s := reads(most, "a", most, "b", most, "c", "never")
	wantAll(t, s, 3, "abc", api.OK)
	wantCount(t, s, 3*api.MaxTries)
	s = reads(most, "a", most, api.ErrIntr, "b")
	wantAll(t, s, 3, "a", api.ErrTries)
	wantCount(t, s, 2*api.MaxTries)
	s = reads(most, api.ErrAgain, "a")
	wantAll(t, s, 3, "", api.ErrTries)
	wantCount(t, s, api.MaxTries)
	s = reads(most, "a", most, "", "never")
	wantAll(t, s, 3, "a", api.OK)
	wantCount(t, s, 2*api.MaxTries)
}

// TestPut: short writes go on with what is left till all is taken (P8.3).
func TestPut(t *testing.T) {
	for _, c := range []struct {
		s      *scripted
		b      string
		handed []string
	}{
		{writes(), "hello", []string{"hello"}},
		{writes(5, 99), "hello", []string{"hello"}},
		{writes(1, 3, 1, 99), "hello", []string{"hello", "ello", "o"}},
		{writes(4), "hello", []string{"hello", "o"}},
		{writes(1), "x", []string{"x"}},
		{writes(0, 0, 5, 99), "hello", []string{"hello", "hello", "hello"}},
		{writes(api.ErrIntr, 2, api.ErrAgain, 0, api.ErrIntr, 1, 2, 99), "hello", []string{"hello", "hello", "llo", "llo", "llo", "llo", "lo"}},
	} {
		wantPut(t, c.s, c.b, len(c.b), api.OK)
		wantHanded(t, c.s, c.handed...)
	}
	for _, none := range [][]byte{nil, {}} {
		s := writes(api.ErrPipe)
		if n, e := Put(s, none); n != 0 || e != api.OK {
			t.Errorf("P8.3: Put of none: %d, %d", n, e)
		}
		wantHanded(t, s)
	}
}

// TestPutOfMost: MaxFile bytes, in one piece and in two, and one byte more (P8.3).
func TestPutOfMost(t *testing.T) {
	whole := text(api.MaxFile)
	s := writes()
	wantPut(t, s, whole, api.MaxFile, api.OK)
	wantHanded(t, s, whole)
	s = writes(api.MaxFile - 1)
	wantPut(t, s, whole, api.MaxFile, api.OK)
	wantHanded(t, s, whole, whole[api.MaxFile-1:])
	for _, more := range []int{1, 2, api.MaxFile} {
		s = writes()
		wantPut(t, s, text(api.MaxFile+more), 0, api.ErrLong)
		wantHanded(t, s)
	}
}

// TestPutByteByByte: a great many short writes are no matter (P8.3).
func TestPutByteByByte(t *testing.T) {
	whole := text(1 << 14)
	s := writes(tries(len(whole), 1), 99)
	wantPut(t, s, whole, len(whole), api.OK)
	wantCount(t, s, len(whole))
	for i, h := range s.handed {
		if h != whole[i:] {
			t.Fatalf("P8.3: write %d was handed %.40q, not %.40q", i, h, whole[i:])
		}
	}
}

// TestPutTries: MaxTries writes in a row that take nothing are made at most; the count begins anew behind one that went on (P8.3).
func TestPutTries(t *testing.T) {
	for _, kinds := range [][]any{{api.ErrIntr}, {api.ErrAgain}, {0}, {api.ErrIntr, 0}, {0, api.ErrAgain, api.ErrIntr}} {
		for _, c := range []struct {
			tries int
			want  int
			e     api.Errno
			calls int
		}{
			{1, 3, api.OK, 2},
			{api.MaxFaults, 3, api.OK, api.MaxFaults + 1},
			{api.MaxTries - 2, 3, api.OK, api.MaxTries - 1},
			{api.MaxTries - 1, 3, api.OK, api.MaxTries},
			{api.MaxTries, 0, api.ErrTries, api.MaxTries},
			{api.MaxTries + 1, 0, api.ErrTries, api.MaxTries},
			{3 * api.MaxTries, 0, api.ErrTries, api.MaxTries},
		} {
			s := writes(tries(c.tries, kinds...))
			wantPut(t, s, "abc", c.want, c.e)
			wantCount(t, s, c.calls)
		}
		most := tries(api.MaxTries-1, kinds...)
		s := writes(most, 1, most, 1, most, 1, 99)
		wantPut(t, s, "abc", 3, api.OK)
		wantCount(t, s, 3*api.MaxTries)
		s = writes(most, 1, most, kinds[0], 1)
		wantPut(t, s, "abc", 1, api.ErrTries)
		wantCount(t, s, 2*api.MaxTries)
		s = writes(2, most, kinds[0], 1)
		wantPut(t, s, "abc", 2, api.ErrTries)
		wantCount(t, s, 1+api.MaxTries)
		wantPut(t, s, "a", 1, api.OK)
	}
}

// TestPutErrors: another error is answered at once, beside how many were taken ahead of it (P8.3).
func TestPutErrors(t *testing.T) {
	for _, e := range otherErrors {
		for _, n := range []int{0, 1, 3} {
			s := writes(answer{n: n, e: e}, 5)
			wantPut(t, s, "hello", 0, e)
			wantHanded(t, s, "hello")
			s = writes(1, api.ErrIntr, 1, 0, answer{n: n, e: e}, 3)
			wantPut(t, s, "hello", 2, e)
			wantHanded(t, s, "hello", "ello", "ello", "llo", "llo")
		}
	}
}

// TestPutRaw: a number below 0 or above what was left is ErrRaw, ahead of another error; what comes beside a try is not looked at (P8.3).
func TestPutRaw(t *testing.T) {
	for _, n := range []int{-1, -2, -5, 6, 7, api.MaxFile, api.MaxFile + 1, -1 << 32, 1 << 32, 1<<32 + 1, math.MinInt, math.MinInt + 1, math.MaxInt - 1, math.MaxInt} {
		for _, e := range append([]api.Errno{api.OK}, otherErrors...) {
			s := writes(answer{n: n, e: e}, 99)
			wantPut(t, s, "hello", 0, api.ErrRaw)
			wantHanded(t, s, "hello")
		}
		s := writes(2, n, 3)
		wantPut(t, s, "hello", 2, api.ErrRaw)
		wantHanded(t, s, "hello", "llo")
		s = writes(answer{n: n, e: api.ErrIntr}, 2, answer{n: n, e: api.ErrAgain}, 3, 99)
		wantPut(t, s, "hello", 5, api.OK)
		wantHanded(t, s, "hello", "hello", "llo", "llo")
	}
	for _, n := range []int{4, 5} {
		s := writes(2, n)
		wantPut(t, s, "hello", 2, api.ErrRaw)
		wantHanded(t, s, "hello", "llo")
	}
	s := writes(answer{n: 2, e: api.ErrIntr}, answer{n: 5, e: api.ErrAgain}, 5)
	wantPut(t, s, "hello", 5, api.OK)
	wantHanded(t, s, "hello", "hello", "hello")
}

// TestRefused: what may not be asked for makes no raw call, and ErrMade goes ahead (P8.1, P8.2, P8.3, P4).
func TestRefused(t *testing.T) {
	for _, n := range outside {
		s := reads("never")
		wantSome(t, s, n, "", api.ErrRange)
		wantAll(t, s, n, "", api.ErrRange)
		wantSome(t, nil, n, "", api.ErrMade)
		wantAll(t, nil, n, "", api.ErrMade)
		wantAsked(t, s)
		wantSome(t, s, 9, "never", api.OK)
	}
	for _, n := range []int{1, 5, api.MaxFile} {
		wantSome(t, nil, n, "", api.ErrMade)
		wantAll(t, nil, n, "", api.ErrMade)
		wantSome(t, kern.Handle{}, n, "", api.ErrMade)
		wantAll(t, kern.Handle{}, n, "", api.ErrMade)
	}
	for _, n := range []int{0, 1, 5, api.MaxFile, api.MaxFile + 1} {
		wantPut(t, nil, text(n), 0, api.ErrMade)
	}
	wantPut(t, kern.Handle{}, "x", 0, api.ErrMade)
	wantPut(t, kern.Handle{}, "", 0, api.OK)
	wantPut(t, kern.Handle{}, text(api.MaxFile+1), 0, api.ErrLong)
}

// TestPanicGoesThrough: a panic of a Raw's Write is its caller's matter, who may catch it (P1).
func TestPanicGoesThrough(t *testing.T) {
	defer func() {
		if got := recover(); got != "torn" {
			t.Errorf("P1: Put: a panic of the Raw came as %v", got)
		}
	}()
	n, e := Put(torn{}, []byte("x"))
	t.Errorf("P1: Put: %d, %d of a Raw that panics", n, e)
}

// torn is a Raw whose Write panics.
type torn struct{}

func (torn) Read(n int) ([]byte, api.Errno)        { return nil, api.OK }
func (torn) Write(b []byte) (int, api.Errno)       { panic("torn") }
func (torn) Seek(off, whence int) (int, api.Errno) { return 0, api.OK }

// ahead is the plainest word for what All and Put of a script must answer: they are held against it for scripts of every kind.
type ahead struct {
	moved int
	e     api.Errno
	calls int
}

// allOf tells what All(n) is of these answers, behind which is the end.
func allOf(script []answer, n int) (string, ahead) {
	var got string
	inARow := 0
	for i, a := range append(slices.Clone(script), answer{}) {
		switch {
		case a.e == api.ErrIntr || a.e == api.ErrAgain:
			inARow++
			if inARow == 8192 {
				return got, ahead{len(got), api.ErrTries, i + 1}
			}
			continue
		case len(got)+len(a.data) > n:
			return got, ahead{len(got), api.ErrRaw, i + 1}
		case a.e != api.OK || a.data == "":
			return got, ahead{len(got), a.e, i + 1}
		}
		inARow = 0
		got += a.data
		if len(got) == n {
			return got, ahead{n, api.OK, i + 1}
		}
	}
	return got, ahead{}
}

// putOf tells what Put of n bytes is, to these answers, behind which all is taken.
func putOf(script []answer, n int) ahead {
	taken, inARow := 0, 0
	for i, a := range script {
		switch {
		case taken == n:
			return ahead{n, api.OK, i}
		case a.e == api.ErrIntr || a.e == api.ErrAgain || a.e == api.OK && a.n == 0:
			inARow++
			if inARow == 8192 {
				return ahead{taken, api.ErrTries, i + 1}
			}
			continue
		case a.n < 0 || taken+a.n > n:
			return ahead{taken, api.ErrRaw, i + 1}
		case a.e != api.OK:
			return ahead{taken, a.e, i + 1}
		}
		inARow = 0
		taken += a.n
	}
	if taken == n {
		return ahead{n, api.OK, len(script)}
	}
	return ahead{n, api.OK, len(script) + 1}
}

// dice answers a number below n, by a rule that hangs on the seed alone.
func dice(seed uint64) func(n int) int {
	return func(n int) int {
		seed = seed*6364136223846793005 + 1442695040888963407
		return int(seed >> 33 % uint64(n))
	}
}

// scriptOf has answers of all kinds, most of which go on.
func scriptOf(roll func(int) int) []answer {
	var l []answer
	for range roll(12) {
		a := answer{n: 1 + roll(4)}
		a.data = "abcd"[:a.n]
		switch roll(8) {
		case 0:
			a.e = api.ErrIntr
		case 1:
			a.e = api.ErrAgain
		case 2:
			a.n, a.data = 0, strings.Repeat("z", roll(2)*9)
		case 3:
			a.n -= 3
			a.e = []api.Errno{api.OK, api.ErrPipe, api.ErrIntr}[roll(3)]
		}
		l = append(l, a)
	}
	return l
}

// TestScripts: All and Put answer what the plainest word says, by as many raw calls (P8.2, P8.3).
func TestScripts(t *testing.T) {
	roll := dice(8)
	for range 20000 {
		script := scriptOf(roll)
		n := 1 + roll(16)
		s := &scripted{answers: script}
		got, want := allOf(script, n)
		wantAll(t, s, n, got, want.e)
		wantCount(t, s, want.calls)

		s = &scripted{answers: script}
		want = putOf(script, n)
		wantPut(t, s, text(n), want.moved, want.e)
		wantCount(t, s, want.calls)
		if t.Failed() {
			t.Fatal(fmt.Sprint(n, script))
		}
	}
}

// TestSomeIsNeverEmptyAheadOfTheEnd: beside OK there is at least one byte, and at most n, till the end (P8.5).
func TestSomeIsNeverEmptyAheadOfTheEnd(t *testing.T) {
	roll := dice(85)
	whole := []byte(text(3000))
	for range 200 {
		s := reads()
		for at := 0; at < len(whole); {
			for range roll(3) {
				s.answers = append(s.answers, answer{e: []api.Errno{api.ErrIntr, api.ErrAgain}[roll(2)]})
			}
			n := min(1+roll(64), len(whole)-at)
			s.answers = append(s.answers, answer{data: string(whole[at : at+n])})
			at += n
		}
		var got []byte
		for len(got) < len(whole) {
			b, e := Some(s, 64)
			if e != api.OK || len(b) < 1 || len(b) > 64 {
				t.Fatalf("P8.5: Some: %d bytes, %d, behind %d", len(b), e, len(got))
			}
			got = append(got, b...)
		}
		if !bytes.Equal(got, whole) {
			t.Fatal("P8.5: Some: other bytes than the Raw's")
		}
		wantSome(t, s, 64, "", api.OK)
	}
}
