package memory

import (
	"math"
	"strings"
	"testing"

	"millrace/api"
	"millrace/retry"
)

// anyErrors are errors that an answer may tell; the last ones are no known errors.
var anyErrors = []api.Errno{api.ErrArg, api.ErrMade, api.ErrIntr, api.ErrAgain, api.ErrBlock, api.ErrRange, api.ErrCustom, api.ErrEnd, 7, -1, -101, math.MaxInt, math.MinInt}

func customOf(t *testing.T, reads []Answer, writes ...int) *Custom {
	t.Helper()
	x, e := NewCustom(reads, writes)
	if e != api.OK || x == nil {
		t.Fatalf("P10.1: NewCustom of %d answers, %d numbers: %p, %d", len(reads), len(writes), x, e)
	}
	return x
}

// answers takes texts and errors.
func answers(parts ...any) []Answer {
	var l []Answer
	for _, p := range parts {
		switch v := p.(type) {
		case string:
			l = append(l, Answer{Data: []byte(v)})
		case api.Errno:
			l = append(l, Answer{Err: v})
		case Answer:
			l = append(l, v)
		}
	}
	return l
}

func wantTaken(t *testing.T, x *Custom, want string) {
	t.Helper()
	if b := x.Taken(); string(b) != want {
		t.Errorf("P10.3: Taken: %.40q (%d), not %.40q (%d)", b, len(b), want, len(want))
	}
}

// panics tells whether a write of the bytes did.
func panics(x *Custom, b []byte) (did bool) {
	defer func() {
		did = recover() != nil
	}()
	x.Write(b)
	return false
}

func wantPanic(t *testing.T, x *Custom, b string) {
	t.Helper()
	if !panics(x, []byte(b)) {
		t.Errorf("P10.3: Write of %q does not panic", b[:min(len(b), 20)])
	}
}

// TestNewCustomCounts: 4096 of each at most; ErrCount goes ahead of ErrLong (P10.1).
func TestNewCustomCounts(t *testing.T) {
	long := []Answer{{Data: make([]byte, api.MaxFile+1)}}
	for _, c := range []struct {
		reads, writes int
		e             api.Errno
	}{
		{0, 0, api.OK},
		{1, 0, api.OK},
		{0, 1, api.OK},
		{api.MaxCalls, 0, api.OK},
		{0, api.MaxCalls, api.OK},
		{api.MaxCalls, api.MaxCalls, api.OK},
		{api.MaxCalls + 1, 0, api.ErrCount},
		{0, api.MaxCalls + 1, api.ErrCount},
		{api.MaxCalls + 1, api.MaxCalls, api.ErrCount},
		{api.MaxCalls, api.MaxCalls + 1, api.ErrCount},
		{api.MaxCalls + 1, api.MaxCalls + 1, api.ErrCount},
		{2 * api.MaxCalls, 0, api.ErrCount},
		{0, 1 << 20, api.ErrCount},
	} {
		reads, writes := make([]Answer, c.reads), make([]int, c.writes)
		if x, e := NewCustom(reads, writes); e != c.e || (x != nil) != (e == api.OK) {
			t.Errorf("P10.1: NewCustom of %d answers, %d numbers: %p, %d, not %d", c.reads, c.writes, x, e, c.e)
		}
		if c.reads == 0 {
			continue
		}
		want := c.e
		if want == api.OK {
			want = api.ErrLong
		}
		for _, at := range []int{0, c.reads / 2, c.reads - 1} {
			again := append([]Answer(nil), reads...)
			again[at] = long[0]
			if x, e := NewCustom(again, writes); x != nil || e != want {
				t.Errorf("P10.1: NewCustom of %d answers, %d too long, %d numbers: %p, %d, not %d", c.reads, at, c.writes, x, e, want)
			}
		}
	}
}

// TestNewCustomLong: an answer has at most MaxFile bytes, an error beside them or not (P10.1).
func TestNewCustomLong(t *testing.T) {
	whole := text(api.MaxFile)
	x := customOf(t, answers("a", whole, "b"))
	wantRead(t, x, 9, "a", api.OK)
	wantRead(t, x, api.MaxFile, whole, api.OK)
	wantRead(t, x, 9, "b", api.OK)
	for _, e := range []api.Errno{api.OK, api.ErrCustom} {
		for _, n := range []int{api.MaxFile + 1, api.MaxFile + 2, 2 * api.MaxFile} {
			if x, ge := NewCustom([]Answer{{}, {Data: make([]byte, n), Err: e}}, nil); x != nil || ge != api.ErrLong {
				t.Errorf("P10.1: NewCustom of an answer of %d bytes beside %d: %p, %d", n, e, x, ge)
			}
		}
	}
	customOf(t, []Answer{{Data: []byte(whole), Err: api.ErrCustom}})
}

// TestNoAnswers: reads of none, and writes of all, for ever; nil and empty lists are one (P1, P10.3).
func TestNoAnswers(t *testing.T) {
	for _, reads := range [][]Answer{nil, {}} {
		for _, writes := range [][]int{nil, {}} {
			x := customOf(t, reads, writes...)
			wantTaken(t, x, "")
			for range 3 {
				wantRead(t, x, 0, "", api.OK)
				wantRead(t, x, 1, "", api.OK)
				wantRead(t, x, api.MaxFile, "", api.OK)
			}
			wantWrite(t, x, "ab", 2, api.OK)
			wantWrite(t, x, "", 0, api.OK)
			wantWrite(t, x, "c", 1, api.OK)
			wantTaken(t, x, "abc")
		}
	}
}

// TestCustomRead: each answer by itself, in pieces where it has more than is asked for (P10.3).
func TestCustomRead(t *testing.T) {
	x := customOf(t, answers("hello", "ab", "", "c", api.ErrCustom, "", "de"))
	wantRead(t, x, 2, "he", api.OK)
	wantRead(t, x, 2, "ll", api.OK)
	wantRead(t, x, 2, "o", api.OK)
	wantRead(t, x, 2, "ab", api.OK)
	wantRead(t, x, 2, "", api.OK)
	wantRead(t, x, 2, "c", api.OK)
	wantRead(t, x, 2, "", api.ErrCustom)
	wantRead(t, x, 2, "", api.OK)
	wantRead(t, x, 1, "d", api.OK)
	wantRead(t, x, api.MaxFile, "e", api.OK)
	for range 5 {
		wantRead(t, x, 2, "", api.OK)
	}
	wantTaken(t, x, "")
}

// TestReadOfNone uses no answer up, be it an error or of no byte (P10.3).
func TestReadOfNone(t *testing.T) {
	x := customOf(t, answers(api.ErrCustom, "", "ab"))
	for range 3 {
		wantRead(t, x, 0, "", api.OK)
	}
	wantRead(t, x, 1, "", api.ErrCustom)
	wantRead(t, x, 0, "", api.OK)
	wantRead(t, x, 1, "", api.OK)
	wantRead(t, x, 0, "", api.OK)
	wantRead(t, x, 1, "a", api.OK)
	wantRead(t, x, 0, "", api.OK)
	wantRead(t, x, 1, "b", api.OK)
}

// TestCustomReadRange: a refused number uses no answer up (P10.3, P10.6).
func TestCustomReadRange(t *testing.T) {
	x := customOf(t, answers(api.ErrCustom, "abc", ""))
	refused := func() {
		for _, n := range outside {
			wantRead(t, x, n, "", api.ErrRange)
		}
	}
	refused()
	wantRead(t, x, 2, "", api.ErrCustom)
	refused()
	wantRead(t, x, 2, "ab", api.OK)
	refused()
	wantRead(t, x, 2, "c", api.OK)
	wantRead(t, x, 2, "", api.OK)
	refused()
}

// TestAnswersErrors: any error is told as it is, once, and without the bytes beside it (P10.3, P10.6).
func TestAnswersErrors(t *testing.T) {
	for _, e := range anyErrors {
		x := customOf(t, answers("ab", e, Answer{Data: []byte("lost"), Err: e}, "cd", e))
		wantRead(t, x, 9, "ab", api.OK)
		wantRead(t, x, 9, "", e)
		wantRead(t, x, 1, "", e)
		wantRead(t, x, 9, "cd", api.OK)
		wantRead(t, x, 9, "", e)
		wantRead(t, x, 9, "", api.OK)
	}
}

// TestMostAnswers: all of MaxCalls answers are told, none behind them (P10.3, P10.5).
func TestMostAnswers(t *testing.T) {
	var l []Answer
	for i := range api.MaxCalls {
		l = append(l, Answer{Data: []byte(text(i % 5))})
	}
	x := customOf(t, l)
	for i := range api.MaxCalls {
		wantRead(t, x, 9, text(i%5), api.OK)
	}
	wantRead(t, x, 9, "", api.OK)
}

// TestReadsTellAllData: whatever is asked for, the reads together tell all Data of the answers without an error, in order (P10.5).
func TestReadsTellAllData(t *testing.T) {
	roll := dice(105)
	for range 500 {
		var l []Answer
		var want strings.Builder
		reads := 0
		for range roll(12) {
			a := Answer{Data: []byte(text(20)[roll(10) : 10+roll(10)])}
			if roll(4) == 0 {
				a = Answer{Err: anyErrors[roll(len(anyErrors))]}
			}
			l = append(l, a)
			want.Write(a.Data)
			reads += len(a.Data) + 1
		}
		x := customOf(t, l)
		var got strings.Builder
		for range reads {
			b, _ := x.Read(1 + roll(9))
			got.Write(b)
		}
		if got.String() != want.String() {
			t.Fatalf("P10.5: %v: %q, not %q", l, got.String(), want.String())
		}
		wantRead(t, x, 9, "", api.OK)
	}
}

// TestCustomWrite: each kind of number, and none left (P10.3).
func TestCustomWrite(t *testing.T) {
	x := customOf(t, nil, 2, 0, 3, 9, -1, math.MaxInt, -2, 1)
	wantWrite(t, x, "abc", 2, api.OK)
	wantTaken(t, x, "ab")
	wantWrite(t, x, "xyz", 0, api.OK)
	wantTaken(t, x, "ab")
	wantWrite(t, x, "cde", 3, api.OK)
	wantTaken(t, x, "abcde")
	wantWrite(t, x, "fg", 2, api.OK)
	wantTaken(t, x, "abcdefg")
	wantWrite(t, x, "xyz", 0, api.ErrCustom)
	wantTaken(t, x, "abcdefg")
	wantWrite(t, x, "h", 1, api.OK)
	wantTaken(t, x, "abcdefgh")
	wantPanic(t, x, "xyz")
	wantTaken(t, x, "abcdefgh")
	wantWrite(t, x, "ijk", 1, api.OK)
	wantWrite(t, x, "jkl", 3, api.OK)
	wantWrite(t, x, "m", 1, api.OK)
	wantTaken(t, x, "abcdefghijklm")
	wantRead(t, x, 9, "", api.OK)
}

// TestPanics: by every number below -1, which is used up by it, and by no other one (P10.3, P10.6).
func TestPanics(t *testing.T) {
	for _, w := range []int{-2, -3, -100, -api.MaxFile, -1 << 32, math.MinInt + 1, math.MinInt} {
		x := customOf(t, answers("r"), w, w, 1, w)
		wantPanic(t, x, "a")
		wantPanic(t, x, text(api.MaxFile))
		wantWrite(t, x, "bc", 1, api.OK)
		wantPanic(t, x, "c")
		wantWrite(t, x, "de", 2, api.OK)
		wantTaken(t, x, "bde")
		wantRead(t, x, 9, "r", api.OK)
	}
	for _, w := range []int{-1, 0, 1, math.MaxInt} {
		if panics(customOf(t, nil, w), []byte("a")) {
			t.Errorf("P10.3: Write by %d panics", w)
		}
	}
}

// TestWriteOfNone uses no number up, not even one by which a write fails or panics (P10.3).
func TestWriteOfNone(t *testing.T) {
	x := customOf(t, nil, -2, -1, 0, 1)
	none := func() {
		wantWrite(t, x, "", 0, api.OK)
		if n, e := x.Write(nil); n != 0 || e != api.OK {
			t.Errorf("P10.3: Write of nil: %d, %d", n, e)
		}
	}
	none()
	wantPanic(t, x, "ab")
	none()
	wantWrite(t, x, "ab", 0, api.ErrCustom)
	none()
	wantWrite(t, x, "ab", 0, api.OK)
	none()
	wantWrite(t, x, "ab", 1, api.OK)
	none()
	wantTaken(t, x, "a")
}

// TestCustomWriteLong: too many bytes are refused ahead of the number, which stays (P10.3, P10.6).
func TestCustomWriteLong(t *testing.T) {
	x := customOf(t, nil, -2, -1, 1)
	long := func() {
		for _, n := range []int{api.MaxFile + 1, api.MaxFile + 2, 2 * api.MaxFile} {
			wantWrite(t, x, zeros(n), 0, api.ErrLong)
		}
	}
	long()
	wantPanic(t, x, "ab")
	long()
	wantWrite(t, x, "ab", 0, api.ErrCustom)
	long()
	wantWrite(t, x, "ab", 1, api.OK)
	long()
	wantTaken(t, x, "a")
	whole := text(api.MaxFile)
	wantWrite(t, x, whole, api.MaxFile, api.OK)
	wantTaken(t, x, "a"+whole)
	wantWrite(t, x, whole, api.MaxFile, api.OK)
	wantTaken(t, x, "a"+whole+whole)
	x = customOf(t, nil, api.MaxFile-1, api.MaxFile, api.MaxFile+1)
	wantWrite(t, x, whole, api.MaxFile-1, api.OK)
	wantWrite(t, x, whole, api.MaxFile, api.OK)
	wantWrite(t, x, whole, api.MaxFile, api.OK)
	wantTaken(t, x, whole[:api.MaxFile-1]+whole+whole)
}

// TestMostNumbers: all of MaxCalls numbers are gone by, none behind them (P10.3).
func TestMostNumbers(t *testing.T) {
	var l []int
	for i := range api.MaxCalls {
		l = append(l, i%4-1)
	}
	x := customOf(t, nil, l...)
	taken := 0
	for i := range api.MaxCalls {
		switch want := i%4 - 1; want {
		case -1:
			wantWrite(t, x, "abc", 0, api.ErrCustom)
		default:
			wantWrite(t, x, "abc", want, api.OK)
			taken += want
		}
	}
	wantWrite(t, x, "abc", 3, api.OK)
	if n := len(x.Taken()); n != taken+3 {
		t.Errorf("P10.3: %d bytes taken, not %d", n, taken+3)
	}
}

// TestCustomSeek: it has no places, whatever is asked for, and nothing is used up (P10.3, P10.6).
func TestCustomSeek(t *testing.T) {
	x := customOf(t, answers("ab"), 1)
	for _, off := range append([]int{0, 1, 2}, outside...) {
		for _, whence := range append([]int{0, 1, 2}, noWhences...) {
			wantSeek(t, x, off, whence, 0, api.ErrSeek)
		}
	}
	wantRead(t, x, 9, "ab", api.OK)
	wantWrite(t, x, "cd", 1, api.OK)
	wantSeek(t, x, 0, 0, 0, api.ErrSeek)
	wantTaken(t, x, "c")
}

// TestReadsAndWritesAreApart: neither uses up what the other goes by (P10.3).
func TestReadsAndWritesAreApart(t *testing.T) {
	x := customOf(t, answers("ab", api.ErrIntr, "cd"), 1, -1)
	wantRead(t, x, 1, "a", api.OK)
	wantWrite(t, x, "xy", 1, api.OK)
	wantRead(t, x, 9, "b", api.OK)
	wantWrite(t, x, "xy", 0, api.ErrCustom)
	wantRead(t, x, 9, "", api.ErrIntr)
	wantWrite(t, x, "yz", 2, api.OK)
	wantRead(t, x, 9, "cd", api.OK)
	wantTaken(t, x, "xyz")
}

// TestCustomOverRetry: what is interrupted, short or taken by 0 goes on; ErrCustom does not (P10.3).
func TestCustomOverRetry(t *testing.T) {
	x := customOf(t, answers(api.ErrIntr, "he", api.ErrAgain, "llo", "", "you"), 2, 0, 1, -1)
	if b, e := retry.All(x, 4); string(b) != "hell" || e != api.OK {
		t.Errorf("P10.3: All: %q, %d", b, e)
	}
	if b, e := retry.All(x, 4); string(b) != "o" || e != api.OK {
		t.Errorf("P10.3: All up to an answer of no byte: %q, %d", b, e)
	}
	if b, e := retry.All(x, 4); string(b) != "you" || e != api.OK {
		t.Errorf("P10.3: All behind it: %q, %d", b, e)
	}
	if n, e := retry.Put(x, []byte("abcdef")); n != 3 || e != api.ErrCustom {
		t.Errorf("P10.3: Put: %d, %d", n, e)
	}
	if n, e := retry.Put(x, []byte("def")); n != 3 || e != api.OK {
		t.Errorf("P10.3: Put: %d, %d", n, e)
	}
	wantTaken(t, x, "abcdef")
}
