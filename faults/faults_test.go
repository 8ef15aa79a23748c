package faults

import (
	"math"
	"slices"
	"strconv"
	"strings"
	"testing"

	"millrace/api"
)

// many is n faults of all kinds, no two neighbours the same.
func many(n int) []api.Fault {
	l := make([]api.Fault, n)
	for i := range l {
		l[i] = api.Fault{Kind: i % 4}
		if l[i].Kind == 1 {
			l[i].N = 1 + i*i%api.MaxFile
		}
	}
	return l
}

// good are faults that may be, with the word that tells each.
var good = []struct {
	fault api.Fault
	word  string
}{
	{api.Fault{}, "f"},
	{api.Fault{Kind: 1, N: 1}, "s1"},
	{api.Fault{Kind: 1, N: 2}, "s2"},
	{api.Fault{Kind: 1, N: 10}, "s10"},
	{api.Fault{Kind: 1, N: 1000000}, "s1000000"},
	{api.Fault{Kind: 1, N: api.MaxFile - 1}, "s1048575"},
	{api.Fault{Kind: 1, N: api.MaxFile}, "s1048576"},
	{api.Fault{Kind: 2}, "i"},
	{api.Fault{Kind: 3}, "a"},
}

// wrong are faults that may not be.
var wrong = []api.Fault{
	{Kind: -1}, {Kind: 4}, {Kind: 5}, {Kind: math.MinInt}, {Kind: math.MaxInt}, {Kind: 1 << 32}, {Kind: 1<<32 + 1, N: 1}, {Kind: 256 + 2},
	{Kind: -1, N: 1}, {Kind: 4, N: 1},
	{Kind: 0, N: 1}, {Kind: 0, N: -1}, {Kind: 2, N: 1}, {Kind: 2, N: -1}, {Kind: 3, N: 1}, {Kind: 3, N: math.MaxInt},
	{Kind: 1}, {Kind: 1, N: -1}, {Kind: 1, N: api.MaxFile + 1}, {Kind: 1, N: math.MaxInt}, {Kind: 1, N: math.MinInt}, {Kind: 1, N: 1<<32 + 1},
}

func wantChecked(t *testing.T, l []api.Fault, e api.Errno, n int) {
	t.Helper()
	if gotE, gotN := Check(l); gotE != e || gotN != n {
		t.Errorf("P2.1: Check of %d faults: %d, %d; want %d, %d", len(l), gotE, gotN, e, n)
	}
	p, gotE := New(l)
	if gotE != e || (p != nil) != (e == api.OK) {
		t.Errorf("P2.1: New of %d faults: %v, %d; want error %d", len(l), p, gotE, e)
	}
	s, gotE := Print(l)
	if gotE != e || e != api.OK && s != "" {
		t.Errorf("P2.3: Print of %d faults: %q, %d; want error %d", len(l), s, gotE, e)
	}
}

func wantParsed(t *testing.T, s string, l []api.Fault, e api.Errno, at int) {
	t.Helper()
	gotL, gotE, gotAt := Parse(s)
	if !slices.Equal(gotL, l) || gotE != e || gotAt != at {
		shown := s[:min(len(s), 60)]
		t.Errorf("P2.3: Parse(%q) of %d bytes: %d faults, %d, %d; want %d faults, %d, %d", shown, len(s), len(gotL), gotE, gotAt, len(l), e, at)
	}
}

func planOf(t *testing.T, l ...api.Fault) *Plan {
	t.Helper()
	p, e := New(l)
	if e != api.OK || p == nil {
		t.Fatalf("P2.1: New(%v): %v, %d", l, p, e)
	}
	return p
}

func wantNext(t *testing.T, p *Plan, want, n int, e api.Errno) {
	t.Helper()
	if gotN, gotE := p.Next(want); gotN != n || gotE != e {
		t.Errorf("P2.2: Next(%d): %d, %d; want %d, %d", want, gotN, gotE, n, e)
	}
}

func wantRest(t *testing.T, p *Plan, l ...api.Fault) {
	t.Helper()
	if got := p.Rest(); !slices.Equal(got, l) {
		t.Errorf("P2.2: Rest: %v; want %v", got, l)
	}
}

func TestCheckHowMany(t *testing.T) {
	wantChecked(t, nil, api.OK, 0)
	wantChecked(t, []api.Fault{}, api.OK, 0)
	for _, n := range []int{1, 2, 5, 4095, 4096} {
		wantChecked(t, many(n), api.OK, n)
	}
	for _, n := range []int{4097, 4098, 100000} {
		wantChecked(t, many(n), api.ErrCount, 0)
	}
}

func TestCheckEachFault(t *testing.T) {
	for _, g := range good {
		wantChecked(t, []api.Fault{g.fault}, api.OK, 1)
	}
	for _, f := range wrong {
		wantChecked(t, []api.Fault{f}, api.ErrFault, 0)
		wantChecked(t, []api.Fault{{}, f, {Kind: 1}, f}, api.ErrFault, 1)
		wantChecked(t, append(many(4095), f), api.ErrFault, 4095)
		wantChecked(t, append([]api.Fault{f}, many(4095)...), api.ErrFault, 0)
	}
}

// TestCheckCountsFirst: too many go ahead of one that may not be, wherever it stands.
func TestCheckCountsFirst(t *testing.T) {
	for _, at := range []int{0, 7, 4095, 4096} {
		l := many(4097)
		l[at] = api.Fault{Kind: 9}
		wantChecked(t, l, api.ErrCount, 0)
	}
}

func TestNextOfEachKind(t *testing.T) {
	for _, want := range []int{1, 2, 3, 4, 10, api.MaxFile - 1, api.MaxFile} {
		p := planOf(t, api.Fault{}, api.Fault{Kind: 1, N: 3}, api.Fault{Kind: 2}, api.Fault{Kind: 3}, api.Fault{Kind: 1, N: api.MaxFile}, api.Fault{Kind: 1, N: 1})
		wantNext(t, p, want, want, api.OK)
		wantNext(t, p, want, min(want, 3), api.OK)
		wantNext(t, p, want, 0, api.ErrIntr)
		wantNext(t, p, want, 0, api.ErrAgain)
		wantNext(t, p, want, want, api.OK)
		wantNext(t, p, want, 1, api.OK)
		for range 5 {
			wantNext(t, p, want, want, api.OK)
		}
	}
}

// TestNextOutOfRange: it is refused, and uses nothing up.
func TestNextOutOfRange(t *testing.T) {
	p := planOf(t, api.Fault{Kind: 2}, api.Fault{Kind: 1, N: 2})
	for _, want := range []int{math.MinInt, -1, 0, api.MaxFile + 1, math.MaxInt, 1<<32 + 1} {
		wantNext(t, p, want, 0, api.ErrRange)
	}
	wantRest(t, p, api.Fault{Kind: 2}, api.Fault{Kind: 1, N: 2})
	wantNext(t, p, 1, 0, api.ErrIntr)
	wantNext(t, p, 0, 0, api.ErrRange)
	wantNext(t, p, api.MaxFile, 2, api.OK)
	wantNext(t, p, 0, 0, api.ErrRange)
	wantNext(t, p, api.MaxFile+1, 0, api.ErrRange)
}

func TestRestAsUsedUp(t *testing.T) {
	for _, n := range []int{0, 1, 9, 4096} {
		l := many(n)
		p := planOf(t, l...)
		for i := range l {
			if got := p.Rest(); !slices.Equal(got, l[i:]) {
				t.Fatalf("P2.2: Rest behind %d of %d: %d faults", i, n, len(got))
			}
			p.Next(5)
		}
		wantRest(t, p)
		p.Next(5)
		wantRest(t, p)
	}
}

// TestPlanOfNone: a plan without faults was made all the same.
func TestPlanOfNone(t *testing.T) {
	for _, l := range [][]api.Fault{nil, {}} {
		p := planOf(t, l...)
		wantRest(t, p)
		wantNext(t, p, 7, 7, api.OK)
		q := p.Copy()
		if q == nil {
			t.Fatal("P2.2: Copy of an empty plan: nil")
		}
		wantNext(t, q, 7, 7, api.OK)
	}
}

func TestPlanThatNoNewMade(t *testing.T) {
	for _, p := range []*Plan{nil, {}, new(Plan)} {
		for _, want := range []int{1, 10, 0, -1, api.MaxFile + 1} {
			wantNext(t, p, want, 0, api.ErrMade)
		}
		wantRest(t, p)
		if q := p.Copy(); q != nil {
			t.Errorf("P2.2: Copy: %v; want nil", q)
		}
		wantNext(t, p, 1, 0, api.ErrMade)
	}
}

func TestCopyIsTheSame(t *testing.T) {
	l := many(9)
	for used := range 12 {
		p := planOf(t, l...)
		for range used {
			p.Next(100)
		}
		q := p.Copy()
		if p == q {
			t.Fatal("P2.2: Copy answered the plan itself")
		}
		wantRest(t, q, l[min(used, 9):]...)
		for range 11 {
			n, e := p.Next(50)
			wantNext(t, q, 50, n, e)
		}
	}
}

// TestCopySharesNothing: what one uses up the other has still, whichever goes ahead.
func TestCopySharesNothing(t *testing.T) {
	l := []api.Fault{{Kind: 2}, {Kind: 3}, {Kind: 1, N: 4}}
	p := planOf(t, l...)
	q := p.Copy()
	r := q.Copy()
	p.Next(1)
	p.Next(1)
	wantRest(t, p, l[2])
	wantRest(t, q, l...)
	q.Next(1)
	wantRest(t, p, l[2])
	wantRest(t, q, l[1:]...)
	wantRest(t, r, l...)
	if &q.left[0] == &r.left[1] || &p.left[0] == &q.left[1] {
		t.Error("P2.6: a copy's faults stand where the plan's do")
	}
}

func TestPrintEachFault(t *testing.T) {
	var l []api.Fault
	var words []string
	for _, g := range good {
		if s, e := Print([]api.Fault{g.fault}); s != g.word || e != api.OK {
			t.Errorf("P2.3: Print(%v): %q, %d; want %q", g.fault, s, e, g.word)
		}
		l, words = append(l, g.fault), append(words, g.word)
	}
	if s, e := Print(l); s != strings.Join(words, " ") || e != api.OK {
		t.Errorf("P2.3: Print(%v): %q, %d", l, s, e)
	}
	for _, none := range [][]api.Fault{nil, {}} {
		if s, e := Print(none); s != "" || e != api.OK {
			t.Errorf("P2.3: Print of none: %q, %d", s, e)
		}
	}
}

func TestParseEachWord(t *testing.T) {
	for _, g := range good {
		l := []api.Fault{g.fault}
		wantParsed(t, g.word, l, api.OK, len(g.word))
		wantParsed(t, "   "+g.word+" ", l, api.OK, len(g.word)+4)
		wantParsed(t, "i  "+g.word+"   a", []api.Fault{{Kind: 2}, g.fault, {Kind: 3}}, api.OK, len(g.word)+7)
	}
}

func TestParseBlanks(t *testing.T) {
	for _, n := range []int{0, 1, 2, 65535, 65536} {
		wantParsed(t, strings.Repeat(" ", n), nil, api.OK, n)
	}
	wantParsed(t, "f i", []api.Fault{{}, {Kind: 2}}, api.OK, 3)
	wantParsed(t, "  f    s3 i a  ", []api.Fault{{}, {Kind: 1, N: 3}, {Kind: 2}, {Kind: 3}}, api.OK, 15)
}

// wrongWords are near ones, numbers out of range or written otherwise, other white space, bytes that are no text.
var wrongWords = []string{
	"s", "s0", "s00", "s01", "s0000001", "s00000001", "s-1", "s+1", "s1048577", "s9999999", "s10485760", "s10000000", "s99999999",
	"s18446744073709551617", "s4294967297", "s" + strings.Repeat("9", 400), "s1a", "sa", "s1f", "s1_0", "s0x1", "s1.0", "ss1", "S1",
	"F", "I", "A", "ff", "ia", "fi", "i0", "a1", "f0", "x", "0", "1", "-", "f\t", "\tf", "f\ti", "f\n", "\n", "\x00", "f\x00", "\xff", "s\xff", "\xc2\xa0", "s１", "é", "s1,",
}

func TestParseWrongWords(t *testing.T) {
	for _, w := range wrongWords {
		wantParsed(t, w, nil, api.ErrFault, 0)
		wantParsed(t, "   "+w, nil, api.ErrFault, 3)
		wantParsed(t, "f  s12 "+w+" i", nil, api.ErrFault, 7)
		wantParsed(t, "a "+w+" x s0", nil, api.ErrFault, 2)
		wantParsed(t, strings.Repeat("i ", 4095)+w, nil, api.ErrFault, 8190)
	}
}

// TestParseLong: too many bytes go ahead of all that is in them, also where they are blanks alone.
func TestParseLong(t *testing.T) {
	wantParsed(t, "f"+strings.Repeat(" ", 65535), []api.Fault{{}}, api.OK, 65536)
	wantParsed(t, strings.Repeat(" ", 65535)+"i", []api.Fault{{Kind: 2}}, api.OK, 65536)
	wantParsed(t, strings.Repeat(" ", 65535)+"x", nil, api.ErrFault, 65535)
	wantParsed(t, "f"+strings.Repeat(" ", 65536), nil, api.ErrLong, 0)
	wantParsed(t, strings.Repeat(" ", 65537), nil, api.ErrLong, 0)
	wantParsed(t, strings.Repeat("x", 65537), nil, api.ErrLong, 0)
	wantParsed(t, strings.Repeat("x", 65536), nil, api.ErrFault, 0)
	wantParsed(t, strings.Repeat("f ", 32769), nil, api.ErrLong, 0)
}

// TestParseCountsFirst: too many words go ahead of one that is none.
func TestParseCountsFirst(t *testing.T) {
	wantParsed(t, strings.Repeat(" f", 4096), make([]api.Fault, 4096), api.OK, 8192)
	wantParsed(t, strings.Repeat("f ", 4096)+"  ", make([]api.Fault, 4096), api.OK, 8194)
	wantParsed(t, strings.Repeat("f ", 4097), nil, api.ErrCount, 0)
	wantParsed(t, strings.Repeat("f ", 32768), nil, api.ErrCount, 0)
	wantParsed(t, "x "+strings.Repeat("f ", 4096), nil, api.ErrCount, 0)
	wantParsed(t, strings.Repeat("f ", 4096)+"x", nil, api.ErrCount, 0)
	wantParsed(t, strings.Repeat("f ", 4095)+"x", nil, api.ErrFault, 8190)
}

func TestParseOfPrint(t *testing.T) {
	widest := slices.Repeat([]api.Fault{{Kind: 1, N: api.MaxFile}}, 4096)
	lists := [][]api.Fault{nil, widest}
	for _, n := range []int{1, 2, 3, 4, 5, 17, 4095, 4096} {
		lists = append(lists, many(n))
	}
	for _, l := range lists {
		s, e := Print(l)
		if e != api.OK {
			t.Errorf("P2.4: Print of %d faults: %d", len(l), e)
		}
		wantParsed(t, s, l, api.OK, len(s))
	}
	for n := 1; n <= api.MaxFile; n += 1 + n/9 {
		wantParsed(t, "s"+strconv.Itoa(n), []api.Fault{{Kind: 1, N: n}}, api.OK, len(strconv.Itoa(n))+1)
	}
}

func TestNextWithinWhatIsWanted(t *testing.T) {
	l := many(4096)
	for _, want := range []int{1, 2, 100, api.MaxFile} {
		p := planOf(t, l...)
		for i, f := range l {
			n, e := p.Next(want)
			moved := e == api.OK && n >= 1 && n <= want && f.Kind < 2
			told := n == 0 && (e == api.ErrIntr && f.Kind == 2 || e == api.ErrAgain && f.Kind == 3)
			if !moved && !told {
				t.Fatalf("P2.5: Next(%d) at fault %d, %v: %d, %d", want, i, f, n, e)
			}
		}
		wantNext(t, p, want, want, api.OK)
		wantNext(t, p, 1, 1, api.OK)
	}
}

func TestArgumentsAreNeitherChangedNorKept(t *testing.T) {
	l := many(8)
	before := slices.Clone(l)
	p := planOf(t, l...)
	held, e := New(l)
	if e != api.OK {
		t.Fatal(e)
	}
	Check(l)
	Print(l)
	p.Next(3)
	held.Next(3)
	if !slices.Equal(l, before) {
		t.Error("P2.6: the list that was handed in is changed:", l)
	}
	for i := range l {
		l[i] = api.Fault{Kind: 3}
	}
	wantRest(t, held, before[1:]...)
}

func TestAnswersAreNewMemory(t *testing.T) {
	l := many(8)
	p := planOf(t, l...)
	p.Next(1)
	one, other := p.Rest(), p.Rest()
	clear(one)
	if !slices.Equal(other, l[1:]) {
		t.Error("P2.6: two answers of Rest share memory:", other)
	}
	wantRest(t, p, l[1:]...)
	if n := cap(other); n > len(other) {
		clear(other[:n])
		wantRest(t, p, l[1:]...)
	}
	a, _, _ := Parse("f s3 i")
	b, _, _ := Parse("f s3 i")
	clear(a)
	if !slices.Equal(b, []api.Fault{{}, {Kind: 1, N: 3}, {Kind: 2}}) {
		t.Error("P2.6: two answers of Parse share memory:", b)
	}
}
