package format

import (
	"fmt"
	"slices"
	"strings"
	"testing"

	"millrace/api"
	"millrace/lines"
	"millrace/memory"
	"millrace/retry"
	"millrace/stream"
)

// outcome is what Print answers.
type outcome struct {
	s stream.State
	n int
	e api.Errno
}

func (x outcome) String() string {
	return fmt.Sprintf("%d, %d, %s", x.n, x.e, show(x.s))
}

func (x outcome) is(y outcome) bool {
	return same(x.s, y.s) && x.n == y.n && x.e == y.e
}

func printing(s stream.State, r retry.Raw, f string, args ...api.Arg) outcome {
	after, n, e := Print(s, r, f, args)
	return outcome{after, n, e}
}

func putting(s stream.State, r retry.Raw, b string) outcome {
	after, n, e := lines.Put(s, r, []byte(b))
	return outcome{after, n, e}
}

// prints makes a Print and holds what it answers against what is wanted; it answers the state that follows.
func prints(t *testing.T, s stream.State, r retry.Raw, wantN int, wantE api.Errno, f string, args ...api.Arg) stream.State {
	t.Helper()
	x := printing(s, r, f, args...)
	if x.n != wantN || x.e != wantE {
		t.Errorf("P17.2: Print(%s, %s), %s: %s, not %d, %d", short([]byte(f)), showArgs(args), show(s), x, wantN, wantE)
	}
	return x.s
}

// saying is a pattern with its Args and the text that they are.
type saying struct {
	f    string
	args []api.Arg
	text string
}

// sayings are of all lengths, with newlines and without.
var sayings = []saying{
	{"", nil, ""},
	{"a", nil, "a"},
	{"%d", []api.Arg{Int(-42)}, "-42"},
	{"%.d", []api.Arg{Int(0)}, ""},
	{"%5.3u|%-4s\n", []api.Arg{Uint(7), Text("x")}, "  007|x   \n"},
	{"%%%c%c\n\n%X", []api.Arg{Byte(0), Byte(255), Uint(0xBEEF)}, "%\x00\xff\n\nBEEF"},
	{"%s", []api.Arg{Text("one\ntwo\nthree")}, "one\ntwo\nthree"},
	{"%300.2d\n%-70s|%+d", []api.Arg{Int(5), Text("seventy"), Int(1)}, strings.Repeat(" ", 298) + "05\nseventy" + strings.Repeat(" ", 63) + "|+1"},
}

// faulty is a pattern with Args that Format refuses.
type faulty struct {
	f    string
	args []api.Arg
	e    api.Errno
}

var faultyOnes = []faulty{
	{letters(api.MaxLine + 1), nil, api.ErrLong},
	{"%y", nil, api.ErrFormat},
	{"abc%", []api.Arg{Int(1)}, api.ErrFormat},
	{"abc%d", nil, api.ErrCount},
	{"", []api.Arg{Int(1)}, api.ErrCount},
	{"a\nb%%", []api.Arg{Text("")}, api.ErrCount},
	{"abc\n%d", []api.Arg{Uint(1)}, api.ErrArg},
	{"%c", []api.Arg{{Kind: 3, Uint: 256}}, api.ErrArg},
	{"%s", []api.Arg{Text(letters(api.MaxLine + 1))}, api.ErrLong},
	{"%sx", []api.Arg{Text(letters(api.MaxLine))}, api.ErrLong},
}

// TestPrint: the text comes through, whatever the buffer is, one behind another (P17.2).
func TestPrint(t *testing.T) {
	for mode, size := range buffers {
		g, _ := memory.NewGrowing(nil)
		s, whole := both(mode, size), ""
		for _, x := range sayings {
			s = prints(t, s, g, len(x.text), api.OK, x.f, x.args...)
			whole += x.text
			if held := string(g.Bytes()) + string(s.Out); held != whole {
				t.Fatalf("P17.2: mode %d, size %d, Print(%q): %q is held, not %q", mode, size, x.f, held, whole)
			}
		}
		if _, e := stream.Close(s, g); e != api.OK || string(g.Bytes()) != whole {
			t.Errorf("P17.2: mode %d, size %d: Close: %d, %q", mode, size, e, g.Bytes())
		}
	}
}

// TestPrintLong: a text of as many bytes as may be (P17.2).
func TestPrintLong(t *testing.T) {
	most := letters(api.MaxLine)
	for mode, size := range fewBuffers {
		g, _ := memory.NewGrowing(nil)
		s := prints(t, both(mode, size), g, api.MaxLine, api.OK, "%.4s%s", Text(most), Text(most[4:]))
		s = prints(t, s, g, api.MaxLine, api.OK, most)
		if _, e := stream.Close(s, g); e != api.OK || string(g.Bytes()) != most+most {
			t.Errorf("P17.2: mode %d, size %d: Close: %d, %d bytes", mode, size, e, len(g.Bytes()))
		}
	}
}

// TestPrintIsPut: Print is lines.Put of the text: the same answer, the same state that follows, the same raw calls (P17.2).
func TestPrintIsPut(t *testing.T) {
	for seed := range 1500 {
		roll := dice(uint64(seed))
		one, two := randomWrites(dice(uint64(seed))), randomWrites(dice(uint64(seed)))
		s := both(1+roll(3), 1+roll([]int{3, 12, 100}[roll(3)]))
		for range 8 {
			f, args := somePattern(roll)
			if roll(2) == 0 {
				f += "\n"
			}
			b, _, _ := Format(f, args)
			answered, want := printing(s, one, f, args...), putting(s, two, string(b))
			if !answered.is(want) || one.taken != two.taken || !slices.Equal(one.calls, two.calls) {
				t.Fatalf("P17.2: seed %d, Print(%q), %s: %s, not %s; %.200q, not %.200q", seed, f, show(s), answered, want, one.calls, two.calls)
			}
			s = answered.s
		}
	}
}

// randomWrites is a Raw whose writes take a part, all, none, or fail.
func randomWrites(roll func(int) int) *scripted {
	x := &scripted{}
	for range 20 {
		switch roll(4) {
		case 0:
			x.writes = append(x.writes, answer{e: []api.Errno{api.ErrBlock, api.ErrCustom, api.ErrIntr, api.ErrMode, api.ErrDir}[roll(5)]})
		default:
			x.writes = append(x.writes, answer{n: roll(6)})
		}
	}
	return x
}

// TestPrintRefusals: the first error that holds is told, beside nothing but the state that was handed in; no raw call is made (P17.2, P4).
func TestPrintRefusals(t *testing.T) {
	open := []stream.State{both(3, 4), got(2, 4, "in", "back"), bad(ended(holding(3, 4, "out"))), both(1, 4), {Mode: 3, Size: 4}, {Reads: true, Mode: 1, Size: 4}, {Writes: true, Mode: 2, Size: 4}, holding(3, 3, "out")}
	want := func(s stream.State, e api.Errno, f string, args []api.Arg) {
		t.Helper()
		x := texts("abc")
		if answered := printing(s, x, f, args...); !answered.is(outcome{s: s, e: e}) {
			t.Errorf("P4: Print(%s), %s: %s, not %d", short([]byte(f)), show(s), answered, e)
		}
		wantCalls(t, "Print", x)
	}
	wantMade := func(s stream.State, e api.Errno, f string, args []api.Arg) {
		t.Helper()
		if answered := printing(s, nil, f, args...); !answered.is(outcome{s: s, e: e}) {
			t.Errorf("P4: Print(%s), %s, no Raw: %s, not %d", short([]byte(f)), show(s), answered, e)
		}
	}
	all := slices.Clone(faultyOnes)
	for _, x := range sayings {
		all = append(all, faulty{f: x.f, args: x.args})
	}
	for _, x := range all {
		for _, s := range wrongStates {
			want(s, api.ErrState, x.f, x.args)
			wantMade(s, api.ErrState, x.f, x.args)
		}
		for mode := 1; mode <= 3; mode++ {
			for _, s := range []stream.State{done(both(mode, 4)), done(bad(ended(both(mode, 4)))), done(stream.State{Mode: mode, Size: 4})} {
				want(s, api.ErrClosed, x.f, x.args)
				wantMade(s, api.ErrMade, x.f, x.args)
			}
		}
		for _, s := range open {
			wantMade(s, api.ErrMade, x.f, x.args)
			if x.e != api.OK {
				want(s, x.e, x.f, x.args)
			}
		}
	}
}

// TestPrintNotSo: what lines.Put refuses comes behind Format's errors; nothing is changed (P17.2).
func TestPrintNotSo(t *testing.T) {
	for mode := 1; mode <= 3; mode++ {
		for e, states := range map[api.Errno][]stream.State{
			api.ErrMode: {{Reads: true, Mode: mode, Size: 4}, {Mode: mode, Size: 4}, {Reads: true, Mode: mode, Size: 4, Dir: 1, In: []byte("i")}},
			api.ErrDir:  {got(mode, 4, "", ""), got(mode, 4, "in", "back"), ended(got(mode, 4, "i", "")), bad(got(mode, 4, "", ""))},
		} {
			for _, s := range states {
				for _, x := range sayings {
					r, want := &scripted{}, e
					if x.text == "" {
						want = api.OK
					}
					wantState(t, "P17.2: Print", prints(t, s, r, 0, want, x.f, x.args...), s)
					wantCalls(t, "Print", r)
				}
				for _, x := range faultyOnes {
					wantState(t, "P17.2: Print", prints(t, s, &scripted{}, 0, x.e, x.f, x.args...), s)
				}
			}
		}
	}
}

// TestPrintOfNone: a text of no bytes puts nothing and changes nothing (P17.2).
func TestPrintOfNone(t *testing.T) {
	for mode := 1; mode <= 3; mode++ {
		for _, s := range []stream.State{both(mode, 4), {Mode: mode, Size: 4}, got(mode, 4, "in", "back"), holding(mode, 4, ""), bad(ended(got(mode, 4, "", "")))} {
			x := writesOf(answer{e: api.ErrCustom})
			wantState(t, "P17.2: Print of none", prints(t, s, x, 0, api.OK, ""), s)
			wantState(t, "P17.2: Print of none", prints(t, s, x, 0, api.OK, "%.0s%.d", Text("abc"), Int(0)), s)
			wantCalls(t, "Print of none", x)
		}
	}
}

// TestPrintCalls: without a buffer the text is one raw write, by lines each newline and each full buffer is delivered, full only the latter (P17.2).
func TestPrintCalls(t *testing.T) {
	x := &scripted{}
	wantState(t, "P17.2: Print", prints(t, both(1, 4), x, 9, api.OK, "a%db\n%3s|", Int(42), Text("x")), holding(1, 4, ""))
	wantCalls(t, "Print", x, "write a42b\n  x|")
	x = &scripted{}
	wantState(t, "P17.2: Print", prints(t, both(2, 4), x, 9, api.OK, "a%db\n%3s|", Int(42), Text("x")), holding(2, 4, ""))
	wantCalls(t, "Print", x, "write a42b", "write \n", "write   x|")
	x = &scripted{}
	wantState(t, "P17.2: Print", prints(t, holding(3, 4, "0"), x, 9, api.OK, "a%db\n%3s|", Int(42), Text("x")), holding(3, 4, "x|"))
	wantCalls(t, "Print", x, "write 0a42", "write b\n  ")
}

// TestPrintFails: how many were taken beside the Raw's error, which sets Bad, but ErrBlock (P17.2).
func TestPrintFails(t *testing.T) {
	for _, e := range append([]api.Errno{api.ErrBlock}, rawErrors...) {
		marked := func(s stream.State) stream.State {
			return with(s, func(s *stream.State) { s.Bad = e != api.ErrBlock })
		}
		s := prints(t, both(1, 4), writesOf(answer{n: 2}, answer{e: e}), 2, e, "a%d", Int(1234))
		wantState(t, "P17.2: Print", s, marked(holding(1, 4, "")))
		// The fourth fills the buffer: it is taken, and none of them is delivered.
		s = prints(t, both(3, 4), writesOf(answer{e: e}), 4, e, "a%d", Int(12345))
		wantState(t, "P17.2: Print", s, marked(holding(3, 4, "a123")))
		s = prints(t, s, writesOf(answer{n: 1}, answer{e: e}), 0, e, "%d", Int(45))
		wantState(t, "P17.2: Print", s, marked(holding(3, 4, "123")))
		s = prints(t, both(2, 9), writesOf(answer{n: 3}, answer{e: e}), 6, e, "%s\n%.2u\n", Text("ab"), Uint(7))
		wantState(t, "P17.2: Print", s, marked(holding(2, 9, "07\n")))
	}
}

// TestPrintPanics: a panic of a Raw's own Write is let through; those of a custom stream are such (P1).
func TestPrintPanics(t *testing.T) {
	for mode := 1; mode <= 3; mode++ {
		c, _ := memory.NewCustom(nil, []int{-2})
		panicked := func() (was bool) {
			defer func() { was = recover() != nil }()
			printing(both(mode, 2), c, "%d\n", Int(42))
			return false
		}()
		if !panicked {
			t.Errorf("P1: mode %d: Print let no panic through", mode)
		}
	}
}
