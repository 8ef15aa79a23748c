package format

import (
	"bytes"
	"slices"
	"testing"

	"millrace/api"
	"millrace/retry"
	"millrace/stream"
)

// behindList stands in the room behind a list that is handed in.
const behindList = "<room behind>"

// roomy is a list with room behind it.
func roomy(b []byte) []byte {
	return append(bytes.Clone(b), behindList...)[:len(b)]
}

func roomyState(s stream.State) stream.State {
	s.Out, s.In, s.Back = roomy(s.Out), roomy(s.In), roomy(s.Back)
	return s
}

// isWholeList tells whether a list is as it was, the room behind it too.
func isWholeList(b, was []byte) bool {
	return string(b[:len(b)+len(behindList)]) == string(was)+behindList
}

func isWhole(s, was stream.State) bool {
	return isWholeList(s.Out, was.Out) && isWholeList(s.In, was.In) && isWholeList(s.Back, was.Back) && same(s, was)
}

// spoil changes a list, and the room behind it.
func spoil(b []byte) {
	b = b[:cap(b)]
	for i := range b {
		b[i] = '?'
	}
}

func spoilState(s stream.State) {
	spoil(s.Out)
	spoil(s.In)
	spoil(s.Back)
}

// sharedStates are states of all kinds.
var sharedStates = []stream.State{
	both(3, 9),
	both(1, 9),
	holding(3, 9, "out"),
	holding(3, 3, "out"),
	holding(2, 9, "o"),
	holding(1, 9, ""),
	got(3, 9, "in\nside", "back"),
	ended(bad(got(1, 9, "", "back"))),
	ended(got(3, 9, "", "")),
	{Mode: 3, Size: 9},
	done(both(3, 9)),
	holding(3, 2, "out"),
	done(got(3, 9, "in", "back")),
	with(got(3, 9, "in", "back"), func(s *stream.State) { s.Out = []byte("out") }),
}

// sharedRaws are Raws of all kinds.
var sharedRaws = map[string]func() retry.Raw{
	"no Raw":         func() retry.Raw { return nil },
	"a Raw":          func() retry.Raw { return texts() },
	"fails":          func() retry.Raw { return writesOf(answer{e: api.ErrFull}) },
	"blocked":        func() retry.Raw { return writesOf(answer{n: 1}, answer{e: api.ErrBlock}) },
	"taken by parts": func() retry.Raw { return writesOf(answer{n: 1}, answer{n: 2}, answer{n: 1}) },
}

// allSayings are patterns that Format takes, and that it refuses.
func allSayings() []saying {
	l := slices.Clone(sayings)
	for _, x := range faultyOnes {
		l = append(l, saying{f: x.f, args: x.args})
	}
	return l
}

// roomyArgs is a list with room behind it, in which Args stand.
func roomyArgs(args []api.Arg) []api.Arg {
	return append(slices.Clone(args), Text("room"), Int(7))[:len(args)]
}

func isWholeArgs(args, was []api.Arg) bool {
	return slices.Equal(args[:len(args)+2], append(slices.Clone(was), Text("room"), Int(7)))
}

func spoilArgs(args []api.Arg) {
	args = args[:cap(args)]
	for i := range args {
		args[i] = api.Arg{Kind: -1, Text: "?"}
	}
}

// TestFormatShares: what is handed in is neither changed nor kept, the room behind it included, and what is answered is its holder's (P17.6).
func TestFormatShares(t *testing.T) {
	for _, x := range allSayings() {
		want := formatted(x.f, x.args...)
		args := roomyArgs(x.args)
		b, _, _ := Format(x.f, args)
		if !isWholeArgs(args, x.args) {
			t.Errorf("P17.6: Format(%s): the Args were changed", short([]byte(x.f)))
		}
		spoilArgs(args)
		again, e, at := Format(x.f, x.args)
		spoil(b)
		if (asked{string(again), e, at}) != want || formatted(x.f, x.args...) != want {
			t.Errorf("P17.6: Format(%s): two answers share memory", short([]byte(x.f)))
		}
	}
}

// TestFormatOfText: an answer of one text alone shares nothing with it (P17.6).
func TestFormatOfText(t *testing.T) {
	for _, f := range []string{"%s", "%.5s", "%-5s", "%s%s"} {
		was := string([]byte("hello"))
		args := slices.Repeat([]api.Arg{Text(was)}, len(f)/2)
		if f == "%.5s" || f == "%-5s" {
			args = args[:1]
		}
		b, e, _ := Format(f, args)
		spoil(b)
		if e != api.OK || was != "hello" || args[0] != Text("hello") {
			t.Errorf("P17.6: Format(%q): what is answered shares memory with the text: %q, %d", f, was, e)
		}
	}
}

// TestNilArgs: lists of no Args are one (P1).
func TestNilArgs(t *testing.T) {
	for _, f := range []string{"", "abc", "%%", "%d", "%y"} {
		b1, e1, at1 := Format(f, nil)
		b2, e2, at2 := Format(f, []api.Arg{})
		if string(b1) != string(b2) || e1 != e2 || at1 != at2 {
			t.Errorf("P1: Format(%q): %q, %d, %d and %q, %d, %d", f, b1, e1, at1, b2, e2, at2)
		}
		s1, n1, e1 := Print(both(3, 9), texts(), f, nil)
		s2, n2, e2 := Print(both(3, 9), texts(), f, []api.Arg{})
		if !same(s1, s2) || n1 != n2 || e1 != e2 {
			t.Errorf("P1: Print(%q): %d, %d and %d, %d", f, n1, e1, n2, e2)
		}
	}
}

// ending is a saying that is printed in a state.
type ending struct {
	saying
	s stream.State
}

// endings hands out Prints in states of all kinds over Raws of all kinds, so that they come to all endings.
func endings(yield func(func() retry.Raw, ending) bool) {
	for _, raw := range sharedRaws {
		for _, s := range sharedStates {
			for _, x := range allSayings() {
				if !yield(raw, ending{x, s}) {
					return
				}
			}
		}
	}
}

// TestPrintShares: what is handed in is neither changed nor kept, and the state that follows shares nothing with the one handed in (P17.6).
func TestPrintShares(t *testing.T) {
	seen := map[api.Errno]int{}
	for raw, x := range endings {
		s := x.s
		want := printing(s, raw(), x.f, x.args...)
		want.s = copied(want.s)
		seen[want.e]++
		given, args := roomyState(s), roomyArgs(x.args)
		answered := printing(given, raw(), x.f, args...)
		if !answered.is(want) || !isWhole(given, s) || !isWholeArgs(args, x.args) {
			t.Errorf("P17.6: Print(%s), %s: %s, not %s, or what was handed in was changed", short([]byte(x.f)), show(s), answered, want)
		}
		spoilState(given)
		spoilArgs(args)
		if !answered.is(want) {
			t.Errorf("P17.6: Print(%s), %s: what is answered shares memory with what was handed in", short([]byte(x.f)), show(s))
		}
		given = roomyState(s)
		answered = printing(given, raw(), x.f, x.args...)
		spoilState(answered.s)
		if again := printing(s, raw(), x.f, x.args...); !isWhole(given, s) || !again.is(want) {
			t.Errorf("P17.6: Print(%s), %s: what was handed in shares memory with what is answered", short([]byte(x.f)), show(s))
		}
	}
	for _, e := range []api.Errno{api.OK, api.ErrState, api.ErrMade, api.ErrClosed, api.ErrLong, api.ErrFormat, api.ErrCount, api.ErrArg, api.ErrMode, api.ErrDir, api.ErrBlock, api.ErrFull} {
		if seen[e] == 0 {
			t.Errorf("the ending %d was not met", e)
		}
	}
}

// TestListsShareNothing: no list of the state that follows has memory of another one, be it that those handed in have (P17.6).
func TestListsShareNothing(t *testing.T) {
	was := letters(400)
	for raw, x := range endings {
		s := x.s
		piece := []byte(was)
		s.Out, s.In, s.Back = piece[:len(s.Out)], piece[:len(s.In)], piece[:len(s.Back)]
		listsOf := func() [][]byte {
			after := printing(s, raw(), x.f, x.args...).s
			return [][]byte{after.Out, after.In, after.Back}
		}
		wanted := listsOf()
		for i := range wanted {
			wanted[i] = bytes.Clone(wanted[i])
		}
		for i := range wanted {
			lists := listsOf()
			spoil(lists[i])
			for j := range wanted {
				if i != j && string(lists[j]) != string(wanted[j]) {
					t.Errorf("P17.6: Print(%s), %s: lists %d and %d share memory", short([]byte(x.f)), show(s), i, j)
				}
			}
		}
		if string(piece) != was {
			t.Errorf("P17.6: Print(%s), %s: what was handed in was changed", short([]byte(x.f)), show(s))
		}
	}
}

// keeper is a Raw that keeps all that it was handed, and overwrites it in each call.
type keeper struct {
	scripted
	held [][]byte
}

func (x *keeper) Write(b []byte) (int, api.Errno) {
	n, e := x.scripted.Write(b)
	x.held = append(x.held, b)
	for _, l := range x.held {
		spoil(l)
	}
	return n, e
}

// TestRawKeeps: a Raw that keeps and changes what it is handed spoils nothing (P17.6).
func TestRawKeeps(t *testing.T) {
	for mode := 1; mode <= 3; mode++ {
		x := &keeper{}
		s := prints(t, both(mode, 5), x, 13, api.OK, "%s|%05d|%c", Text("hello"), Int(42), Byte('z'))
		if held := x.taken + string(s.Out); held != "hello|00042|z" {
			t.Errorf("P17.6: Print in mode %d: %q was taken", mode, held)
		}
	}
}
