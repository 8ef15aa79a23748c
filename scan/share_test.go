package scan

import (
	"bytes"
	"slices"
	"testing"

	"millrace/api"
	"millrace/retry"
	"millrace/stream"
)

// behindList stands in the room behind a list that is handed in.
const behindList = "<room behind>"

// roomy is a list with room behind it.
func roomy(b []byte) []byte {
	return append(bytes.Clone(b), behindList...)[:len(b)]
}

func roomyState(s stream.State) stream.State {
	s.Out, s.In, s.Back = roomy(s.Out), roomy(s.In), roomy(s.Back)
	return s
}

// isWholeList tells whether a list is as it was, the room behind it too.
func isWholeList(b, was []byte) bool {
	return string(b[:len(b)+len(behindList)]) == string(was)+behindList
}

func isWhole(s, was stream.State) bool {
	return isWholeList(s.Out, was.Out) && isWholeList(s.In, was.In) && isWholeList(s.Back, was.Back) && same(s, was)
}

// spoil changes a list, and the room behind it.
func spoil(b []byte) {
	b = b[:cap(b)]
	for i := range b {
		b[i] = '?'
	}
}

func spoilState(s stream.State) {
	spoil(s.Out)
	spoil(s.In)
	spoil(s.Back)
}

func spoilArgs(args []api.Arg) {
	args = args[:cap(args)]
	for i := range args {
		args[i] = api.Arg{Kind: -1, Text: "?"}
	}
}

// cloned is an outcome with lists of its own.
func cloned(x outcome) outcome {
	return outcome{copied(x.s), slices.Clone(x.args), x.e}
}

// sharedPatterns are patterns of all kinds.
var sharedPatterns = append([]string{"", "%s", "%4c%s", "%d%y", "%", "i%s", "%*s%*s%s", "%s%c%s%c"}, somePatterns...)

// sharedStates are states of all kinds.
var sharedStates = []stream.State{
	both(3, 9),
	both(1, 9),
	holding(3, 9, "out"),
	holding(2, 9, ""),
	got(3, 9, "in\nside 12 13", ""),
	got(3, 9, "in\nside", "back"),
	got(3, 9, "1 2 ", "3 21 x87"),
	ended(bad(got(1, 9, "", "back"))),
	ended(got(3, 9, "", "")),
	ended(got(3, 9, "12 ", "")),
	{Mode: 3, Size: 9},
	done(both(3, 9)),
	done(got(3, 9, "in", "back")),
	with(got(3, 9, "in", "back"), func(s *stream.State) { s.Out = []byte("out") }),
}

// sharedRaws are Raws of all kinds.
var sharedRaws = map[string]func() retry.Raw{
	"no Raw":  func() retry.Raw { return nil },
	"a Raw":   func() retry.Raw { return texts("12 ab cd,", "34 x y", "z ffff 77 1 2 3") },
	"empty":   func() retry.Raw { return texts() },
	"fails":   func() retry.Raw { return texts("1 ").then(api.ErrCustom) },
	"blocked": func() retry.Raw { return texts("a ").then(api.ErrBlock) },
}

// TestScanShares: what is handed in is neither changed nor kept, the room behind it included, and what is answered is its holder's (P18.5).
func TestScanShares(t *testing.T) {
	for _, f := range sharedPatterns {
		for _, b := range []string{"", "12 ab cd,ef", "word", "a b c d e f", "%% ff 77 -1 2", letters(5000)} {
			want := scanning(f, b)
			given := roomy([]byte(b))
			args, n, e := Scan(f, given)
			if !isWholeList(given, []byte(b)) {
				t.Errorf("P18.5: Scan(%q, %q): the bytes were changed", f, b)
			}
			spoil(given)
			if x := (scanned{args, n, e}); !x.is(want) {
				t.Errorf("P18.5: Scan(%q, %q): what is answered shares memory with the bytes: %s", f, b, x)
			}
			given = roomy([]byte(b))
			first, _, _ := Scan(f, given)
			spoilArgs(first)
			if x := scanning(f, b); !isWholeList(given, []byte(b)) || !x.is(want) || !slices.Equal(args, want.args) {
				t.Errorf("P18.5: Scan(%q, %q): two answers share memory", f, b)
			}
		}
	}
}

// TestReadShares: what is handed in is neither changed nor kept, and the state that follows shares nothing with the one handed in (P18.5).
func TestReadShares(t *testing.T) {
	seen := map[api.Errno]int{}
	for f, raw := range readings {
		for _, s := range sharedStates {
			want := cloned(reading(s, raw(), f))
			seen[want.e]++
			given := roomyState(s)
			answered := reading(given, raw(), f)
			if !answered.is(want) || !isWhole(given, s) {
				t.Errorf("P18.5: Read(%q), %s: %s, not %s, or what was handed in was changed", f, show(s), answered, want)
			}
			spoilState(given)
			if !answered.is(want) {
				t.Errorf("P18.5: Read(%q), %s: what is answered shares memory with what was handed in", f, show(s))
			}
			given = roomyState(s)
			answered = reading(given, raw(), f)
			spoilState(answered.s)
			spoilArgs(answered.args)
			if again := reading(s, raw(), f); !isWhole(given, s) || !again.is(want) {
				t.Errorf("P18.5: Read(%q), %s: what was handed in shares memory with what is answered", f, show(s))
			}
		}
	}
	for _, e := range []api.Errno{api.OK, api.ErrState, api.ErrMade, api.ErrClosed, api.ErrFormat, api.ErrMode, api.ErrDir, api.ErrBlock, api.ErrCustom, api.ErrMatch, api.ErrEnd} {
		if seen[e] == 0 {
			t.Errorf("the ending %d was not met", e)
		}
	}
}

// readings hands out patterns and Raws of all kinds.
func readings(yield func(f string, raw func() retry.Raw) bool) {
	for _, f := range sharedPatterns {
		for _, raw := range sharedRaws {
			if !yield(f, raw) {
				return
			}
		}
	}
}

// TestListsShareNothing: no list of the state that follows has memory of another one, be it that those handed in have (P18.5).
func TestListsShareNothing(t *testing.T) {
	was := "12 ab cd 7,8 x y z"
	for f, raw := range readings {
		for _, s := range sharedStates {
			piece := []byte(was)
			s.Out, s.In, s.Back = piece[:len(s.Out)], piece[:len(s.In)], piece[:len(s.Back)]
			listsOf := func() [][]byte {
				after := reading(s, raw(), f).s
				return [][]byte{after.Out, after.In, after.Back}
			}
			wanted := listsOf()
			for i := range wanted {
				wanted[i] = bytes.Clone(wanted[i])
			}
			for i := range wanted {
				lists := listsOf()
				spoil(lists[i])
				for j := range wanted {
					if i != j && string(lists[j]) != string(wanted[j]) {
						t.Errorf("P18.5: Read(%q), %s: lists %d and %d share memory", f, show(s), i, j)
					}
				}
			}
			if string(piece) != was {
				t.Errorf("P18.5: Read(%q), %s: what was handed in was changed", f, show(s))
			}
		}
	}
}

// keeper is a Raw that keeps what it answered, and overwrites it in each call.
type keeper struct {
	scripted
	held [][]byte
}

func (x *keeper) Read(n int) ([]byte, api.Errno) {
	for _, l := range x.held {
		spoil(l)
	}
	b, e := x.scripted.Read(n)
	x.held = append(x.held, b)
	return b, e
}

// TestRawKeeps: a Raw that keeps and changes what it answered spoils nothing (P18.5).
func TestRawKeeps(t *testing.T) {
	for mode, size := range buffers {
		x := &keeper{scripted: *texts("12 wo", "rd ab", "c 34")}
		s := read(t, both(mode, size), x, "%d %s%*c%c", api.OK, in(12), word("word"), char('a'))
		for _, l := range x.held {
			spoil(l)
		}
		if b := rest(t, s, x); b != "bc 34" {
			t.Errorf("P18.5: mode %d, size %d: %q is left", mode, size, b)
		}
	}
}
