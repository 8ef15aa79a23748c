package pushback

import (
	"bytes"
	"testing"

	"millrace/api"
	"millrace/stream"
)

// behindList stands in the room behind a list that is handed in.
const behindList = "<room behind>"

// roomy is a list with room behind it.
func roomy(b []byte) []byte {
	return append(bytes.Clone(b), behindList...)[:len(b)]
}

func roomyState(s stream.State) stream.State {
	s.Out, s.In, s.Back = roomy(s.Out), roomy(s.In), roomy(s.Back)
	return s
}

// isWholeList tells whether a list is as it was, the room behind it too.
func isWholeList(b []byte, was string) bool {
	return string(b) == was && string(b[len(b):len(b)+len(behindList)]) == behindList
}

// isWhole tells whether a state is as it was, the room behind its lists too.
func isWhole(s, was stream.State) bool {
	return same(s, was) && isWholeList(s.Out, string(was.Out)) && isWholeList(s.In, string(was.In)) && isWholeList(s.Back, string(was.Back))
}

// spoil changes a list, and the room behind it.
func spoil(b []byte) {
	b = b[:cap(b)]
	for i := range b {
		b[i] = '?'
	}
}

func spoilState(s stream.State) {
	spoil(s.Out)
	spoil(s.In)
	spoil(s.Back)
}

// answered is all that a call answers.
type answered struct {
	s    stream.State
	held []byte
	e    api.Errno
}

func (a answered) is(b answered) bool {
	return same(a.s, b.s) && string(a.held) == string(b.held) && a.e == b.e
}

// copyOf is the same with memory of its own.
func (a answered) copyOf() answered {
	a.held = bytes.Clone(a.held)
	a.s.Out, a.s.In, a.s.Back = bytes.Clone(a.s.Out), bytes.Clone(a.s.In), bytes.Clone(a.s.Back)
	return a
}

func (a answered) spoil() {
	spoilState(a.s)
	spoil(a.held)
}

// makers are the calls, of a state and of bytes.
var makers = map[string]func(s stream.State, b []byte) answered{
	"Unget": func(s stream.State, b []byte) answered {
		after, e := Unget(s, 'u')
		return answered{s: after, e: e}
	},
	"UngetAll": func(s stream.State, b []byte) answered {
		after, e := UngetAll(s, b)
		return answered{s: after, e: e}
	},
	"Held": func(s stream.State, b []byte) answered {
		held, e := Held(s)
		return answered{held: held, e: e}
	},
}

// given are states and bytes that meet each ending of the calls.
func given(yield func(stream.State, string) bool) {
	for _, s := range []stream.State{
		both(3, 9),
		ended(both(3, 9)),
		got(3, 9, "in", ""),
		got(3, 9, "in", "back"),
		got(1, 9, "", "1234567"),
		ended(bad(got(2, 9, "in", "12345678"))),
		holding(3, 9, "out"),
		done(both(3, 9)),
		{Writes: true, Mode: 3, Size: 9, Dir: 2, Out: []byte("out")},
		got(3, 9, "in", "123456789"),
		with(got(3, 9, "in", "back"), func(s *stream.State) { s.Out = []byte("out") }),
		done(got(3, 9, "in", "back")),
	} {
		for _, b := range []string{"", "a", "abcd", "abcdefgh", "abcdefghi"} {
			if !yield(s, b) {
				return
			}
		}
	}
}

// TestHandedInStays: what is handed in is neither changed nor kept, the room behind it included, and answers share nothing with it (P13.4).
func TestHandedInStays(t *testing.T) {
	for name, call := range makers {
		for s, b := range given {
			want := call(s, []byte(b)).copyOf()
			gs, gb := roomyState(s), roomy([]byte(b))
			told := call(gs, gb)
			if !told.is(want) {
				t.Errorf("P3: %s %q, %s: another answer where there is room behind", name, b, show(s))
			}
			if !isWhole(gs, s) || !isWholeList(gb, b) {
				t.Errorf("P13.4: %s %q, %s: what was handed in was changed", name, b, show(s))
			}
			spoilState(gs)
			spoil(gb)
			if !told.is(want) {
				t.Errorf("P13.4: %s %q, %s: the answer shares memory with what was handed in", name, b, show(s))
			}
			gs, gb = roomyState(s), roomy([]byte(b))
			call(gs, gb).spoil()
			if !isWhole(gs, s) || !isWholeList(gb, b) {
				t.Errorf("P13.4: %s %q, %s: what was handed in shares memory with the answer", name, b, show(s))
			}
		}
	}
}

// TestListsShareNothing: no list of what follows has memory of another one, be it that those handed in have (P13.4).
func TestListsShareNothing(t *testing.T) {
	const letters = "abcdefghijklmnop"
	for name, call := range makers {
		for s, b := range given {
			// One piece of memory for all that is handed in.
			all := []byte(letters)
			s.Out, s.In, s.Back = all[:len(s.Out)], all[:len(s.In)], all[:len(s.Back)]
			gb := all[:len(b)]
			want := call(s, gb).copyOf()
			for i := range 4 {
				told := call(s, gb)
				lists := [][]byte{told.s.Out, told.s.In, told.s.Back, told.held}
				spoil(lists[i])
				for j, was := range [][]byte{want.s.Out, want.s.In, want.s.Back, want.held} {
					if i != j && string(lists[j]) != string(was) {
						t.Errorf("P13.4: %s %q, %s: lists %d and %d share memory", name, b, show(s), i, j)
					}
				}
			}
			if string(all) != letters {
				t.Errorf("P13.4: %s %q, %s: what was handed in was changed: %q", name, b, show(s), all)
			}
		}
	}
}

// TestAnswersShareNothing: the same may be handed in twice, and what follows from each goes its own way (P13.4).
func TestAnswersShareNothing(t *testing.T) {
	for name, call := range makers {
		for s, b := range given {
			one, two := call(s, []byte(b)), call(s, []byte(b))
			was := two.copyOf()
			one.spoil()
			if three := call(s, []byte(b)); !two.is(was) || !three.is(was) {
				t.Errorf("P13.4: %s %q, %s: two answers share memory", name, b, show(s))
			}
		}
	}
}

// TestForks: a state is pushed back into in two ways, and again, and neither is seen in the other (P13.4).
func TestForks(t *testing.T) {
	trunk := unget(t, got(3, 9, "in", "back"), 't', api.OK)
	one := unget(t, trunk, '1', api.OK)
	two := ungetAll(t, trunk, "2", api.OK)
	one = unget(t, one, '3', api.OK)
	two = unget(t, two, '4', api.OK)
	r := rawOf()
	rest := get(t, trunk, r, "tk")
	rest = ungetAll(t, rest, "56", api.OK)
	wantHeld(t, trunk, "tkcabin")
	wantHeld(t, one, "31tkcabin")
	wantHeld(t, two, "42tkcabin")
	wantHeld(t, rest, "56cabin")
}

// TestNilAndEmpty: lists of no bytes are one (P1).
func TestNilAndEmpty(t *testing.T) {
	for name, call := range makers {
		for s, b := range given {
			one, two := s, s
			for _, list := range []*[]byte{&one.Out, &one.In, &one.Back} {
				if len(*list) == 0 {
					*list = nil
				}
			}
			for _, list := range []*[]byte{&two.Out, &two.In, &two.Back} {
				if len(*list) == 0 {
					*list = []byte{}
				}
			}
			if a, z := call(one, []byte(b)), call(two, []byte(b)); !a.is(z) {
				t.Errorf("P1: %s %q, %s: %s, %d and %s, %d", name, b, show(s), show(a.s), a.e, show(z.s), z.e)
			}
		}
	}
}
