package blocks

import (
	"bytes"
	"fmt"
	"testing"

	"millrace/api"
	"millrace/retry"
	"millrace/stream"
)

// behindList stands in the room behind a list that is handed in.
const behindList = "<room behind>"

// roomy is a list with room behind it.
func roomy(b []byte) []byte {
	return append(bytes.Clone(b), behindList...)[:len(b)]
}

func roomyState(s stream.State) stream.State {
	s.Out, s.In, s.Back = roomy(s.Out), roomy(s.In), roomy(s.Back)
	return s
}

// isWholeList tells whether a list is as it was, the room behind it too.
func isWholeList(b, was []byte) bool {
	return string(b[:len(b)+len(behindList)]) == string(was)+behindList
}

func isWhole(s, was stream.State) bool {
	return isWholeList(s.Out, was.Out) && isWholeList(s.In, was.In) && isWholeList(s.Back, was.Back) && same(s, was)
}

// spoil changes a list, and the room behind it.
func spoil(b []byte) {
	b = b[:cap(b)]
	for i := range b {
		b[i] = '?'
	}
}

func spoilState(s stream.State) {
	spoil(s.Out)
	spoil(s.In)
	spoil(s.Back)
}

// kept answers an outcome with lists of its own.
func kept(x outcome) outcome {
	return outcome{s: copied(x.s), b: bytes.Clone(x.b), n: x.n, e: x.e}
}

// ending is a call in a state over a Raw, with bytes that it is handed (none, if it reads).
type ending struct {
	name string
	s    stream.State
	b    []byte
	call func(stream.State, []byte) outcome
}

// sharedStates are states of all kinds.
var sharedStates = []stream.State{
	both(3, 9),
	both(1, 9),
	holding(3, 9, "out"),
	holding(3, 3, "out"),
	holding(2, 9, "o"),
	holding(1, 9, ""),
	got(3, 9, "in\nside", "back"),
	got(3, 9, letters(300), "12345678"),
	ended(bad(got(1, 9, "", "back"))),
	ended(got(3, 9, "", "")),
	got(3, 9, "in", ""),
	{Mode: 3, Size: 9},
	done(both(3, 9)),
	holding(3, 2, "out"),
	done(got(3, 9, "in", "back")),
	with(got(3, 9, "in", "back"), func(s *stream.State) { s.Out = []byte("out") }),
}

// sharedRaws are Raws of all kinds.
var sharedRaws = map[string]func() retry.Raw{
	"no Raw":  func() retry.Raw { return nil },
	"a Raw":   func() retry.Raw { return texts(letters(150), "x;y\nz") },
	"the end": func() retry.Raw { return texts() },
	"fails": func() retry.Raw {
		return &scripted{reads: []reply{{b: "a"}, {e: api.ErrFull}}, writes: []answer{{e: api.ErrFull}}}
	},
	"blocked": func() retry.Raw {
		return &scripted{reads: []reply{{e: api.ErrBlock}}, writes: []answer{{n: 1}, {e: api.ErrBlock}}}
	},
	"taken by parts": func() retry.Raw { return writesOf(answer{n: 1}, answer{n: 2}, answer{n: 1}) },
}

// endings hands out both calls in states of all kinds over Raws of all kinds, so that they come to all endings.
func endings(yield func(ending) bool) {
	for about, raw := range sharedRaws {
		for _, s := range sharedStates {
			for _, c := range [][2]int{{-1, 1}, {0, 5}, {1, 1}, {1, 3}, {5, 1}, {20, 5}, {100, 5}} {
				if !yield(ending{fmt.Sprint("Read ", c, " over ", about), s, nil, func(s stream.State, _ []byte) outcome { return reading(s, raw(), c[0], c[1]) }}) {
					return
				}
				for _, b := range []string{"", "p", "ab\nde", letters(100)} {
					if !yield(ending{fmt.Sprintf("Write %d of %q over %s", c, b, about), s, []byte(b), func(s stream.State, b []byte) outcome { return writing(s, raw(), b, c[0], c[1]) }}) {
						return
					}
				}
			}
		}
	}
}

// TestHandedInStays: what is handed in is neither changed nor kept, the room behind it included, and what is answered shares nothing with it (P16.3).
func TestHandedInStays(t *testing.T) {
	seen := map[api.Errno]int{}
	for c := range endings {
		want := kept(c.call(c.s, c.b))
		seen[want.e]++
		given, b := roomyState(c.s), roomy(c.b)
		answered := c.call(given, b)
		if !answered.is(want) {
			t.Errorf("P3: %s, %s: %s, not %s", c.name, show(c.s), answered, want)
		}
		if !isWhole(given, c.s) || !isWholeList(b, c.b) {
			t.Errorf("P16.3: %s, %s: what was handed in was changed", c.name, show(c.s))
		}
		spoilState(given)
		spoil(b)
		if !answered.is(want) {
			t.Errorf("P16.3: %s, %s: what is answered shares memory with what was handed in: %s", c.name, show(c.s), answered)
		}
		given, b = roomyState(c.s), roomy(c.b)
		answered = c.call(given, b)
		spoilState(answered.s)
		spoil(answered.b)
		if !isWhole(given, c.s) || !isWholeList(b, c.b) {
			t.Errorf("P16.3: %s, %s: what was handed in shares memory with what is answered", c.name, show(c.s))
		}
	}
	for _, e := range []api.Errno{api.OK, api.ErrState, api.ErrMade, api.ErrClosed, api.ErrRange, api.ErrCount, api.ErrMode, api.ErrDir, api.ErrEnd, api.ErrBlock, api.ErrFull} {
		if seen[e] == 0 {
			t.Errorf("the ending %d was not met", e)
		}
	}
}

// TestListsShareNothing: no list of what is answered has memory of another one, be it that those handed in have (P16.3).
func TestListsShareNothing(t *testing.T) {
	was := letters(400)
	for c := range endings {
		// One piece of memory for all lists.
		piece := []byte(was)
		s, b := c.s, piece[:len(c.b)]
		s.Out, s.In, s.Back = piece[:len(s.Out)], piece[:len(s.In)], piece[:len(s.Back)]
		listsOf := func(x outcome) [][]byte { return [][]byte{x.s.Out, x.s.In, x.s.Back, x.b} }
		wanted := listsOf(kept(c.call(s, b)))
		for i := range wanted {
			lists := listsOf(c.call(s, b))
			spoil(lists[i])
			for j := range wanted {
				if i != j && string(lists[j]) != string(wanted[j]) {
					t.Errorf("P16.3: %s, %s: lists %d and %d share memory", c.name, show(s), i, j)
				}
			}
		}
		if string(piece) != was {
			t.Errorf("P16.3: %s, %s: what was handed in was changed: %q", c.name, show(s), piece)
		}
	}
}

// TestAnswersShareNothing: the same may be handed in twice, and what follows from each goes its own way (P16.3).
func TestAnswersShareNothing(t *testing.T) {
	for c := range endings {
		one, two := c.call(c.s, c.b), c.call(c.s, c.b)
		was := kept(two)
		spoilState(one.s)
		spoil(one.b)
		if three := c.call(c.s, c.b); !two.is(was) || !three.is(was) {
			t.Errorf("P16.3: %s, %s: two answers share memory", c.name, show(c.s))
		}
	}
}

// TestNilAndEmpty: lists of no bytes are one (P1).
func TestNilAndEmpty(t *testing.T) {
	for c := range endings {
		one, two, b1, b2 := c.s, c.s, c.b, c.b
		for _, list := range []*[]byte{&one.Out, &one.In, &one.Back, &b1} {
			if len(*list) == 0 {
				*list = nil
			}
		}
		for _, list := range []*[]byte{&two.Out, &two.In, &two.Back, &b2} {
			if len(*list) == 0 {
				*list = []byte{}
			}
		}
		if x, y := c.call(one, b1), c.call(two, b2); !x.is(y) {
			t.Errorf("P1: %s, %s: %s and %s", c.name, show(c.s), x, y)
		}
	}
}

// keeper is a Raw that keeps all that it was handed and all that it told, and overwrites it in each call.
type keeper struct {
	held  [][]byte
	tells string
	taken string
	most  int
}

func (x *keeper) Read(n int) ([]byte, api.Errno) {
	x.overwrite()
	b := []byte(x.tells[:min(n, len(x.tells))])
	x.tells = x.tells[len(b):]
	x.held = append(x.held, b)
	return b, api.OK
}

func (x *keeper) Write(b []byte) (int, api.Errno) {
	c := b[0]
	x.held = append(x.held, b)
	x.overwrite()
	if len(x.taken) == x.most {
		return 0, api.ErrCustom
	}
	x.taken += string([]byte{c})
	return 1, api.OK
}

func (x *keeper) Seek(off int, whence int) (int, api.Errno) {
	return 0, api.ErrSeek
}

func (x *keeper) overwrite() {
	for _, b := range x.held {
		spoil(b)
	}
}

// TestRawKeepsWrites: a Raw that keeps and changes what it is handed spoils neither what was handed in nor what follows (P16.3).
func TestRawKeepsWrites(t *testing.T) {
	const whole = "abcdefgh"
	for mode := 1; mode <= 3; mode++ {
		for size, count := range shapes(len(whole)) {
			for _, most := range []int{99, 2} {
				x := &keeper{most: most}
				given, b := roomyState(both(mode, 5)), roomy([]byte(whole))
				answered := writing(given, x, b, size, count)
				x.overwrite()
				if !isWhole(given, both(mode, 5)) || !isWholeList(b, []byte(whole)) {
					t.Errorf("P16.3: Write: what was handed in was changed: %s, %q", show(given), b)
				}
				taken := len(x.taken) + len(answered.s.Out)
				if x.taken+string(answered.s.Out) != whole[:taken] || answered.n != taken/size {
					t.Errorf("P16.3: Write in mode %d: %q was taken, %s", mode, x.taken, answered)
				}
			}
		}
	}
}

// TestRawKeepsReads: a Raw that keeps and changes what it told spoils neither what is read nor what follows (P16.3).
func TestRawKeepsReads(t *testing.T) {
	said := letters(200)
	for mode, bufSize := range buffers {
		x := &keeper{tells: said}
		one := reading(both(mode, bufSize), x, 10, 7)
		x.overwrite()
		two := reading(one.s, x, 10, 99)
		x.overwrite()
		if string(one.b) != said[:70] || one.n != 7 || one.e != api.OK || string(two.b) != said[70:] || two.n != 13 || two.e != api.ErrEnd {
			t.Errorf("P16.3: Read: %s and %s", one, two)
		}
	}
}

// TestRawReaches: a Raw that holds the lists of the state that is handed in, and changes them meanwhile, does not reach what follows (P16.3).
func TestRawReaches(t *testing.T) {
	given := roomyState(got(3, 9, "in", "kcab"))
	x := &keeper{tells: "side and more", held: [][]byte{given.In, given.Back}}
	s := read(t, given, x, 6, 2, "backinside a", 2, api.OK)
	wantState(t, "P16.3: Read", s, got(3, 9, "nd ", ""))
	given = roomyState(holding(3, 4, "abcd"))
	x = &keeper{most: 6, held: [][]byte{given.Out}}
	s = write(t, given, x, "efghij", 3, 2, 1, api.ErrCustom)
	wantState(t, "P16.3: Write", s, bad(holding(3, 4, "gh")))
	if x.taken != "abcdef" {
		t.Errorf("P16.3: %q was taken", x.taken)
	}
}

// TestForks: from one state calls go several ways, and none is seen in another (P16.3).
func TestForks(t *testing.T) {
	trunk := got(3, 9, "inside", "")
	one := read(t, trunk, texts("1"), 2, 1, "in", 1, api.OK)
	two := read(t, trunk, texts("2"), 1, 9, "inside2", 7, api.ErrEnd)
	three := read(t, one, texts("3"), 1, 1, "s", 1, api.OK)
	wantState(t, "P16.3: the trunk", trunk, got(3, 9, "inside", ""))
	wantState(t, "P16.3: Read", one, got(3, 9, "side", ""))
	wantState(t, "P16.3: Read", two, ended(got(3, 9, "", "")))
	wantState(t, "P16.3: Read", three, got(3, 9, "ide", ""))

	trunk = write(t, both(3, 9), &scripted{}, "ab", 1, 2, 2, api.OK)
	one = write(t, trunk, &scripted{}, "1", 1, 1, 1, api.OK)
	two = write(t, trunk, &scripted{}, "22", 2, 1, 1, api.OK)
	three = write(t, one, &scripted{}, "33", 2, 1, 1, api.OK)
	write(t, one, &scripted{}, "4", 1, 1, 1, api.OK)
	wantState(t, "P16.3: the trunk", trunk, holding(3, 9, "ab"))
	wantState(t, "P16.3: Write", one, holding(3, 9, "ab1"))
	wantState(t, "P16.3: Write", two, holding(3, 9, "ab22"))
	wantState(t, "P16.3: Write", three, holding(3, 9, "ab133"))
}
