package bufmode

import (
	"bytes"
	"slices"
	"testing"

	"millrace/api"
	"millrace/retry"
	"millrace/stream"
)

// behindList stands in the room behind a list that is handed in.
const behindList = "<room behind>"

// roomy is a list with room behind it.
func roomy(b []byte) []byte {
	return append(bytes.Clone(b), behindList...)[:len(b)]
}

func roomyState(s stream.State) stream.State {
	s.Out, s.In, s.Back = roomy(s.Out), roomy(s.In), roomy(s.Back)
	return s
}

// isWhole tells whether a state is as it was, the room behind its lists too.
func isWhole(s, was stream.State) bool {
	for _, b := range [][]byte{s.Out, s.In, s.Back} {
		if string(b[len(b):len(b)+len(behindList)]) != behindList {
			return false
		}
	}
	return same(s, was)
}

// spoil changes a list, and the room behind it.
func spoil(b []byte) {
	b = b[:cap(b)]
	for i := range b {
		b[i] = '?'
	}
}

func spoilState(s stream.State) {
	spoil(s.Out)
	spoil(s.In)
	spoil(s.Back)
}

// ending is a Set of a mode and a size in a state over a Raw, and what it answers.
type ending struct {
	s          stream.State
	r          func() retry.Raw
	mode, size int
	e          api.Errno
}

func (c ending) set(s stream.State) (stream.State, api.Errno) {
	return Set(s, c.r(), c.mode, c.size)
}

// endings are Sets of all endings.
func endings() []ending {
	raw := func(parts ...any) func() retry.Raw {
		return func() retry.Raw { return rawOf(parts...) }
	}
	none := func() retry.Raw { return nil }
	return []ending{
		{holding(3, 9, "abc"), raw(), 1, 1, api.OK},
		{holding(2, 9, "abc"), raw(), 3, 9, api.OK},
		{holding(3, 9, "abc"), raw(2, api.ErrFull), 1, 1, api.ErrFull},
		{holding(3, 9, "abc"), raw(2, api.ErrBlock), 1, 1, api.ErrBlock},
		{holding(3, 9, "abc"), raw(api.ErrBlock), 1, 1, api.ErrBlock},
		{holding(3, 9, "abc"), raw(), 0, 1, api.ErrArg},
		{holding(3, 9, "abc"), raw(), 1, 0, api.ErrRange},
		{holding(3, 9, "abc"), none, 1, 1, api.ErrMade},
		{holding(3, 2, "abc"), raw(), 1, 1, api.ErrState},
		{holding(1, 9, "abc"), raw(), 2, 2, api.ErrState},
		{got(3, 9, "abc", "de"), raw(), 1, 1, api.OK},
		{got(3, 9, "abc", "de"), raw(), 4, 1, api.ErrArg},
		{got(3, 9, "abc", "de"), raw(), 3, api.MaxBuf + 1, api.ErrRange},
		{got(3, 9, "abc", "de"), none, 1, 1, api.ErrMade},
		{got(3, 9, "abc", "123456789"), raw(), 1, 1, api.ErrState},
		{both(3, 9), raw(), 1, 1, api.OK},
		{done(both(3, 9)), raw(), 1, 1, api.ErrClosed},
		{done(got(3, 9, "abc", "de")), raw(), 1, 1, api.ErrState},
		{with(got(3, 9, "abc", "de"), func(s *stream.State) { s.Out = []byte("fgh") }), raw(), 1, 1, api.ErrState},
	}
}

// TestHandedInStays: what is handed in is neither changed nor kept, the room behind it included, and what follows shares nothing with it (P12.5).
func TestHandedInStays(t *testing.T) {
	for _, c := range endings() {
		want, e := c.set(c.s)
		if e != c.e {
			t.Errorf("P12.1: Set, %s: %d, not %d", show(c.s), e, c.e)
		}
		given := roomyState(c.s)
		after, e := c.set(given)
		if !same(after, want) || e != c.e {
			t.Errorf("P3: Set, %s: %s, %d, not %s", show(c.s), show(after), e, show(want))
		}
		if !isWhole(given, c.s) {
			t.Errorf("P12.5: Set, %s: what was handed in was changed", show(c.s))
		}
		spoilState(given)
		if !same(after, want) {
			t.Errorf("P12.5: Set, %s: what follows shares memory with what was handed in: %s", show(c.s), show(after))
		}
		given = roomyState(c.s)
		after, _ = c.set(given)
		spoilState(after)
		if !isWhole(given, c.s) {
			t.Errorf("P12.5: Set, %s: what was handed in shares memory with what follows", show(c.s))
		}
	}
}

// TestListsShareNothing: no list of what follows has memory of another one, be it that those handed in have (P12.5).
func TestListsShareNothing(t *testing.T) {
	for _, c := range endings() {
		// One piece of memory for all lists.
		all := []byte("abcdefghijklmnop")
		s := c.s
		s.Out, s.In, s.Back = all[:len(s.Out)], all[:len(s.In)], all[:len(s.Back)]
		want, _ := c.set(s)
		wanted := []string{string(want.Out), string(want.In), string(want.Back)}
		for i := range 3 {
			after, _ := c.set(s)
			lists := [][]byte{after.Out, after.In, after.Back}
			spoil(lists[i])
			for j := range 3 {
				if i != j && string(lists[j]) != wanted[j] {
					t.Errorf("P12.5: Set, %s: lists %d and %d share memory", show(s), i, j)
				}
			}
		}
		if string(all) != "abcdefghijklmnop" {
			t.Errorf("P12.5: Set, %s: what was handed in was changed: %q", show(s), all)
		}
	}
}

// TestStatesShareNothing: the same state may be handed in twice, and what follows from each goes its own way (P12.5).
func TestStatesShareNothing(t *testing.T) {
	for _, c := range endings() {
		one, _ := c.set(c.s)
		two, _ := c.set(c.s)
		was := roomyState(two)
		spoilState(one)
		if !same(two, was) {
			t.Errorf("P12.5: Set, %s: two answers share memory", show(c.s))
		}
	}
}

// TestNilAndEmpty: lists of no bytes are one (P1).
func TestNilAndEmpty(t *testing.T) {
	for _, c := range endings() {
		one, two := c.s, c.s
		for _, b := range []*[]byte{&one.Out, &one.In, &one.Back} {
			if len(*b) == 0 {
				*b = nil
			}
		}
		for _, b := range []*[]byte{&two.Out, &two.In, &two.Back} {
			if len(*b) == 0 {
				*b = []byte{}
			}
		}
		after1, e1 := c.set(one)
		after2, e2 := c.set(two)
		if !same(after1, after2) || e1 != e2 {
			t.Errorf("P1: Set, %s: %s, %d and %s, %d", show(c.s), show(after1), e1, show(after2), e2)
		}
	}
}

// keeper is a Raw that takes two bytes at a time, keeps what it is handed and overwrites it, and then fails.
type keeper struct {
	taken string
	held  [][]byte
	most  int
}

func (x *keeper) Read(n int) ([]byte, api.Errno) {
	return nil, api.ErrMode
}

func (x *keeper) Write(b []byte) (int, api.Errno) {
	n := min(len(b), 2)
	x.held = append(x.held, b)
	if len(x.taken) >= x.most {
		x.overwrite()
		return 0, api.ErrCustom
	}
	x.taken += string(b[:n])
	x.overwrite()
	return n, api.OK
}

func (x *keeper) Seek(off int, whence int) (int, api.Errno) {
	return 0, api.ErrSeek
}

func (x *keeper) overwrite() {
	for _, h := range x.held {
		spoil(h)
	}
}

// TestRawKeeps: a Raw that keeps and changes what it is handed spoils neither the state handed in nor the one that follows (P12.5).
func TestRawKeeps(t *testing.T) {
	x := &keeper{most: 99}
	given := roomyState(holding(3, 5, "abcde"))
	wantState(t, "P12.1: Set", set(t, given, x, 2, 3, api.OK), holding(2, 3, ""))
	if !isWhole(given, holding(3, 5, "abcde")) || x.taken != "abcde" {
		t.Errorf("P12.5: Set: %s, %q was taken", show(given), x.taken)
	}
	x = &keeper{most: 2}
	s := set(t, given, x, 2, 3, api.ErrCustom)
	x.overwrite()
	wantState(t, "P12.5: Set", s, bad(holding(3, 5, "cde")))
	if !isWhole(given, holding(3, 5, "abcde")) || x.taken != "ab" {
		t.Errorf("P12.5: Set: %s, %q was taken", show(given), x.taken)
	}
}

// TestTextStays: a text is neither changed nor kept, and a list of writes is new (P12.5).
func TestTextStays(t *testing.T) {
	for mode := 1; mode <= 3; mode++ {
		given := roomy([]byte("ab\ncdefgh"))
		one, _ := Writes(mode, 4, given)
		was := slices.Clone(one)
		if string(given) != "ab\ncdefgh" || string(given[len(given):len(given)+len(behindList)]) != behindList {
			t.Errorf("P12.5: Writes(%d, 4): the text was changed: %q", mode, given)
		}
		spoil(given)
		two, _ := Writes(mode, 4, []byte("ab\ncdefgh"))
		for i := range one[:cap(one)] {
			one[:cap(one)][i] = -1
		}
		three, _ := Writes(mode, 4, []byte("ab\ncdefgh"))
		if !slices.Equal(two, was) || !slices.Equal(three, was) {
			t.Errorf("P12.5: Writes(%d, 4): %v, then %v and %v", mode, was, two, three)
		}
	}
}
