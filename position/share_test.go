package position

import (
	"bytes"
	"testing"

	"millrace/api"
	"millrace/retry"
	"millrace/stream"
)

// behindList stands in the room behind a list that is handed in.
const behindList = "<room behind>"

// roomy is a list with room behind it.
func roomy(b []byte) []byte {
	return append(bytes.Clone(b), behindList...)[:len(b)]
}

func roomyState(s stream.State) stream.State {
	s.Out, s.In, s.Back = roomy(s.Out), roomy(s.In), roomy(s.Back)
	return s
}

// isWhole tells whether a state is as it was, the room behind its lists too.
func isWhole(s, was stream.State) bool {
	for _, b := range [][]byte{s.Out, s.In, s.Back} {
		if string(b[len(b):len(b)+len(behindList)]) != behindList {
			return false
		}
	}
	return same(s, was)
}

// spoil changes a list, and the room behind it.
func spoil(b []byte) {
	b = b[:cap(b)]
	for i := range b {
		b[i] = '?'
	}
}

func spoilState(s stream.State) {
	spoil(s.Out)
	spoil(s.In)
	spoil(s.Back)
}

// ending is a call in a state over a Raw.
type ending struct {
	name string
	s    stream.State
	call func(stream.State) (stream.State, int, api.Errno)
}

// endings hands out all calls in states of all kinds over Raws of all kinds, so that they come to all endings.
func endings(yield func(ending) bool) {
	raws := map[string]func() retry.Raw{
		"no Raw":         func() retry.Raw { return nil },
		"a Raw at 50":    func() retry.Raw { return placedAt(50) },
		"a Raw at 1":     func() retry.Raw { return placedAt(1) },
		"no places":      func() retry.Raw { return seeksOf(answer{e: api.ErrSeek}) },
		"no place so":    func() retry.Raw { return seeksOf(answer{n: 50}, answer{e: api.ErrRange}) },
		"blocked":        func() retry.Raw { return writesOf(answer{e: api.ErrBlock}) },
		"taken in part":  func() retry.Raw { return writesOf(answer{n: 1}, answer{e: api.ErrFull}) },
		"taken by parts": func() retry.Raw { return writesOf(answer{n: 1}, answer{n: 1}) },
	}
	states := []stream.State{
		both(3, 9),
		holding(3, 9, "out"),
		holding(2, 9, "o"),
		got(3, 9, "in", "back"),
		ended(bad(got(1, 9, "", "back"))),
		got(3, 9, "in", ""),
		done(both(3, 9)),
		holding(3, 2, "out"),
		done(got(3, 9, "in", "back")),
		with(got(3, 9, "in", "back"), func(s *stream.State) { s.Out = []byte("out") }),
	}
	all := map[string]func(stream.State, retry.Raw) (stream.State, int, api.Errno){
		"Seek(0, 3)":   func(s stream.State, r retry.Raw) (stream.State, int, api.Errno) { return Seek(s, r, 0, 3) },
		"Seek(-99, 1)": func(s stream.State, r retry.Raw) (stream.State, int, api.Errno) { return Seek(s, r, -99, 1) },
	}
	for name, call := range calls {
		all[name] = call
	}
	for name, call := range all {
		for about, raw := range raws {
			for _, s := range states {
				c := ending{name + " over " + about, s, func(s stream.State) (stream.State, int, api.Errno) { return call(s, raw()) }}
				if !yield(c) {
					return
				}
			}
		}
	}
}

// TestHandedInStays: what is handed in is neither changed nor kept, the room behind it included, and what follows shares nothing with it (P14.6).
func TestHandedInStays(t *testing.T) {
	seen := map[api.Errno]int{}
	for c := range endings {
		want, n, e := c.call(c.s)
		seen[e]++
		given := roomyState(c.s)
		after, again, e2 := c.call(given)
		if !same(after, want) || again != n || e2 != e {
			t.Errorf("P3: %s, %s: %s, %d, %d, not %s, %d, %d", c.name, show(c.s), show(after), again, e2, show(want), n, e)
		}
		if !isWhole(given, c.s) {
			t.Errorf("P14.6: %s, %s: what was handed in was changed", c.name, show(c.s))
		}
		spoilState(given)
		if !same(after, want) {
			t.Errorf("P14.6: %s, %s: what follows shares memory with what was handed in: %s", c.name, show(c.s), show(after))
		}
		given = roomyState(c.s)
		after, _, _ = c.call(given)
		spoilState(after)
		if !isWhole(given, c.s) {
			t.Errorf("P14.6: %s, %s: what was handed in shares memory with what follows", c.name, show(c.s))
		}
	}
	for _, e := range []api.Errno{api.OK, api.ErrState, api.ErrMade, api.ErrClosed, api.ErrArg, api.ErrBlock, api.ErrFull, api.ErrSeek, api.ErrRange} {
		if seen[e] == 0 {
			t.Errorf("the ending %d was not met", e)
		}
	}
}

// TestListsShareNothing: no list of what follows has memory of another one, be it that those handed in have (P14.6).
func TestListsShareNothing(t *testing.T) {
	const letters = "abcdefghijklmnop"
	for c := range endings {
		// One piece of memory for all lists.
		all := []byte(letters)
		s := c.s
		s.Out, s.In, s.Back = all[:len(s.Out)], all[:len(s.In)], all[:len(s.Back)]
		want, _, _ := c.call(s)
		wanted := []string{string(want.Out), string(want.In), string(want.Back)}
		for i := range 3 {
			after, _, _ := c.call(s)
			lists := [][]byte{after.Out, after.In, after.Back}
			spoil(lists[i])
			for j := range 3 {
				if i != j && string(lists[j]) != wanted[j] {
					t.Errorf("P14.6: %s, %s: lists %d and %d share memory", c.name, show(s), i, j)
				}
			}
		}
		if string(all) != letters {
			t.Errorf("P14.6: %s, %s: what was handed in was changed: %q", c.name, show(s), all)
		}
	}
}

// TestStatesShareNothing: the same state may be handed in twice, and what follows from each goes its own way (P14.6).
func TestStatesShareNothing(t *testing.T) {
	for c := range endings {
		one, _, _ := c.call(c.s)
		two, _, _ := c.call(c.s)
		was := roomyState(two)
		spoilState(one)
		if three, _, _ := c.call(c.s); !same(two, was) || !same(three, was) {
			t.Errorf("P14.6: %s, %s: two answers share memory", c.name, show(c.s))
		}
	}
}

// TestNilAndEmpty: lists of no bytes are one (P1).
func TestNilAndEmpty(t *testing.T) {
	for c := range endings {
		one, two := c.s, c.s
		for _, list := range []*[]byte{&one.Out, &one.In, &one.Back} {
			if len(*list) == 0 {
				*list = nil
			}
		}
		for _, list := range []*[]byte{&two.Out, &two.In, &two.Back} {
			if len(*list) == 0 {
				*list = []byte{}
			}
		}
		after1, n1, e1 := c.call(one)
		after2, n2, e2 := c.call(two)
		if !same(after1, after2) || n1 != n2 || e1 != e2 {
			t.Errorf("P1: %s, %s: %s, %d, %d and %s, %d, %d", c.name, show(c.s), show(after1), n1, e1, show(after2), n2, e2)
		}
	}
}

// keeper is a Raw that takes one byte at a time and overwrites all that it was ever handed; in a seek too, and with it what is laid into held.
type keeper struct {
	held  [][]byte
	taken string
	most  int
	e     api.Errno
}

func (x *keeper) Read(n int) ([]byte, api.Errno) {
	return nil, api.ErrMode
}

func (x *keeper) Write(b []byte) (int, api.Errno) {
	c := b[0]
	x.held = append(x.held, b)
	x.overwrite()
	if len(x.taken) == x.most {
		return 0, api.ErrCustom
	}
	x.taken += string([]byte{c})
	return 1, api.OK
}

func (x *keeper) Seek(off int, whence int) (int, api.Errno) {
	x.overwrite()
	return 50 + off, x.e
}

func (x *keeper) overwrite() {
	for _, b := range x.held {
		spoil(b)
	}
}

// TestRawKeeps: a Raw that keeps and changes what it is handed spoils neither the state handed in nor the one that follows (P14.6).
func TestRawKeeps(t *testing.T) {
	for name, call := range calls {
		for _, most := range []int{99, 2} {
			x := &keeper{most: most}
			given := roomyState(holding(3, 9, "abcde"))
			after, _, e := call(given, x)
			x.overwrite()
			if !isWhole(given, holding(3, 9, "abcde")) || x.taken != "abcde"[:min(most, 5)] {
				t.Errorf("P14.6: %s: %s, %q was taken", name, show(given), x.taken)
			}
			if most == 2 {
				wantState(t, "P14.6: "+name, after, bad(holding(3, 9, "cde")))
			}
			if (e == api.OK) != (most == 99) {
				t.Errorf("P14.1: %s: %d", name, e)
			}
		}
	}
}

// TestRawReaches: a Raw that holds the lists of the state that is handed in, and changes them meanwhile, does not reach what follows (P14.6).
func TestRawReaches(t *testing.T) {
	for name, call := range calls {
		for _, s := range []stream.State{got(3, 9, "in", "back"), holding(3, 9, "abcde")} {
			given := roomyState(s)
			x := &keeper{most: 99, e: api.ErrCustom, held: [][]byte{given.Out, given.In, given.Back}}
			after, _, e := call(given, x)
			if e != api.ErrCustom || x.taken != string(s.Out) {
				t.Errorf("P14.1: %s, %s: %d, %q was taken", name, show(s), e, x.taken)
			}
			wantState(t, "P14.6: "+name, after, left(s, ""))
		}
	}
}

// TestForks: from one state two Seeks and a Tell go three ways, and none is seen in another (P14.6).
func TestForks(t *testing.T) {
	trunk := got(3, 9, "in", "back")
	one := seek(t, trunk, placedAt(50), 7, 0, 7, api.OK)
	two := tell(t, trunk, placedAt(50), 44, api.OK)
	three := seek(t, trunk, placedAt(50), 7, 1, 51, api.OK)
	one = unget(t, one, "1")
	two = unget(t, two, "2")
	three = unget(t, three, "3")
	wantState(t, "P14.6: the trunk", trunk, got(3, 9, "in", "back"))
	wantState(t, "P14.6: Seek", one, got(3, 9, "", "1"))
	wantState(t, "P14.6: Tell", two, got(3, 9, "in", "back2"))
	wantState(t, "P14.6: Seek", three, got(3, 9, "", "3"))
}
