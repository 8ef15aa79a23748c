package stream

import (
	"bytes"
	"testing"

	"millrace/api"
	"millrace/retry"
)

// behindList stands in the room behind a list that is handed in.
const behindList = "<room behind>"

// roomy is a list with room behind it.
func roomy(b []byte) []byte {
	return append(bytes.Clone(b), behindList...)[:len(b)]
}

func roomyState(s State) State {
	s.Out, s.In, s.Back = roomy(s.Out), roomy(s.In), roomy(s.Back)
	return s
}

// isWhole tells whether a state is as it was, the room behind its lists too.
func isWhole(s, was State) bool {
	for _, b := range [][]byte{s.Out, s.In, s.Back} {
		if string(b[len(b):len(b)+len(behindList)]) != behindList {
			return false
		}
	}
	return same(s, was)
}

// spoil changes a list, and the room behind it.
func spoil(b []byte) {
	b = b[:cap(b)]
	for i := range b {
		b[i] = '?'
	}
}

func spoilState(s State) {
	spoil(s.Out)
	spoil(s.In)
	spoil(s.Back)
}

// outcome is a call in a state over a Raw.
type outcome struct {
	call string
	s    State
	r    func() retry.Raw
}

// outcomes are calls of all endings.
func outcomes() []outcome {
	raw := func(parts ...any) func() retry.Raw {
		return func() retry.Raw { return rawOf(parts...) }
	}
	none := func() retry.Raw { return nil }
	return []outcome{
		{"Put", holding(3, 9, "abc"), raw()},
		{"Put", holding(3, 4, "abc"), raw()},
		{"Put", holding(3, 4, "abc"), raw(2, api.ErrFull)},
		{"Put", holding(3, 4, "abc"), raw(api.ErrBlock)},
		{"Put", holding(3, 3, "abc"), raw()},
		{"Put", holding(3, 3, "abc"), raw(2, api.ErrFull)},
		{"Put", holding(3, 3, "abc"), raw(api.ErrBlock)},
		{"Put", holding(1, 3, ""), raw()},
		{"Put", ended(got(3, 3, "", "")), raw()},
		{"Put", got(3, 3, "abc", "de"), raw()},
		{"Put", holding(3, 2, "abc"), raw()},
		{"Put", holding(3, 9, "abc"), none},
		{"Put", got(3, 3, "abc", "12345678"), none},
		{"Get", got(3, 9, "abc", "de"), raw()},
		{"Get", got(3, 9, "abc", ""), raw()},
		{"Get", got(3, 9, "a", ""), raw()},
		{"Get", got(3, 9, "", ""), raw("abc")},
		{"Get", got(3, 9, "", ""), raw("a")},
		{"Get", got(3, 9, "", ""), raw()},
		{"Get", got(3, 9, "", ""), raw(api.ErrCustom)},
		{"Get", got(3, 9, "", "a"), raw()},
		{"Get", holding(3, 9, "abc"), raw()},
		{"Get", got(3, 9, "abc", "123456789"), raw()},
		{"Get", got(3, 9, "abc", "de"), none},
		{"Flush", holding(3, 9, "abc"), raw()},
		{"Flush", holding(3, 9, "abc"), raw(2, api.ErrFull)},
		{"Flush", holding(3, 9, "abc"), raw(api.ErrBlock)},
		{"Flush", got(3, 9, "abc", "de"), raw()},
		{"Flush", got(3, 9, "abc", "de"), none},
		{"Flush", holding(1, 9, "abc"), raw()},
		{"Clear", holding(3, 9, "abc"), none},
		{"Clear", ended(bad(got(3, 9, "abc", "de"))), none},
		{"Clear", holding(3, 2, "abc"), none},
		{"Close", holding(3, 9, "abc"), raw()},
		{"Close", holding(3, 9, "abc"), raw(2, api.ErrFull)},
		{"Close", got(3, 9, "abc", "de"), raw()},
		{"Close", got(3, 9, "abc", "de"), none},
		{"Close", with(both(3, 9), func(s *State) { s.Closed, s.In = true, []byte("in") }), raw()},
	}
}

// TestHandedInStays: what is handed in is neither changed nor kept, the room behind it included, and what follows shares nothing with it (P11.9).
func TestHandedInStays(t *testing.T) {
	for _, c := range outcomes() {
		want, we := callOf(c.call, c.s, c.r())
		given := roomyState(c.s)
		after, e := callOf(c.call, given, c.r())
		if !same(after, want) || e != we {
			t.Errorf("P3: %s, %s: %s, %d, not %s, %d", c.call, show(c.s), show(after), e, show(want), we)
		}
		if !isWhole(given, c.s) {
			t.Errorf("P11.9: %s, %s: what was handed in was changed", c.call, show(c.s))
		}
		spoilState(given)
		if !same(after, want) {
			t.Errorf("P11.9: %s, %s: what follows shares memory with what was handed in: %s", c.call, show(c.s), show(after))
		}
		given = roomyState(c.s)
		after, _ = callOf(c.call, given, c.r())
		spoilState(after)
		if !isWhole(given, c.s) {
			t.Errorf("P11.9: %s, %s: what was handed in shares memory with what follows", c.call, show(c.s))
		}
	}
}

// TestListsShareNothing: no list of what follows has memory of another one, be it that those handed in have (P11.9).
func TestListsShareNothing(t *testing.T) {
	for _, c := range outcomes() {
		// One piece of memory for all lists.
		all := bytes.Clone([]byte("abcdefghijklmnop"))
		s := c.s
		s.Out, s.In, s.Back = all[:len(s.Out)], all[:len(s.In)], all[:len(s.Back)]
		want, _ := callOf(c.call, s, c.r())
		want = copied(want)
		for i := range 3 {
			after, _ := callOf(c.call, s, c.r())
			lists := [][]byte{after.Out, after.In, after.Back}
			wanted := [][]byte{want.Out, want.In, want.Back}
			spoil(lists[i])
			for j := range 3 {
				if i != j && !bytes.Equal(lists[j], wanted[j]) {
					t.Errorf("P11.9: %s, %s: lists %d and %d share memory", c.call, show(s), i, j)
				}
			}
		}
		if string(all) != "abcdefghijklmnop" {
			t.Errorf("P11.9: %s, %s: what was handed in was changed: %q", c.call, show(s), all)
		}
	}
}

// TestAnswersShareNothing: the same state may be handed in twice, and what follows from each goes its own way (P11.9).
func TestAnswersShareNothing(t *testing.T) {
	s := roomyState(holding(3, 9, "abc"))
	one, two := put(t, s, rawOf(), 'x', api.OK), put(t, s, rawOf(), 'y', api.OK)
	wantState(t, "P11.9: Put", one, holding(3, 9, "abcx"))
	wantState(t, "P11.9: Put", two, holding(3, 9, "abcy"))
	three, four := put(t, one, rawOf(), '3', api.OK), put(t, one, rawOf(), '4', api.OK)
	wantState(t, "P11.9: Put", three, holding(3, 9, "abcx3"))
	wantState(t, "P11.9: Put", four, holding(3, 9, "abcx4"))
	for _, c := range outcomes() {
		one, _ := callOf(c.call, c.s, c.r())
		two, _ := callOf(c.call, c.s, c.r())
		was := copied(two)
		spoilState(one)
		if !same(two, was) {
			t.Errorf("P11.9: %s, %s: two answers share memory", c.call, show(c.s))
		}
	}
}

// keeper is a Raw that keeps and overwrites what it is handed and what it answered.
type keeper struct {
	memory []byte
	taken  string
	held   [][]byte
}

func (x *keeper) Read(n int) ([]byte, api.Errno) {
	b := roomy(x.memory[:min(n, len(x.memory))])
	x.memory = x.memory[len(b):]
	x.held = append(x.held, b)
	return b, api.OK
}

func (x *keeper) Write(b []byte) (int, api.Errno) {
	n := min(len(b), 2)
	x.taken += string(b[:n])
	x.held = append(x.held, b)
	x.overwrite()
	if len(x.taken)%3 == 0 {
		return n, api.ErrCustom
	}
	return n, api.OK
}

func (x *keeper) Seek(off int, whence int) (int, api.Errno) {
	return 0, api.ErrSeek
}

func (x *keeper) overwrite() {
	for _, h := range x.held {
		spoil(h)
	}
}

// TestRawKeeps: a Raw that keeps what it is handed, and what it answered, spoils no state (P11.9).
func TestRawKeeps(t *testing.T) {
	x := &keeper{memory: []byte("hello, you")}
	s := get(t, both(3, 5), x, 'h')
	x.overwrite()
	s = getAll(t, s, x, "ello")
	s = get(t, s, x, ',')
	x.overwrite()
	wantState(t, "P11.9: Get", s, got(3, 5, " you", ""))

	x = &keeper{}
	given := roomyState(holding(3, 5, "abcd"))
	s = put(t, given, x, 'e', api.OK)
	if !isWhole(given, holding(3, 5, "abcd")) || x.taken != "abcde" {
		t.Errorf("P11.9: Put: %s, %q was taken", show(given), x.taken)
	}
	x = &keeper{taken: "1"}
	given = roomyState(holding(3, 5, "abcde"))
	s = flush(t, given, x, api.ErrCustom)
	x.overwrite()
	wantState(t, "P11.9: Flush", s, bad(holding(3, 5, "abcde")))
	if !isWhole(given, holding(3, 5, "abcde")) {
		t.Errorf("P11.9: Flush: %s", show(given))
	}
}

// TestNilAndEmpty: lists of no bytes are one (P1).
func TestNilAndEmpty(t *testing.T) {
	for _, c := range outcomes() {
		s := c.s
		for _, b := range []*[]byte{&s.Out, &s.In, &s.Back} {
			if len(*b) == 0 {
				*b = nil
			}
		}
		n := s
		for _, b := range []*[]byte{&n.Out, &n.In, &n.Back} {
			if len(*b) == 0 {
				*b = []byte{}
			}
		}
		one, e1 := callOf(c.call, s, c.r())
		two, e2 := callOf(c.call, n, c.r())
		if !same(one, two) || e1 != e2 {
			t.Errorf("P1: %s, %s: %s, %d and %s, %d", c.call, show(s), show(one), e1, show(two), e2)
		}
	}
}
