package pushback

import (
	"strings"
	"testing"

	"millrace/api"
	"millrace/stream"
)

// readers hands out states that may be pushed back into, of all kinds, with no byte, some, and as many as may be in Back.
func readers(yield func(stream.State) bool) {
	for mode := 1; mode <= 3; mode++ {
		for _, size := range []int{1, 4, api.MaxBuf} {
			states := []stream.State{both(mode, size)}
			for _, in := range []string{"", "i", "in and more", text(api.MaxBuf)} {
				for n := range api.MaxUnget + 1 {
					states = append(states, got(mode, size, in, "12345678"[:n]))
				}
			}
			for _, s := range states {
				for _, s := range []stream.State{s, readOnly(s)} {
					for _, s := range []stream.State{s, ended(s), bad(s), ended(bad(s))} {
						if !yield(s) {
							return
						}
					}
				}
			}
		}
	}
}

// TestUnget: the byte is the last one of Back, Dir is 1, End is false, all else stays; where there are 8 it is refused (P13.1).
func TestUnget(t *testing.T) {
	for s := range readers {
		for _, c := range []byte{'c', 0, 10, 255} {
			if len(s.Back) == 8 {
				wantState(t, "P13.1: Unget", unget(t, s, c, api.ErrFull), s)
				continue
			}
			wantState(t, "P13.1: Unget", unget(t, s, c, api.OK), pushed(s, string([]byte{c})))
		}
	}
}

// TestUngetAll: of no bytes, of one, of as many as there is room for, of one more, of more than 8 (P13.1).
func TestUngetAll(t *testing.T) {
	for s := range readers {
		room := 8 - len(s.Back)
		for _, n := range []int{1, 2, room - 1, room} {
			if n < 1 || n > room {
				continue
			}
			b := "abcdefgh"[:n]
			wantState(t, "P13.1: UngetAll", ungetAll(t, s, b, api.OK), pushed(s, b))
		}
		for _, n := range []int{room + 1, 8 + 1, 8 + 2, 2 * 8, 256, 256 + 8} {
			wantState(t, "P13.1: UngetAll", ungetAll(t, s, text(n), api.ErrFull), s)
		}
		// Neither Dir nor End is another by no bytes.
		wantState(t, "P13.1: UngetAll of none", ungetAll(t, s, "", api.OK), s)
	}
}

// TestUngetAllLong: also of very many bytes none is taken (P13.1).
func TestUngetAllLong(t *testing.T) {
	for _, s := range []stream.State{both(3, 4), ended(both(3, 4)), got(3, 4, "in", "1234567"), got(3, 4, "in", "12345678")} {
		for _, n := range []int{api.MaxBuf, api.MaxFile, api.MaxFile + 1, 1 << 24} {
			wantState(t, "P13.1: UngetAll", ungetAll(t, s, text(n), api.ErrFull), s)
		}
	}
}

// TestUngetAllNil: a nil list is one of no bytes (P1).
func TestUngetAllNil(t *testing.T) {
	for s := range readers {
		for _, b := range [][]byte{nil, {}, make([]byte, 0, 9)} {
			after, e := UngetAll(s, b)
			if e != api.OK || !same(after, s) {
				t.Fatalf("P13.1: UngetAll of none, %s: %s, %d", show(s), show(after), e)
			}
		}
	}
}

// TestUngetAllIsUnget: the same as Unget from the last byte to the first, where there is room for all of them (P13.3).
func TestUngetAllIsUnget(t *testing.T) {
	for s := range readers {
		for n := range 8 - len(s.Back) + 1 {
			for _, b := range []string{"abcdefgh"[:n], strings.Repeat("a", n), "\n\x00\xff\n\x00\xff\n\x00"[:n]} {
				want := s
				for i := n - 1; i >= 0; i-- {
					want = unget(t, want, b[i], api.OK)
				}
				wantState(t, "P13.3: UngetAll", ungetAll(t, s, b, api.OK), want)
			}
		}
	}
}

// TestUngetAllIsUngetRefused: where Unget of one byte is refused, but for room, UngetAll is by the same error; where one of many is, by ErrFull (P13.3).
func TestUngetAllIsUngetRefused(t *testing.T) {
	for s := range manyStates {
		_, one := Unget(s, 'a')
		for _, n := range []int{0, 1, 2, 8, 9} {
			after, e := UngetAll(s, []byte(text(n)))
			want, last := s, api.OK
			for i := n - 1; i >= 0 && last == api.OK; i-- {
				want, last = Unget(want, text(n)[i])
			}
			if n == 0 && one != api.ErrFull {
				last = one
			}
			if last != api.OK {
				want = s
			}
			if e != last || !same(after, want) {
				t.Fatalf("P13.3: UngetAll of %d, %s: %s, %d, not %s, %d", n, show(s), show(after), e, show(want), last)
			}
		}
	}
}

// TestHeld: Back from behind, then In; nothing in the other ways (P13.1).
func TestHeld(t *testing.T) {
	for s := range readers {
		wantHeld(t, s, backwards(string(s.Back))+string(s.In))
	}
	for mode := 1; mode <= 3; mode++ {
		wantHeld(t, holding(mode, 9, ""), "")
		wantHeld(t, stream.State{Mode: mode, Size: 1}, "")
		wantHeld(t, stream.State{Writes: true, Mode: mode, Size: 1}, "")
		wantHeld(t, ended(bad(stream.State{Writes: true, Mode: mode, Size: 1, Dir: 2})), "")
		if mode != 1 {
			// What was put is not to be got.
			wantHeld(t, holding(mode, 9, "out"), "")
			wantHeld(t, stream.State{Writes: true, Mode: mode, Size: 3, Dir: 2, Out: []byte("out")}, "")
		}
	}
}

// mayBe is the list of chapter 11 of what holds of a state, one by one.
func mayBe(s stream.State) bool {
	for _, broken := range []bool{
		s.Mode < 1 || s.Mode > 3,
		s.Size < 1 || s.Size > 65536,
		len(s.Out) > s.Size || s.Mode == 1 && len(s.Out) > 0,
		len(s.In) > 65536,
		len(s.Back) > 8,
		s.Dir < 0 || s.Dir > 2,
		s.Dir == 1 && !s.Reads,
		s.Dir == 2 && !s.Writes,
		len(s.Out) != 0 && s.Dir != 2,
		len(s.In) != 0 && s.Dir != 1,
		len(s.Back) != 0 && s.Dir != 1,
		s.Closed && s.Dir != 0,
	} {
		if broken {
			return false
		}
	}
	return true
}

// manyStates hands out states of all kinds, those that may be and others.
func manyStates(yield func(stream.State) bool) {
	lists := [][]byte{nil, []byte("a"), []byte("abc")}
	backs := [][]byte{nil, []byte("1234567"), []byte("12345678"), []byte("123456789")}
	for bits := range 32 {
		on := func(i int) bool { return bits>>i&1 == 1 }
		s := stream.State{Reads: on(0), Writes: on(1), End: on(2), Bad: on(3), Closed: on(4)}
		for s.Mode = range 5 {
			for _, s.Size = range []int{0, 1, 2, api.MaxBuf, api.MaxBuf + 1} {
				for s.Dir = -1; s.Dir <= 3; s.Dir++ {
					for _, s.Out = range lists {
						for _, s.In = range lists[:2] {
							for _, s.Back = range backs {
								if !yield(s) {
									return
								}
							}
						}
					}
				}
			}
		}
	}
}

// refusalWanted is the first error that the chapter names for n bytes pushed back, in its order.
func refusalWanted(s stream.State, n int) api.Errno {
	for _, c := range []struct {
		holds bool
		e     api.Errno
	}{
		{!mayBe(s), api.ErrState},
		{s.Closed, api.ErrClosed},
		{!s.Reads, api.ErrMode},
		{s.Dir == 2, api.ErrDir},
		{len(s.Back)+n > 8, api.ErrFull},
	} {
		if c.holds {
			return c.e
		}
	}
	return api.OK
}

// TestRefusals: in each kind of state Unget and UngetAll are refused by the error that is named first, of no bytes too, and then the state is the one handed in (P13.1).
func TestRefusals(t *testing.T) {
	seen := map[api.Errno]int{}
	for s := range manyStates {
		for _, b := range []string{"", "x", "xy", "12345678", "123456789"} {
			want, follows := refusalWanted(s, len(b)), s
			if want == api.OK && b != "" {
				follows = pushed(s, b)
			}
			seen[want]++
			after, e := UngetAll(s, []byte(b))
			if e != want || !same(after, follows) {
				t.Fatalf("P13.1: UngetAll %q, %s: %s, %d, not %s, %d", b, show(s), show(after), e, show(follows), want)
			}
			if b != "x" {
				continue
			}
			after, e = Unget(s, 'x')
			if e != want || !same(after, follows) {
				t.Fatalf("P13.1: Unget, %s: %s, %d, not %s, %d", show(s), show(after), e, show(follows), want)
			}
		}
	}
	if len(seen) != 6 {
		t.Errorf("not all refusals were met: %v", seen)
	}
}

// TestHeldRefusals: Held is refused in a state that may not be and in a closed one alone, and then tells no bytes (P13.1, P4).
func TestHeldRefusals(t *testing.T) {
	for s := range manyStates {
		want, held := api.OK, backwards(string(s.Back))+string(s.In)
		switch {
		case !mayBe(s):
			want, held = api.ErrState, ""
		case s.Closed:
			want, held = api.ErrClosed, ""
		}
		if b, e := Held(s); string(b) != held || e != want {
			t.Fatalf("P13.1: Held, %s: %q, %d, not %q, %d", show(s), b, e, held, want)
		}
	}
}

// TestRefusedOneByOne: each error by a state to which nothing else is wrong, and the first of two (P13.1).
func TestRefusedOneByOne(t *testing.T) {
	writer := stream.State{Writes: true, Mode: 3, Size: 4}
	for _, c := range []struct {
		s stream.State
		e api.Errno
	}{
		{stream.State{}, api.ErrState},
		{got(3, 4, "in", "123456789"), api.ErrState},
		{got(3, 4, text(api.MaxBuf+1), ""), api.ErrState},
		{done(got(3, 4, "in", "12345678")), api.ErrState},
		{with(writer, func(s *stream.State) { s.Dir = 1 }), api.ErrState},
		{with(holding(3, 4, "out"), func(s *stream.State) { s.Back = []byte("12345678") }), api.ErrState},
		{done(both(3, 4)), api.ErrClosed},
		{done(ended(bad(both(1, 1)))), api.ErrClosed},
		{done(writer), api.ErrClosed},
		{done(stream.State{Mode: 1, Size: 1}), api.ErrClosed},
		{writer, api.ErrMode},
		{stream.State{Mode: 1, Size: 1}, api.ErrMode},
		{with(writer, func(s *stream.State) { s.Dir, s.Out = 2, []byte("out") }), api.ErrMode},
		{holding(3, 4, ""), api.ErrDir},
		{ended(bad(holding(3, 4, "out"))), api.ErrDir},
		{holding(2, 4, "out"), api.ErrDir},
		{holding(1, 4, ""), api.ErrDir},
	} {
		wantState(t, "P13.1: Unget", unget(t, c.s, 'x', c.e), c.s)
		for _, n := range []int{0, 1, 8, 9, api.MaxFile} {
			wantState(t, "P13.1: UngetAll", ungetAll(t, c.s, text(n), c.e), c.s)
		}
	}
}

// TestEveryByte: a byte of each value is pushed back as it is (P13.1).
func TestEveryByte(t *testing.T) {
	for c := range 256 {
		want := string([]byte{byte(c)})
		wantHeld(t, unget(t, both(3, 4), byte(c), api.OK), want)
		wantHeld(t, ungetAll(t, both(3, 4), want+"\n"+want, api.OK), want+"\n"+want)
	}
}
