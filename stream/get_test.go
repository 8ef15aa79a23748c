package stream

import (
	"testing"

	"millrace/api"
)

// TestGet: of Back from behind, of In from the front, of the Raw, and at the end (P11.3).
func TestGet(t *testing.T) {
	for _, c := range []struct{ mode, size int }{{2, 3}, {3, 3}} {
		r := rawOf("abc", "d", "")
		s := get(t, got(c.mode, c.size, "in", "xy"), r, 'y')
		wantState(t, "P11.3: Get of Back", s, got(c.mode, c.size, "in", "x"))
		s = get(t, s, r, 'x')
		wantState(t, "P11.3: Get of Back", s, got(c.mode, c.size, "in", ""))
		s = get(t, s, r, 'i')
		wantState(t, "P11.3: Get of In", s, got(c.mode, c.size, "n", ""))
		s = get(t, s, r, 'n')
		wantState(t, "P11.3: Get of In", s, got(c.mode, c.size, "", ""))
		wantCalls(t, r)
		s = get(t, s, r, 'a')
		wantState(t, "P11.3: Get of the Raw", s, got(c.mode, c.size, "bc", ""))
		wantCalls(t, r, "3")
		s = getAll(t, s, r, "bc")
		wantCalls(t, r)
		s = get(t, s, r, 'd')
		wantState(t, "P11.3: Get of the Raw", s, got(c.mode, c.size, "", ""))
		wantCalls(t, r, "3")
		s = getNone(t, s, r, api.ErrEnd)
		wantState(t, "P11.3: Get at the end", s, ended(got(c.mode, c.size, "", "")))
		wantCalls(t, r, "3")
	}
}

// TestGetUnbuffered: each read is of one byte, whatever the size is (P11.3).
func TestGetUnbuffered(t *testing.T) {
	for _, size := range []int{1, 2, api.MaxBuf} {
		r := rawOf("a", "b", "")
		s := getAll(t, both(1, size), r, "ab")
		wantState(t, "P11.3: Get", s, got(1, size, "", ""))
		s = getNone(t, s, r, api.ErrEnd)
		wantState(t, "P11.3: Get", s, ended(got(1, size, "", "")))
		wantCalls(t, r, "1", "1", "1")
		// What was read in another mode is got first.
		s = getAll(t, got(1, size, "in", "k"), r, "kin")
		wantState(t, "P11.3: Get", s, got(1, size, "", ""))
		wantCalls(t, r)
	}
}

// TestGetSizes: a read is of Size bytes, and the others are held (P11.3).
func TestGetSizes(t *testing.T) {
	for _, mode := range []int{2, 3} {
		for size, asked := range map[int]string{1: "1", 2: "2", 4096: "4096", api.MaxBuf: "65536"} {
			r := rawOf(text(size))
			s := get(t, both(mode, size), r, text(1)[0])
			wantState(t, "P11.3: Get", s, got(mode, size, text(size)[1:], ""))
			wantCalls(t, r, asked)
		}
	}
	// What was read may be more than a size that came later.
	s := get(t, got(3, 1, text(api.MaxBuf), ""), rawOf(), 0)
	wantState(t, "P11.3: Get", s, got(3, 1, text(api.MaxBuf)[1:], ""))
}

// TestGetByLines: a newline ends no read (P11.3).
func TestGetByLines(t *testing.T) {
	r := rawOf("a\nb\n")
	s := get(t, both(2, 9), r, 'a')
	wantState(t, "P11.3: Get", s, got(2, 9, "\nb\n", ""))
	getAll(t, s, r, "\nb\n")
	wantCalls(t, r, "9")
}

// TestGetBehindEnd: there is no read behind the end, in any way, until Clear; what is held is got all the same (P11.3, P11.4).
func TestGetBehindEnd(t *testing.T) {
	for mode := 1; mode <= 3; mode++ {
		r := rawOf("m")
		for _, s := range []State{ended(both(mode, 4)), ended(got(mode, 4, "", ""))} {
			after := getNone(t, s, r, api.ErrEnd)
			wantState(t, "P11.3: Get behind the end", after, ended(got(mode, 4, "", "")))
		}
		s := getAll(t, ended(got(mode, 4, "in", "k")), r, "kin")
		s = getNone(t, s, r, api.ErrEnd)
		wantState(t, "P11.3: Get behind the end", s, ended(got(mode, 4, "", "")))
		wantCalls(t, r)
		s = clearMarks(t, s, api.OK)
		s = get(t, s, r, 'm')
		wantState(t, "P11.3: Get behind Clear", s, got(mode, 4, "", ""))
		s = getNone(t, s, r, api.ErrEnd)
		wantState(t, "P11.3: Get at the next end", s, ended(got(mode, 4, "", "")))
	}
}

// TestGetFails: the error is told and sets Bad, which is no end and no refusal; blocked is no failure (P11.3).
func TestGetFails(t *testing.T) {
	for mode := 1; mode <= 3; mode++ {
		for _, e := range rawErrors {
			r := rawOf(answer{data: "lost", e: e}, "a")
			if mode == 1 {
				r = rawOf(e, "a")
			}
			s := getNone(t, both(mode, 4), r, e)
			wantState(t, "P11.3: Get", s, bad(got(mode, 4, "", "")))
			s = get(t, s, r, 'a')
			wantState(t, "P11.3: Get", s, bad(got(mode, 4, "", "")))
		}
		r := rawOf(api.ErrBlock, api.ErrBlock, "a")
		s := getNone(t, both(mode, 4), r, api.ErrBlock)
		wantState(t, "P11.3: Get", s, got(mode, 4, "", ""))
		s = getNone(t, bad(s), r, api.ErrBlock)
		wantState(t, "P11.3: Get", s, bad(got(mode, 4, "", "")))
		s = get(t, s, r, 'a')
		wantState(t, "P11.3: Get", s, bad(got(mode, 4, "", "")))
	}
	s := getNone(t, both(3, 2), rawOf("abc"), api.ErrRaw)
	wantState(t, "P11.3: Get of too many", s, bad(got(3, 2, "", "")))
	s = getNone(t, both(1, 2), rawOf("ab"), api.ErrRaw)
	wantState(t, "P11.3: Get of too many", s, bad(got(1, 2, "", "")))
	many := make([]any, api.MaxTries)
	for i := range many {
		many[i] = []api.Errno{api.ErrIntr, api.ErrAgain}[i%2]
	}
	s = getNone(t, both(3, 2), rawOf(many...), api.ErrTries)
	wantState(t, "P11.3: Get", s, bad(got(3, 2, "", "")))
}

// TestGetGoesOn: what is interrupted or to be tried again is not seen (P11.3).
func TestGetGoesOn(t *testing.T) {
	r := rawOf(api.ErrIntr, api.ErrAgain, "ab", api.ErrAgain, "")
	s := getAll(t, both(3, 5), r, "ab")
	wantState(t, "P11.3: Get", s, got(3, 5, "", ""))
	wantCalls(t, r, "5", "5", "5")
	s = getNone(t, s, r, api.ErrEnd)
	wantState(t, "P11.3: Get", s, ended(got(3, 5, "", "")))
	wantCalls(t, r, "5", "5")
}

// TestGetTurns: whatever is told, the way is reading then (P11.3).
func TestGetTurns(t *testing.T) {
	for _, c := range []struct {
		s State
		r *scripted
		e api.Errno
	}{
		{both(3, 2), rawOf("a"), api.OK},
		{both(3, 2), rawOf(), api.ErrEnd},
		{both(3, 2), rawOf(api.ErrBlock), api.ErrBlock},
		{both(3, 2), rawOf(api.ErrCustom), api.ErrCustom},
		{ended(both(3, 2)), rawOf("a"), api.ErrEnd},
		{bad(both(3, 2)), rawOf("a"), api.OK},
		{State{Reads: true, Mode: 3, Size: 2}, rawOf("a"), api.OK},
	} {
		after, _, e := Get(c.s, c.r)
		if e != c.e || after.Dir != reading {
			t.Errorf("P11.3: Get, %s: %s, %d, not Dir 1, %d", show(c.s), show(after), e, c.e)
		}
	}
}

// TestGetEachByte: bytes of all values are got as they are, 0 and 255 too (P11.3).
func TestGetEachByte(t *testing.T) {
	for mode := 1; mode <= 3; mode++ {
		var parts []any
		for c := range 256 {
			parts = append(parts, string([]byte{byte(c)}))
		}
		r := rawOf(parts...)
		s := both(mode, 4)
		for c := range 256 {
			s = get(t, s, r, byte(c))
		}
		getNone(t, s, r, api.ErrEnd)
	}
}
