package memory

import (
	"fmt"
	"strings"
	"testing"

	"millrace/api"
	"millrace/kern"
	"millrace/retry"
)

func dice(seed uint64) func(n int) int {
	return func(n int) int {
		seed = seed*6364136223846793005 + 1442695040888963407
		return int(seed >> 33 % uint64(n))
	}
}

// model is a memory told in the plainest way: byte by byte.
type model struct {
	data        []byte
	place, room int
	readOnly    bool
}

func (m *model) Read(n int) ([]byte, api.Errno) {
	if n < 0 || n > api.MaxFile {
		return nil, api.ErrRange
	}
	var b []byte
	for len(b) < n && m.place < len(m.data) {
		b = append(b, m.data[m.place])
		m.place++
	}
	return b, api.OK
}

func (m *model) Write(b []byte) (int, api.Errno) {
	switch {
	case m.readOnly:
		return 0, api.ErrMode
	case len(b) > api.MaxFile:
		return 0, api.ErrLong
	case len(b) > 0 && m.place == m.room:
		return 0, api.ErrFull
	}
	n := 0
	for _, c := range b {
		if m.place == m.room {
			break
		}
		for len(m.data) <= m.place {
			m.data = append(m.data, 0)
		}
		m.data[m.place] = c
		m.place++
		n++
	}
	return n, api.OK
}

func (m *model) Seek(off int, whence int) (int, api.Errno) {
	if whence < 0 || whence > 2 {
		return 0, api.ErrArg
	}
	to := off + []int{0, m.place, len(m.data)}[whence]
	if to < 0 || to > m.room {
		return 0, api.ErrRange
	}
	m.place = to
	return to, api.OK
}

func (m *model) Bytes() []byte {
	return append([]byte(nil), m.data...)
}

// step makes one call, ordinary or wrong, on each of the Raws, and tells their answers.
func step(roll func(int) int, most int, all ...retry.Raw) []string {
	var call func(x retry.Raw) string
	switch roll(8) {
	case 0, 1:
		n := roll(most + 2)
		call = func(x retry.Raw) string {
			b, e := x.Read(n)
			return fmt.Sprintf("read %d: %q, %d", n, b, e)
		}
	case 2, 3, 4:
		b := text(most + 99)[roll(99):][:roll(most)]
		call = func(x retry.Raw) string {
			n, e := x.Write([]byte(b))
			return fmt.Sprintf("write %q: %d, %d", b, n, e)
		}
	case 5, 6:
		off, whence := roll(3*most)-most, roll(4)-roll(12)/11
		call = func(x retry.Raw) string {
			n, e := x.Seek(off, whence)
			return fmt.Sprintf("seek %d %d: %d, %d", off, whence, n, e)
		}
	default:
		n := outside[roll(len(outside))]
		call = func(x retry.Raw) string {
			b, e := x.Read(n)
			return fmt.Sprintf("read %d: %q, %d", n, b, e)
		}
	}
	var l []string
	for _, x := range all {
		s := call(x)
		if w, ok := x.(written); ok {
			s += fmt.Sprintf("; %q", w.Bytes())
		}
		place, e := x.Seek(0, 1)
		l = append(l, s+fmt.Sprintf("; at %d, %d", place, e))
	}
	return l
}

// wantAlike needs Raws that answer alike; the last one is what they are held against.
func wantAlike(t *testing.T, promise string, roll func(int) int, most int, all ...retry.Raw) {
	t.Helper()
	var run []string
	for range 60 {
		l := step(roll, most, all...)
		want := l[len(l)-1]
		run = append(run, want)
		for i, got := range l {
			if got != want {
				t.Fatalf("%s: %T: %s\nwhere %T is\n%s", promise, all[i], got, all[len(all)-1], strings.Join(run, "\n"))
			}
		}
	}
}

// TestAgainstModel: long runs of calls, some of them refused, on memories of little room (P10.2, P10.6).
func TestAgainstModel(t *testing.T) {
	for seed := range uint64(1500) {
		roll := dice(seed)
		size := roll(14)
		b := text(40)[roll(20):][:roll(size+1)]
		wantAlike(t, "P10.2", roll, 9, fixedOf(t, size, b), &model{data: []byte(b), room: size})
	}
}

// asRaw hides Bytes, which a Reader lacks.
type asRaw struct{ retry.Raw }

// TestReaderAgainstModel: likewise, of what is read alone (P10.2, P10.6).
func TestReaderAgainstModel(t *testing.T) {
	for seed := range uint64(500) {
		roll := dice(seed)
		b := text(40)[roll(20):][:roll(14)]
		wantAlike(t, "P10.2", roll, 9, readerOf(t, b), asRaw{&model{data: []byte(b), room: len(b), readOnly: true}})
	}
}

// TestFixedAndGrowing: alike, where there is room: of MaxFile at any time, of less as long as it is not met (P10.4).
func TestFixedAndGrowing(t *testing.T) {
	for seed := range uint64(300) {
		roll := dice(seed)
		b := text(40)[roll(20):][:roll(14)]
		wantAlike(t, "P10.4", roll, 9, fixedOf(t, api.MaxFile, b), growingOf(t, b), &model{data: []byte(b), room: api.MaxFile})
	}
	for seed := range uint64(300) {
		roll := dice(seed)
		b := text(40)[:roll(14)]
		// 60 steps go on by at most 17 places each, so that this room is not met.
		wantAlike(t, "P10.4", roll, 9, fixedOf(t, 2000, b), growingOf(t, b))
	}
}

// TestFixedAndGrowingAtTheEnd: alike at MaxFile too (P10.4).
func TestFixedAndGrowingAtTheEnd(t *testing.T) {
	for _, x := range bothOf(t, text(api.MaxFile-3)) {
		wantSeek(t, x, 1, 2, api.MaxFile-2, api.OK)
		wantWrite(t, x, "abc", 2, api.OK)
		wantWrite(t, x, "c", 0, api.ErrFull)
		wantSeek(t, x, 1, 1, 0, api.ErrRange)
		wantSeek(t, x, 1, 2, 0, api.ErrRange)
		wantSeek(t, x, -4, 2, api.MaxFile-4, api.OK)
		wantRead(t, x, 9, text(api.MaxFile)[api.MaxFile-4:api.MaxFile-3]+"\x00ab", api.OK)
	}
}

// TestAsAFile: a Growing answers as a kernel's file does, but that it meets no faults (P10.2).
func TestAsAFile(t *testing.T) {
	for seed := range uint64(300) {
		roll := dice(seed)
		b := text(40)[:roll(14)]
		k, e := kern.New(kern.Config{Files: []api.Named{{Name: "a", Data: []byte(b)}}})
		if e != api.OK {
			t.Fatalf("there is no kernel: %d", e)
		}
		d, e := k.Open("a", 1+2)
		if e != api.OK {
			t.Fatalf("there is no file: %d", e)
		}
		wantAlike(t, "P10.2", roll, 9, asRaw{growingOf(t, b)}, asRaw{kern.Handle{K: k, D: d}})
	}
}
