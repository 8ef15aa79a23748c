package retry

import (
	"bytes"
	"testing"

	"millrace/api"
)

// keeper is a Raw that answers pieces of memory of its own, which it keeps and overwrites, and that keeps and overwrites what it is handed.
type keeper struct {
	memory []byte
	at     int
	piece  int
	// taken are copies of what was taken; held is what was handed itself.
	taken []byte
	held  [][]byte
	// tries is how often it says that a write is to be tried again ahead of each that takes something.
	tries, left int
}

func (x *keeper) Read(n int) ([]byte, api.Errno) {
	b := x.memory[x.at:min(len(x.memory), x.at+min(n, x.piece))]
	x.at += len(b)
	return b, api.OK
}

func (x *keeper) Write(b []byte) (int, api.Errno) {
	n := min(len(b), x.piece)
	got := bytes.Clone(b[:n])
	x.held = append(x.held, b[:cap(b)])
	for _, h := range x.held {
		overwrite(h)
	}
	if x.left > 0 {
		x.left--
		return n, api.ErrIntr
	}
	x.left = x.tries
	x.taken = append(x.taken, got...)
	return n, api.OK
}

func (x *keeper) Seek(off int, whence int) (int, api.Errno) {
	return 0, api.ErrSeek
}

func overwrite(b []byte) {
	for i := range b {
		b[i] = '?'
	}
}

// TestReadIsNewMemory: what Some and All answer is not the Raw's, nor another answer's (P8.6).
func TestReadIsNewMemory(t *testing.T) {
	for _, piece := range []int{1, 2, 5, 99} {
		for name, read := range map[string]func(Raw, int) ([]byte, api.Errno){"Some": Some, "All": All} {
			x := &keeper{memory: []byte("hello, you"), piece: piece}
			one, e1 := read(x, 5)
			two, e2 := read(x, 5)
			if e1 != api.OK || e2 != api.OK || len(one) == 0 || len(two) == 0 {
				t.Fatalf("%s: %q, %d, %q, %d", name, one, e1, two, e2)
			}
			was := string(two)
			overwrite(one[:cap(one)])
			if string(two) != was || string(x.memory) != "hello, you" {
				t.Errorf("P8.6: %s: what is answered is another's: %q, %q", name, two, x.memory)
			}
			overwrite(x.memory)
			if string(two) != was {
				t.Errorf("P8.6: %s: what is answered is the Raw's: %q", name, two)
			}
		}
	}
}

// TestPutIsNotChanged: the bytes that are put stay as they are, whatever the Raw does with what it is handed, and each write is handed the right ones (P8.6).
func TestPutIsNotChanged(t *testing.T) {
	for _, tries := range []int{0, 1, 3} {
		for _, piece := range []int{1, 2, 4, 5, 99} {
			x := &keeper{piece: piece, tries: tries, left: tries}
			given := []byte("hello, and room")
			n, e := Put(x, given[:5])
			if n != 5 || e != api.OK || string(x.taken) != "hello" {
				t.Errorf("P8.6: Put in pieces of %d: %d, %d, taken %q", piece, n, e, x.taken)
			}
			if string(given) != "hello, and room" {
				t.Errorf("P8.6: what was handed in was changed: %q", given)
			}
			for _, h := range x.held {
				overwrite(h)
			}
			if string(given) != "hello, and room" {
				t.Errorf("P8.6: what was handed in is kept by the Raw: %q", given)
			}
		}
	}
}

// TestPutIsNotKept: what the Raw was handed does not change when the caller's bytes do (P8.6).
func TestPutIsNotKept(t *testing.T) {
	x := &collector{}
	given := []byte("hello")
	if n, e := Put(x, given); n != 5 || e != api.OK {
		t.Fatalf("P8.3: Put: %d, %d", n, e)
	}
	overwrite(given)
	for i, want := range []string{"hello", "ello", "llo", "lo", "o"} {
		if string(x.held[i]) != want {
			t.Errorf("P8.6: write %d was handed %q, not %q", i, x.held[i], want)
		}
	}
}

// collector takes one byte at a time, and keeps what it is handed as it is.
type collector struct {
	held [][]byte
}

func (x *collector) Read(n int) ([]byte, api.Errno) {
	return nil, api.OK
}

func (x *collector) Write(b []byte) (int, api.Errno) {
	x.held = append(x.held, b)
	return 1, api.OK
}

func (x *collector) Seek(off int, whence int) (int, api.Errno) {
	return 0, api.OK
}

// TestSameCallsSameAnswers: what is answered hangs on the Raw and the arguments alone (P3).
func TestSameCallsSameAnswers(t *testing.T) {
	for range 4 {
		s := reads(api.ErrIntr, "ab", "c", api.ErrPipe, "d")
		wantAll(t, s, 4, "abc", api.ErrPipe)
		wantAll(t, s, 4, "d", api.OK)
		s = writes(1, api.ErrAgain, 0, api.ErrPipe)
		wantPut(t, s, "abcd", 1, api.ErrPipe)
		wantPut(t, s, "bcd", 3, api.OK)
	}
}
