package fdtable

import (
	"testing"

	"millrace/api"
)

// TestListIsNewMemory: neither a list nor the room behind it is the table's, or another answer's (P7.8).
func TestListIsNewMemory(t *testing.T) {
	x := filled(t, kernelOf(t, ""), 5)
	one, two := x.List(), x.List()
	_ = append(one, 77, 78, 79)
	for i := range one {
		one[i] = 99
	}
	for i, fd := range two {
		if fd != i {
			t.Errorf("P7.8: another answer was changed: %v", two)
		}
	}
	wantList(t, x, 0, 1, 2, 3, 4)
	wantDup(t, x, 0, 5)
	wantList(t, x, 0, 1, 2, 3, 4, 5)
}

// TestBytesAreNewMemory: what is read shares nothing with the kernel, what is written is neither kept nor changed (P7.8).
func TestBytesAreNewMemory(t *testing.T) {
	k := kernelOf(t, "")
	x := tableOver(t, k)
	wantOpen(t, x, "a", 1+2, 0)
	wantPipe(t, x, 1, 2)
	b, e := x.Read(0, 3)
	if e != api.OK || string(b) != "hel" {
		t.Fatalf("P7.3: Read: %q, %d", b, e)
	}
	_ = append(b, "????"...)
	clear(b)
	wantSeek(t, x, 0, 0, 0, 0)
	wantRead(t, x, 0, 9, "hello")
	for _, c := range []struct{ in, out int }{{0, 0}, {2, 1}} {
		wantSeek(t, x, 0, 0, 0, 0)
		given := []byte("bytes, and room")
		if n, e := x.Write(c.in, given[:5]); n != 5 || e != api.OK {
			t.Fatalf("P7.3: Write: %d, %d", n, e)
		}
		wantWrite(t, x, c.in, "#", 1)
		if string(given) != "bytes, and room" {
			t.Errorf("P7.8: what was handed in was changed: %q", given)
		}
		clear(given)
		wantSeek(t, x, 0, 0, 0, 0)
		wantRead(t, x, c.out, 9, "bytes#")
	}
}

// TestTablesShareTheKernelAlone: two tables over one kernel have descriptors of their own (P7.1, P7.8).
func TestTablesShareTheKernelAlone(t *testing.T) {
	k := kernelOf(t, "")
	x, y := tableOver(t, k), tableOver(t, k)
	wantOpen(t, x, "a", 1+2, 0)
	wantList(t, y)
	wantOpen(t, y, "a", 1, 0)
	wantDesc(t, y, 0, 2)
	wantWrite(t, x, 0, "J", 1)
	wantRead(t, y, 0, 9, "Jello")
	wantClose(t, x, 0, api.OK)
	wantList(t, y, 0)
	wantInstall(t, x, 2, 0)
	y.CloseAll()
	wantSeek(t, x, 0, 0, 1, 5)
}

// TestSameCallsSameAnswers: two tables that were called alike answer alike (P3).
func TestSameCallsSameAnswers(t *testing.T) {
	var was string
	for i := range 4 {
		k := kernelOf(t, "s1 i")
		x := filled(t, k, 9)
		wantPipe(t, x, 9, 10)
		wantClose(t, x, 3, api.OK)
		f := forkOf(t, x)
		wantRead(t, f, 4, 5, "h")
		is := told(t, k, x, f)
		if i > 0 && is != was {
			t.Errorf("P3: %s, was %s", is, was)
		}
		was = is
	}
}
