package kern

import (
	"strings"
	"testing"

	"millrace/api"
)

// TestEachFaultOfARead: its error, or how many bytes at most; of a file, a terminal and a pipe.
func TestEachFaultOfARead(t *testing.T) {
	for _, c := range []struct {
		words string
		n     int
		want  string
		e     api.Errno
	}{
		{"", 3, "abc", api.OK}, {"", 9, "abcdef", api.OK},
		{"f", 3, "abc", api.OK}, {"f", 9, "abcdef", api.OK},
		{"s1", 1, "a", api.OK}, {"s1", 2, "a", api.OK}, {"s1", api.MaxFile, "a", api.OK},
		{"s2", 1, "a", api.OK}, {"s2", 2, "ab", api.OK}, {"s2", 9, "ab", api.OK},
		{"s6", 9, "abcdef", api.OK}, {"s7", 9, "abcdef", api.OK}, {"s1048576", 2, "ab", api.OK},
		{"i", 3, "", api.ErrIntr}, {"a", 3, "", api.ErrAgain},
	} {
		k := kernelOf(t, Config{Files: []api.Named{aNamed("a", "abcdef")}, Terms: []api.Typed{aTyped("t", "abcdef")}, Faults: whims(t, "f "+strings.Repeat(c.words+" ", 3))})
		wantOpen(t, k, "a", 1, 1)
		wantOpen(t, k, "t", 1, 2)
		wantPipe(t, k, 3, 4)
		wantWrite(t, k, 4, "abcdef", 6)
		for d := 1; d <= 3; d++ {
			if c.e != api.OK {
				wantNoRead(t, k, d, c.n, c.e)
			} else {
				wantRead(t, k, d, c.n, c.want)
			}
			wantMet(t, k, d, 1, strings.TrimSpace(strings.Repeat(c.words+" ", 3-d)))
		}
		wantPlace(t, k, 1, len(c.want))
		for d := 1; d <= 3; d++ {
			if d == 3 && len(c.want) == 6 {
				wantNoRead(t, k, d, 9, api.ErrBlock)
			} else {
				wantRead(t, k, d, 9, "abcdef"[len(c.want):])
			}
		}
	}
}

// TestEachFaultOfAWrite: a pipe's small write is taken whole all the same.
func TestEachFaultOfAWrite(t *testing.T) {
	for _, c := range []struct {
		words string
		took  int
		e     api.Errno
	}{{"", 4, api.OK}, {"f", 4, api.OK}, {"s1", 1, api.OK}, {"s3", 3, api.OK}, {"s4", 4, api.OK}, {"s5", 4, api.OK}, {"s1048576", 4, api.OK}, {"i", 0, api.ErrIntr}, {"a", 0, api.ErrAgain}} {
		k := smallKernel(t, "hello", strings.Repeat(c.words+" ", 4))
		wantOpen(t, k, "a", 2, 1)
		wantOpen(t, k, "t", 2, 2)
		wantOpen(t, k, "a", 2+4, 3)
		wantPipe(t, k, 4, 5)
		for i, d := range []int{1, 2, 3, 5} {
			if c.e != api.OK {
				wantNoWrite(t, k, d, "ABCD", c.e)
			} else if d == 5 {
				wantWrite(t, k, d, "ABCD", 4)
			} else {
				wantWrite(t, k, d, "ABCD", c.took)
			}
			wantMet(t, k, 0, i+1, strings.TrimSpace(strings.Repeat(c.words+" ", 3-i)))
		}
		took := "ABCD"[:c.took]
		wantFiles(t, k, aNamed("a", took+"hello"[c.took:]+took))
		wantScreen(t, k, "t", took)
		wantPlace(t, k, 1, c.took)
		if c.e == api.OK {
			wantHeld(t, k, 5, "ABCD")
			wantPlace(t, k, 3, 5+c.took)
		} else {
			wantHeld(t, k, 5, "")
			wantPlace(t, k, 3, 0)
		}
	}
}

// TestPipeWriteAndFault: only one of more than PipeAtomic bytes is cut by a fault.
func TestPipeWriteAndFault(t *testing.T) {
	for _, c := range []struct {
		words         string
		held, n, took int
	}{
		{"s1", 0, 1, 1}, {"s1", 0, 2, 2}, {"s1", 0, 511, 511}, {"s511", 0, 512, 512}, {"s1", 0, 512, 512}, {"s1", 3584, 512, 512},
		{"s1", 0, 513, 1}, {"s512", 0, 513, 512}, {"s513", 0, 513, 513}, {"s600", 0, 513, 513},
		{"s600", 0, 5000, 600}, {"s4095", 0, 5000, 4095}, {"s5000", 0, 5000, 4096}, {"f", 0, api.MaxFile, 4096}, {"s1", 4095, 513, 1}, {"s2", 4095, 513, 1}, {"", 4000, 600, 96},
	} {
		k := smallKernel(t, "", strings.Repeat("f ", (c.held+511)/512)+c.words)
		wantPipe(t, k, 1, 2)
		held := text(c.held)
		for at := 0; at < c.held; at += 512 {
			piece := held[at:min(at+512, c.held)]
			wantWrite(t, k, 2, piece, len(piece))
		}
		b := strings.Repeat("#", c.n)
		wantWrite(t, k, 2, b, c.took)
		wantMet(t, k, 0, (c.held+511)/512+1, "")
		wantHeld(t, k, 1, held+b[:c.took])
	}
}

// TestWhichCallsMeetTheFault: those that are refused ahead of it, ask for nothing, or only look, do not.
func TestWhichCallsMeetTheFault(t *testing.T) {
	k := smallKernel(t, "hello", "i a s1 f")
	wantOpen(t, k, "a", 1+2, 1)
	wantOpen(t, k, "t", 1+2, 2)
	wantPipe(t, k, 3, 4)
	wantOpen(t, k, "a", 1+2+16, 5)
	for d := 1; d <= 5; d++ {
		k.Read(d, 0)
		k.Read(d, -1)
		k.Read(d, api.MaxFile+1)
		k.Write(d, nil)
		k.Write(d, make([]byte, api.MaxFile+1))
		k.Seek(d, 0, 2)
		k.Keep(d)
		k.Drop(d)
		k.CanRead(d)
		k.CanWrite(d, 1)
		k.Kind(d)
		k.Held(d)
	}
	k.Read(9, 1)
	k.Write(9, []byte("x"))
	wantNoRead(t, k, 3, 1, api.ErrBlock)
	wantNoRead(t, k, 4, 1, api.ErrMode)
	wantNoWrite(t, k, 3, "x", api.ErrMode)
	wantMet(t, k, 0, 0, "i a s1 f")
	// At a file's end, of a terminal and of a pipe that nobody fills any more, there is a fault to come to.
	wantNoRead(t, k, 1, 1, api.ErrIntr)
	wantMet(t, k, 1, 0, "a s1 f")
	wantNoWrite(t, k, 4, "xyz", api.ErrAgain)
	wantMet(t, k, 1, 1, "s1 f")
	wantDrop(t, k, 4, api.OK)
	wantRead(t, k, 3, 1, "")
	wantMet(t, k, 2, 1, "f")
	wantRead(t, k, 1, 1, "")
	wantMet(t, k, 3, 1, "")
	wantRead(t, k, 2, 9, "one\n")
	wantRead(t, k, 2, 9, "")
	wantWrite(t, k, 2, "x", 1)
	wantMet(t, k, 5, 2, "")
}

// TestRefusedByAFault: it is used up, and nothing else is changed (P6.9).
func TestRefusedByAFault(t *testing.T) {
	k := smallKernel(t, "hello", "f i a i a i a i a i a i a f i a")
	wantPipe(t, k, 1, 2)
	wantWrite(t, k, 2, "held", 4)
	wantOpen(t, k, "a", 1+2, 3)
	wantOpen(t, k, "t", 1+2, 4)
	wantOpen(t, k, "a", 2+4, 5)
	wantSeek(t, k, 3, 2, 0, 2)
	wantSeek(t, k, 5, 3, 0, 3)
	for _, d := range []int{1, 3, 4} {
		wantNoRead(t, k, d, 9, api.ErrIntr)
		wantNoRead(t, k, d, 9, api.ErrAgain)
	}
	for _, d := range []int{2, 3, 5} {
		wantNoWrite(t, k, d, "xyz", api.ErrIntr)
		wantNoWrite(t, k, d, "xyz", api.ErrAgain)
	}
	wantMet(t, k, 6, 7, "f i a")
	wantHeld(t, k, 1, "held")
	wantPlace(t, k, 3, 2)
	wantPlace(t, k, 5, 3)
	wantFiles(t, k, aNamed("a", "hello"))
	wantRead(t, k, 4, 9, "one\n")
	wantNoWrite(t, k, 4, "xyz", api.ErrIntr)
	wantNoWrite(t, k, 4, "xyz", api.ErrAgain)
	wantScreen(t, k, "t", "")
	wantRead(t, k, 1, 9, "held")
	wantWrite(t, k, 5, "!", 1)
	wantRead(t, k, 3, 9, "llo!")
	wantMet(t, k, 9, 10, "")
}

// TestPipeWaits: a read of an empty pipe and a write without room wait while the other end is there, whatever the faults are.
func TestPipeWaits(t *testing.T) {
	k := smallKernel(t, "", "")
	wantPipe(t, k, 1, 2)
	wantNoRead(t, k, 1, 1, api.ErrBlock)
	wantRead(t, k, 1, 0, "")
	wantCan(t, k, 1, 1, false, false)
	wantCan(t, k, 2, 1, false, true)
	wantWrite(t, k, 2, text(4000), 4000)
	wantNoWrite(t, k, 2, text(100), api.ErrBlock)
	wantCan(t, k, 2, 96, false, true)
	wantCan(t, k, 2, 97, false, false)
	wantCan(t, k, 2, 512, false, false)
	wantCan(t, k, 2, 513, false, true)
	wantWrite(t, k, 2, text(600), 96)
	for _, n := range []int{1, 512, 513, api.MaxFile} {
		wantNoWrite(t, k, 2, text(n), api.ErrBlock)
		wantCan(t, k, 2, n, false, false)
	}
	wantWrite(t, k, 2, "", 0)
	wantCan(t, k, 1, 1, true, false)
	wantMet(t, k, 0, 2, "")
	wantRead(t, k, 1, 1, text(1))
	wantWrite(t, k, 2, "x", 1)
	wantRead(t, k, 1, api.MaxFile, text(4000)[1:]+text(96)+"x")
	wantNoRead(t, k, 1, api.MaxFile, api.ErrBlock)
	wantMet(t, k, 2, 3, "")
}

// TestPipeEndsLeave: an end leaves with the last one that holds it, not ahead.
func TestPipeEndsLeave(t *testing.T) {
	k := smallKernel(t, "", "")
	wantPipe(t, k, 1, 2)
	wantKeep(t, k, 2, api.OK)
	wantDrop(t, k, 2, api.OK)
	wantNoRead(t, k, 1, 1, api.ErrBlock)
	wantWrite(t, k, 2, "last", 4)
	wantDrop(t, k, 2, api.OK)
	wantCan(t, k, 1, 1, true, false)
	wantHeld(t, k, 1, "last")
	wantRead(t, k, 1, 3, "las")
	wantRead(t, k, 1, 3, "t")
	wantRead(t, k, 1, 3, "")
	wantCan(t, k, 1, 1, true, false)
	wantKind(t, k, 1, 3)

	wantPipe(t, k, 3, 4)
	wantWrite(t, k, 4, "unread", 6)
	wantKeep(t, k, 3, api.OK)
	wantDrop(t, k, 3, api.OK)
	wantWrite(t, k, 4, "!", 1)
	wantDrop(t, k, 3, api.OK)
	_, writes := k.Calls()
	for _, n := range []int{1, 512, 513, api.MaxFile} {
		wantNoWrite(t, k, 4, text(n), api.ErrPipe)
		wantCan(t, k, 4, n, false, true)
	}
	wantWrite(t, k, 4, "", 0)
	wantHeld(t, k, 4, "unread!")
	if _, w := k.Calls(); w != writes {
		t.Errorf("P6.3: a write that nobody reads came to a fault: %d; want %d", w, writes)
	}
	wantHeld(t, k, 1, "")
}

// TestFullPipeWithoutReader: nobody reads any more goes ahead of there is no room.
func TestFullPipeWithoutReader(t *testing.T) {
	k := smallKernel(t, "", "")
	wantPipe(t, k, 1, 2)
	wantWrite(t, k, 2, text(5000), 4096)
	wantNoWrite(t, k, 2, "x", api.ErrBlock)
	wantDrop(t, k, 1, api.OK)
	wantNoWrite(t, k, 2, "x", api.ErrPipe)
	wantNoWrite(t, k, 2, text(513), api.ErrPipe)
	wantCan(t, k, 2, 1, false, true)
	wantHeld(t, k, 2, text(4096))
}

// TestPipesAreApart: each pipe has its own bytes and ends.
func TestPipesAreApart(t *testing.T) {
	k := smallKernel(t, "", "")
	wantPipe(t, k, 1, 2)
	wantPipe(t, k, 3, 4)
	wantWrite(t, k, 2, "one", 3)
	wantWrite(t, k, 4, "two", 3)
	wantRead(t, k, 3, 9, "two")
	wantDrop(t, k, 3, api.OK)
	wantNoWrite(t, k, 4, "x", api.ErrPipe)
	wantWrite(t, k, 2, "!", 1)
	wantRead(t, k, 1, 9, "one!")
	wantNoRead(t, k, 1, 9, api.ErrBlock)
}

// TestCan: of what is there and open for that; a file and a terminal never wait.
func TestCan(t *testing.T) {
	k := smallKernel(t, "", "i a")
	wantOpen(t, k, "a", 1, 1)
	wantOpen(t, k, "a", 2, 2)
	wantOpen(t, k, "a", 1+2+4, 3)
	wantOpen(t, k, "t", 1, 4)
	wantOpen(t, k, "t", 2, 5)
	wantOpen(t, k, "t", 1+2, 6)
	wantPipe(t, k, 7, 8)
	wantSeek(t, k, 2, api.MaxFile, 0, api.MaxFile)
	for d, c := range []struct{ read, write bool }{{false, false}, {true, false}, {false, true}, {true, true}, {true, false}, {false, true}, {true, true}, {false, false}, {false, true}, {false, false}} {
		for _, n := range []int{1, 2, 512, 513, api.MaxFile} {
			wantCan(t, k, d, n, c.read, c.write)
		}
		for _, n := range append([]int{0, -1, api.MaxFile + 1}, far...) {
			wantCan(t, k, d, n, c.read, false)
		}
	}
	for _, d := range append([]int{-1}, far...) {
		wantCan(t, k, d, 1, false, false)
	}
	wantMet(t, k, 0, 0, "i a")
}
