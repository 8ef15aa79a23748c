package fdtable

import (
	"testing"

	"millrace/api"
)

func forkOf(t *testing.T, x *Table) *Table {
	t.Helper()
	f := x.Fork()
	if f == nil || f == x {
		t.Fatalf("P7.3: Fork: %v", f)
	}
	return f
}

// TestFork: what is not marked, at the same numbers, kept once more (P7.3).
func TestFork(t *testing.T) {
	k := kernelOf(t, "")
	x := tableOver(t, k)
	wantOpen(t, x, "a", 1, 0)
	wantOpen(t, x, "b", 1, 1)
	wantDupTo(t, x, 0, api.MaxFds-1, api.OK)
	wantDupTo(t, x, 1, 7, api.OK)
	wantMark(t, x, 1, true)
	wantMark(t, x, 0, true)
	wantMark(t, x, 0, false)
	f := forkOf(t, x)
	wantList(t, f, 0, 7, api.MaxFds-1)
	wantDesc(t, f, 0, 1)
	wantDesc(t, f, 7, 2)
	wantDesc(t, f, api.MaxFds-1, 1)
	for _, fd := range f.List() {
		wantMarked(t, f, fd, false)
	}
	wantHolders(t, k, 1, 4)
	wantHolders(t, k, 2, 3)
	wantList(t, x, 0, 1, 7, api.MaxFds-1)
	wantMarked(t, x, 1, true)
	wantFd(t, f, 1, api.ErrFd)
	wantOpen(t, f, "a", 1, 1)
}

// TestForkOfNoneAndOfAll: nothing to inherit, all of it, all of it marked (P7.3).
func TestForkOfNoneAndOfAll(t *testing.T) {
	k := kernelOf(t, "")
	wantList(t, forkOf(t, tableOver(t, k)))
	x := filled(t, k, api.MaxFds)
	f := forkOf(t, x)
	wantList(t, f, x.List()...)
	wantNoOpen(t, f, "a", 1, api.ErrFull)
	wantHolders(t, k, 1, 2*api.MaxFds)
	for fd := range api.MaxFds {
		wantMark(t, x, fd, true)
	}
	wantList(t, forkOf(t, x))
	wantHolders(t, k, 1, 2*api.MaxFds)
}

// TestForksAreApart: what the one opens, closes and marks the other does not see (P7.3, P7.8).
func TestForksAreApart(t *testing.T) {
	k := kernelOf(t, "")
	x := filled(t, k, 3)
	f := forkOf(t, x)
	wantClose(t, f, 0, api.OK)
	wantMark(t, f, 1, true)
	wantList(t, x, 0, 1, 2)
	wantMarked(t, x, 1, false)
	wantOpen(t, x, "b", 1, 3)
	wantMark(t, x, 2, true)
	wantClose(t, x, 1, api.OK)
	wantList(t, f, 1, 2)
	wantMarked(t, f, 2, false)
	wantOpen(t, f, "c", 1, 0)
	wantOpen(t, f, "c", 1, 3)
	wantRead(t, x, 3, 9, "bee")
	wantDupTo(t, f, 0, 2, api.OK)
	wantDesc(t, x, 2, 1)
	x.CloseAll()
	wantList(t, f, 0, 1, 2, 3)
	wantRead(t, f, 1, 9, "hello")
	wantHolders(t, k, 1, 1)
	f.CloseAll()
	wantHolders(t, k, 1, 0)
}

// TestForkOfAFork: it inherits what its parent has, and no mark (P7.3).
func TestForkOfAFork(t *testing.T) {
	k := kernelOf(t, "")
	x := filled(t, k, 4)
	wantMark(t, x, 0, true)
	f := forkOf(t, x)
	wantMark(t, f, 1, true)
	g := forkOf(t, f)
	wantList(t, f, 1, 2, 3)
	wantList(t, g, 2, 3)
	wantMarked(t, g, 2, false)
	wantHolders(t, k, 1, 9)
	f.CloseAll()
	wantRead(t, g, 2, 2, "he")
	wantRead(t, x, 0, 9, "llo")
	x.CloseAll()
	wantHolders(t, k, 1, 2)
	wantClose(t, g, 2, api.OK)
	wantClose(t, g, 3, api.OK)
	wantHolders(t, k, 1, 0)
}

// TestOnePlace: a duplicate, and what a fork inherits, share the place; another description has its own (P7.5).
func TestOnePlace(t *testing.T) {
	x := tableOver(t, kernelOf(t, ""))
	wantOpen(t, x, "a", 1+2, 0)
	wantDup(t, x, 0, 1)
	wantDupTo(t, x, 1, 9, api.OK)
	wantInstall(t, x, descOf(t, x, 0), 2)
	f := forkOf(t, x)
	wantOpen(t, x, "a", 1, 3)
	wantRead(t, x, 0, 1, "h")
	wantRead(t, x, 1, 1, "e")
	wantRead(t, f, 0, 1, "l")
	wantRead(t, x, 9, 1, "l")
	wantRead(t, f, 9, 1, "o")
	wantSeek(t, f, 1, 0, 1, 5)
	wantWrite(t, f, 2, "!", 1)
	wantSeek(t, x, 2, 0, 1, 6)
	wantSeek(t, f, 0, 2, 0, 2)
	wantRead(t, x, 2, 9, "llo!")
	wantRead(t, x, 3, 9, "hello!")
	wantClose(t, x, 0, api.OK)
	wantSeek(t, x, 1, 0, 1, 6)
}

// TestPipeOfAParent: a parent's and a child's ends of one pipe; its other end when all have closed all (P7.5, P7.6).
func TestPipeOfAParent(t *testing.T) {
	k := kernelOf(t, "")
	x := tableOver(t, k)
	wantPipe(t, x, 0, 1)
	f := forkOf(t, x)
	wantClose(t, x, 1, api.OK)
	wantClose(t, f, 0, api.OK)
	wantWrite(t, f, 1, "up", 2)
	wantRead(t, x, 0, 9, "up")
	wantNoRead(t, x, 0, 9, api.ErrBlock)
	g := forkOf(t, f)
	f.CloseAll()
	wantNoRead(t, x, 0, 9, api.ErrBlock)
	wantWrite(t, g, 1, "last", 4)
	g.CloseAll()
	wantRead(t, x, 0, 9, "last")
	wantRead(t, x, 0, 9, "")
	x.CloseAll()
	for d := 1; d <= 2; d++ {
		wantHolders(t, k, d, 0)
	}
	wantPipe(t, x, 0, 1)
	f = forkOf(t, x)
	wantClose(t, x, 0, api.OK)
	wantWrite(t, x, 1, "x", 1)
	wantClose(t, f, 0, api.OK)
	wantNoWrite(t, x, 1, "x", api.ErrPipe)
	wantNoWrite(t, f, 1, "x", api.ErrPipe)
}

// TestMarkedEndEnds: a child that does not inherit the writing end lets the pipe end (P7.3, P7.6).
func TestMarkedEndEnds(t *testing.T) {
	k := kernelOf(t, "")
	x := tableOver(t, k)
	wantPipe(t, x, 0, 1)
	wantMark(t, x, 1, true)
	f := forkOf(t, x)
	wantList(t, f, 0)
	wantNoRead(t, f, 0, 1, api.ErrBlock)
	wantClose(t, x, 1, api.OK)
	wantRead(t, f, 0, 1, "")
}
