package fdtable

import (
	"fmt"
	"math"
	"slices"
	"testing"

	"millrace/api"
	"millrace/faults"
	"millrace/kern"
)

// mostHolders is how many may hold one of the kernel's descriptions.
const mostHolders = 1024

// outside are numbers that are nobody's descriptor.
var outside = []int{-1, -2, api.MaxFds, api.MaxFds + 1, -api.MaxFds, 255, 256, -1 << 32, 1 << 32, 1<<32 + 1, math.MinInt, math.MinInt + 1, math.MaxInt32, math.MaxInt - 1, math.MaxInt}

// kernelOf has the files a, b, c and the terminal t, and meets the faults that the words tell.
func kernelOf(t *testing.T, words string) *kern.Kernel {
	t.Helper()
	l, e, _ := faults.Parse(words)
	if e != api.OK {
		t.Fatalf("%q are no faults: %d", words, e)
	}
	k, e := kern.New(kern.Config{
		Files:  []api.Named{{Name: "a", Data: []byte("hello")}, {Name: "b", Data: []byte("bee")}, {Name: "c"}},
		Terms:  []api.Typed{{Name: "t", Lines: [][]byte{[]byte("typed\n"), []byte("more\n")}}},
		Faults: l,
	})
	if e != api.OK {
		t.Fatalf("there is no kernel: %d", e)
	}
	return k
}

func tableOver(t *testing.T, k *kern.Kernel) *Table {
	t.Helper()
	x := New(k)
	if x == nil {
		t.Fatal("P7.1: New: nil")
	}
	wantList(t, x)
	return x
}

// holders answers how many hold a description: as many as must not be added to fill it up.
func holders(t *testing.T, k *kern.Kernel, d int) int {
	t.Helper()
	if k.Kind(d) == 0 {
		return 0
	}
	added := 0
	for added <= mostHolders && k.Keep(d) == api.OK {
		added++
	}
	for range added {
		k.Drop(d)
	}
	return mostHolders - added
}

func wantHolders(t *testing.T, k *kern.Kernel, d int, want int) {
	t.Helper()
	if got := holders(t, k, d); got != want {
		t.Errorf("description %d: %d hold it, not %d", d, got, want)
	}
}

func wantList(t *testing.T, x *Table, want ...int) {
	t.Helper()
	if got := x.List(); !slices.Equal(got, want) {
		t.Errorf("P7.3: List: %v, not %v", got, want)
	}
}

func wantOpen(t *testing.T, x *Table, name string, flags int, want int) {
	t.Helper()
	fd, e := x.Open(name, flags)
	if fd != want || e != api.OK {
		t.Fatalf("P7.1: Open(%q, %d): %d, %d, not %d", name, flags, fd, e, want)
	}
	wantMarked(t, x, fd, false)
}

func wantNoOpen(t *testing.T, x *Table, name string, flags int, want api.Errno) {
	t.Helper()
	if fd, e := x.Open(name, flags); fd != 0 || e != want {
		t.Errorf("P7.1: Open(%q, %d): %d, %d, not 0, %d", name, flags, fd, e, want)
	}
}

func wantPipe(t *testing.T, x *Table, r int, w int) {
	t.Helper()
	gr, gw, e := x.Pipe()
	if gr != r || gw != w || e != api.OK {
		t.Fatalf("P7.1: Pipe: %d, %d, %d, not %d, %d", gr, gw, e, r, w)
	}
	wantMarked(t, x, r, false)
	wantMarked(t, x, w, false)
}

func wantNoPipe(t *testing.T, x *Table, want api.Errno) {
	t.Helper()
	if r, w, e := x.Pipe(); r != 0 || w != 0 || e != want {
		t.Errorf("P7.1: Pipe: %d, %d, %d, not 0, 0, %d", r, w, e, want)
	}
}

func wantInstall(t *testing.T, x *Table, d int, want int) {
	t.Helper()
	if fd, e := x.Install(d); fd != want || e != api.OK {
		t.Fatalf("P7.1: Install(%d): %d, %d, not %d", d, fd, e, want)
	}
	wantMarked(t, x, want, false)
	wantDesc(t, x, want, d)
}

func wantNoInstall(t *testing.T, x *Table, d int, want api.Errno) {
	t.Helper()
	if fd, e := x.Install(d); fd != 0 || e != want {
		t.Errorf("P7.1: Install(%d): %d, %d, not 0, %d", d, fd, e, want)
	}
}

func wantClose(t *testing.T, x *Table, fd int, want api.Errno) {
	t.Helper()
	if e := x.Close(fd); e != want {
		t.Errorf("P7.2: Close(%d): %d, not %d", fd, e, want)
	}
}

func wantDup(t *testing.T, x *Table, fd int, want int) {
	t.Helper()
	got, e := x.Dup(fd)
	if got != want || e != api.OK {
		t.Fatalf("P7.2: Dup(%d): %d, %d, not %d", fd, got, e, want)
	}
	wantMarked(t, x, got, false)
	wantDesc(t, x, got, descOf(t, x, fd))
}

func wantNoDup(t *testing.T, x *Table, fd int, want api.Errno) {
	t.Helper()
	if got, e := x.Dup(fd); got != 0 || e != want {
		t.Errorf("P7.2: Dup(%d): %d, %d, not 0, %d", fd, got, e, want)
	}
}

func wantDupTo(t *testing.T, x *Table, fd int, to int, want api.Errno) {
	t.Helper()
	if e := x.DupTo(fd, to); e != want {
		t.Errorf("P7.2: DupTo(%d, %d): %d, not %d", fd, to, e, want)
	}
}

func wantMark(t *testing.T, x *Table, fd int, on bool) {
	t.Helper()
	if e := x.Mark(fd, on); e != api.OK {
		t.Errorf("P7.2: Mark(%d, %v): %d", fd, on, e)
	}
	wantMarked(t, x, fd, on)
}

func wantMarked(t *testing.T, x *Table, fd int, want bool) {
	t.Helper()
	if got, e := x.Marked(fd); got != want || e != api.OK {
		t.Errorf("P7.2: Marked(%d): %v, %d, not %v", fd, got, e, want)
	}
}

func descOf(t *testing.T, x *Table, fd int) int {
	t.Helper()
	d, e := x.Desc(fd)
	if e != api.OK {
		t.Fatalf("P7.2: Desc(%d): %d, %d", fd, d, e)
	}
	return d
}

func wantDesc(t *testing.T, x *Table, fd int, want int) {
	t.Helper()
	if d := descOf(t, x, fd); d != want {
		t.Errorf("P7.2: Desc(%d): %d, not %d", fd, d, want)
	}
}

func wantRead(t *testing.T, x *Table, fd int, n int, want string) {
	t.Helper()
	if b, e := x.Read(fd, n); string(b) != want || e != api.OK {
		t.Errorf("P7.3: Read(%d, %d): %q, %d, not %q", fd, n, b, e, want)
	}
}

func wantNoRead(t *testing.T, x *Table, fd int, n int, want api.Errno) {
	t.Helper()
	if b, e := x.Read(fd, n); len(b) != 0 || e != want {
		t.Errorf("P7.3: Read(%d, %d): %q, %d, not none, %d", fd, n, b, e, want)
	}
}

func wantWrite(t *testing.T, x *Table, fd int, b string, want int) {
	t.Helper()
	if n, e := x.Write(fd, []byte(b)); n != want || e != api.OK {
		t.Errorf("P7.3: Write(%d, %q): %d, %d, not %d", fd, b, n, e, want)
	}
}

func wantNoWrite(t *testing.T, x *Table, fd int, b string, want api.Errno) {
	t.Helper()
	if n, e := x.Write(fd, []byte(b)); n != 0 || e != want {
		t.Errorf("P7.3: Write(%d, %q): %d, %d, not 0, %d", fd, b, n, e, want)
	}
}

func wantSeek(t *testing.T, x *Table, fd int, off int, whence int, want int) {
	t.Helper()
	if n, e := x.Seek(fd, off, whence); n != want || e != api.OK {
		t.Errorf("P7.3: Seek(%d, %d, %d): %d, %d, not %d", fd, off, whence, n, e, want)
	}
}

func wantNoSeek(t *testing.T, x *Table, fd int, off int, whence int, want api.Errno) {
	t.Helper()
	if n, e := x.Seek(fd, off, whence); n != 0 || e != want {
		t.Errorf("P7.3: Seek(%d, %d, %d): %d, %d, not 0, %d", fd, off, whence, n, e, want)
	}
}

// wantFd asks that each call that is given a descriptor answers that one so.
func wantFd(t *testing.T, x *Table, fd int, want api.Errno) {
	t.Helper()
	wantClose(t, x, fd, want)
	wantNoDup(t, x, fd, want)
	wantDupTo(t, x, fd, 3, want)
	wantDupTo(t, x, fd, fd, want)
	for _, on := range []bool{true, false} {
		if e := x.Mark(fd, on); e != want {
			t.Errorf("P7.2: Mark(%d, %v): %d, not %d", fd, on, e, want)
		}
	}
	if m, e := x.Marked(fd); m || e != want {
		t.Errorf("P7.2: Marked(%d): %v, %d, not false, %d", fd, m, e, want)
	}
	if d, e := x.Desc(fd); d != 0 || e != want {
		t.Errorf("P7.2: Desc(%d): %d, %d, not 0, %d", fd, d, e, want)
	}
	for _, n := range []int{0, 1, -1, math.MaxInt} {
		wantNoRead(t, x, fd, n, want)
		wantNoSeek(t, x, fd, n, 0, want)
		wantNoSeek(t, x, fd, 0, n, want)
	}
	wantNoWrite(t, x, fd, "", want)
	wantNoWrite(t, x, fd, "xyz", want)
}

// filled is a table of n descriptors of one description, which is the kernel's first.
func filled(t *testing.T, k *kern.Kernel, n int) *Table {
	t.Helper()
	x := tableOver(t, k)
	wantOpen(t, x, "a", 1+2, 0)
	for fd := 1; fd < n; fd++ {
		wantDup(t, x, 0, fd)
	}
	return x
}

// told is all that can be asked of tables and of their kernel without a change.
func told(t *testing.T, k *kern.Kernel, tables ...*Table) string {
	t.Helper()
	s := ""
	for _, x := range tables {
		s += "table:"
		for _, fd := range x.List() {
			m, e := x.Marked(fd)
			d, f := x.Desc(fd)
			s += fmt.Sprint(" ", fd, m, e, d, f)
		}
		s += "\n"
	}
	for d := range 4 * api.MaxDescs {
		if k.Kind(d) != 0 {
			place, e := k.Seek(d, 0, 1)
			s += fmt.Sprintln(d, k.Kind(d), holders(t, k, d), place, e, k.Held(d))
		}
	}
	r, w := k.Calls()
	return s + fmt.Sprint(r, w, k.Rest(), k.Files())
}

// TestExample1: the chapter's example.
func TestExample1(t *testing.T) {
	x := tableOver(t, kernelOf(t, ""))
	wantOpen(t, x, "a", 1, 0)
	wantDup(t, x, 0, 1)
	wantClose(t, x, 0, api.OK)
	wantOpen(t, x, "b", 1, 0)
	wantDupTo(t, x, 1, 5, api.OK)
	wantMark(t, x, 1, true)
	wantList(t, x.Fork(), 0, 5)
}

// TestNewIsEmpty: no descriptor is in use, whichever it is (P7.1, P7.2, P7.3).
func TestNewIsEmpty(t *testing.T) {
	x := tableOver(t, kernelOf(t, ""))
	for fd := range api.MaxFds {
		wantFd(t, x, fd, api.ErrFd)
	}
	for _, fd := range outside {
		wantFd(t, x, fd, api.ErrFd)
	}
	x.CloseAll()
	wantList(t, x)
	wantOpen(t, x, "a", 1, 0)
	wantList(t, x, 0)
	if y := New(kernelOf(t, "")); y == x || len(y.List()) != 0 {
		t.Error("P7.1: New: not another empty one")
	}
}

// TestNotMade: what no New made, and what has no kernel, answers ErrMade to all (P7.1, P7.3).
func TestNotMade(t *testing.T) {
	for i, x := range []*Table{nil, {}, new(Table), New(nil)} {
		if i == 3 && x == nil {
			t.Error("P7.1: New(nil): no table")
		}
		for _, fd := range append(outside, 0, 1, api.MaxFds-1) {
			wantFd(t, x, fd, api.ErrMade)
			wantNoInstall(t, x, fd, api.ErrMade)
			wantNoOpen(t, x, "a", fd, api.ErrMade)
			wantDupTo(t, x, 0, fd, api.ErrMade)
		}
		wantNoOpen(t, x, "a", 1, api.ErrMade)
		wantNoOpen(t, x, "", 1, api.ErrMade)
		wantNoPipe(t, x, api.ErrMade)
		if f := x.Fork(); f != nil {
			t.Errorf("P7.3: Fork: %v, not nil", f)
		}
		x.CloseAll()
		wantList(t, x)
	}
}

// TestKernelNotMade: a kernel that no New made refuses all that reaches it (P7.1, P7.2, P7.3).
func TestKernelNotMade(t *testing.T) {
	x := New(&kern.Kernel{})
	for range 2 {
		wantNoOpen(t, x, "a", 1, api.ErrMade)
		wantNoPipe(t, x, api.ErrMade)
		wantNoInstall(t, x, 1, api.ErrMade)
		wantFd(t, x, 0, api.ErrFd)
		wantList(t, x)
		x.CloseAll()
		if f := x.Fork(); f == nil || len(f.List()) != 0 {
			t.Errorf("P7.3: Fork: %v, not an empty table", f)
		}
	}
}

// TestOpen: descriptors rise from 0 on, each of a description of its own (P7.1).
func TestOpen(t *testing.T) {
	k := kernelOf(t, "")
	x := tableOver(t, k)
	for fd := range api.MaxFds {
		wantOpen(t, x, "a", 1, fd)
		wantDesc(t, x, fd, fd+1)
		wantHolders(t, k, fd+1, 1)
	}
	was := told(t, k, x)
	wantNoOpen(t, x, "a", 1, api.ErrFull)
	wantNoOpen(t, x, "", 1, api.ErrFull)
	wantNoOpen(t, x, "new", 2+8, api.ErrFull)
	wantNoOpen(t, x, "a", 0, api.ErrFull)
	if is := told(t, k, x); is != was {
		t.Errorf("P7.7: a refused Open: %s, was %s", is, was)
	}
	wantClose(t, x, api.MaxFds-1, api.OK)
	wantNoOpen(t, x, "a", 0, api.ErrMode)
	wantOpen(t, x, "new", 2+8, api.MaxFds-1)
	wantDesc(t, x, api.MaxFds-1, api.MaxFds+1)
}

// TestOpenByFlags: the kernel has the flags as they are (P7.1).
func TestOpenByFlags(t *testing.T) {
	k := kernelOf(t, "")
	x := tableOver(t, k)
	wantOpen(t, x, "a", 1, 0)
	wantNoWrite(t, x, 0, "x", api.ErrMode)
	wantOpen(t, x, "b", 2+4, 1)
	wantWrite(t, x, 1, "!", 1)
	wantNoRead(t, x, 1, 1, api.ErrMode)
	wantOpen(t, x, "a", 1+2+16, 2)
	wantRead(t, x, 0, 9, "")
	wantOpen(t, x, "new", 1+2+8+32, 3)
	wantNoOpen(t, x, "new", 1+2+8+32, api.ErrExist)
	wantOpen(t, x, "t", 1+2, 4)
	wantRead(t, x, 4, 99, "typed\n")
	names := ""
	for _, f := range k.Files() {
		names += f.Name + "=" + string(f.Data) + " "
	}
	if names != "a= b=bee! c= new= " {
		t.Errorf("P7.1: Open by flags: the files %s", names)
	}
}

// TestOpenRefused: the kernel's errors, and that they change nothing (P7.1, P7.7).
func TestOpenRefused(t *testing.T) {
	k := kernelOf(t, "")
	x := tableOver(t, k)
	wantOpen(t, x, "a", 1, 0)
	was := told(t, k, x)
	for _, c := range []struct {
		name  string
		flags int
		want  api.Errno
	}{
		{"", 1, api.ErrName},
		{"a b", 0, api.ErrName},
		{"a", 0, api.ErrMode},
		{"a", 64, api.ErrMode},
		{"a", -1, api.ErrMode},
		{"none", 1, api.ErrNone},
		{"a", 2 + 8 + 32, api.ErrExist},
	} {
		wantNoOpen(t, x, c.name, c.flags, c.want)
	}
	if is := told(t, k, x); is != was {
		t.Errorf("P7.7: a refused Open: %s, was %s", is, was)
	}
	wantOpen(t, x, "b", 1, 1)
	wantDesc(t, x, 1, 2)
}

// TestKernelHasNoMore: the kernel's ErrCount of Open and of Pipe (P7.1, P7.7).
func TestKernelHasNoMore(t *testing.T) {
	k := kernelOf(t, "")
	x := tableOver(t, k)
	for range api.MaxDescs - 1 {
		k.Open("a", 1)
	}
	was := told(t, k, x)
	wantNoPipe(t, x, api.ErrCount)
	if is := told(t, k, x); is != was {
		t.Errorf("P7.7: a refused Pipe: %s, was %s", is, was)
	}
	wantOpen(t, x, "a", 1, 0)
	wantNoOpen(t, x, "a", 1, api.ErrCount)
	wantNoPipe(t, x, api.ErrCount)
	wantList(t, x, 0)
	k.Drop(1)
	k.Drop(2)
	wantPipe(t, x, 1, 2)
}

// TestPipe: the two lowest that are free, the reading end ahead (P7.1).
func TestPipe(t *testing.T) {
	k := kernelOf(t, "")
	x := tableOver(t, k)
	wantPipe(t, x, 0, 1)
	wantDesc(t, x, 0, 1)
	wantDesc(t, x, 1, 2)
	wantWrite(t, x, 1, "hello", 5)
	wantRead(t, x, 0, 9, "hello")
	wantNoRead(t, x, 0, 9, api.ErrBlock)
	wantNoRead(t, x, 1, 1, api.ErrMode)
	wantNoWrite(t, x, 0, "x", api.ErrMode)
	wantClose(t, x, 1, api.OK)
	wantRead(t, x, 0, 9, "")
	// Free are 1 and all from 2 on; then 1 and 4, with 2 and 3 between them.
	wantPipe(t, x, 1, 2)
	wantOpen(t, x, "a", 1, 3)
	wantClose(t, x, 1, api.OK)
	wantNoWrite(t, x, 2, "x", api.ErrPipe)
	wantPipe(t, x, 1, 4)
	wantWrite(t, x, 4, "again", 5)
	wantRead(t, x, 1, 2, "ag")
}

// TestPipeByRoom: where two, one or none are free (P7.1, P7.7).
func TestPipeByRoom(t *testing.T) {
	k := kernelOf(t, "")
	x := filled(t, k, api.MaxFds)
	was := told(t, k, x)
	wantNoPipe(t, x, api.ErrFull)
	if is := told(t, k, x); is != was {
		t.Errorf("P7.7: a refused Pipe: %s, was %s", is, was)
	}
	for _, fd := range []int{0, 7, api.MaxFds - 1} {
		wantClose(t, x, fd, api.OK)
		was = told(t, k, x)
		wantNoPipe(t, x, api.ErrFull)
		if is := told(t, k, x); is != was {
			t.Errorf("P7.7: a refused Pipe with %d free: %s, was %s", fd, is, was)
		}
		wantInstall(t, x, 1, fd)
	}
	for _, free := range [][2]int{{0, 1}, {0, api.MaxFds - 1}, {api.MaxFds - 2, api.MaxFds - 1}, {30, 40}} {
		wantClose(t, x, free[1], api.OK)
		wantClose(t, x, free[0], api.OK)
		wantPipe(t, x, free[0], free[1])
		wantWrite(t, x, free[1], "x", 1)
		wantRead(t, x, free[0], 1, "x")
		wantNoPipe(t, x, api.ErrFull)
		for _, fd := range free {
			wantClose(t, x, fd, api.OK)
			wantInstall(t, x, 1, fd)
		}
	}
}

// TestInstall: a description of another's, kept once more (P7.1).
func TestInstall(t *testing.T) {
	k := kernelOf(t, "")
	x := tableOver(t, k)
	k.Open("a", 1)
	k.Open("b", 1)
	wantInstall(t, x, 2, 0)
	wantInstall(t, x, 1, 1)
	wantInstall(t, x, 2, 2)
	wantHolders(t, k, 1, 2)
	wantHolders(t, k, 2, 3)
	wantRead(t, x, 0, 1, "b")
	wantRead(t, x, 2, 2, "ee")
	was := told(t, k, x)
	for _, d := range append(outside, 0, 3) {
		wantNoInstall(t, x, d, api.ErrDesc)
	}
	if is := told(t, k, x); is != was {
		t.Errorf("P7.7: a refused Install: %s, was %s", is, was)
	}
	k.Drop(1)
	wantRead(t, x, 1, 9, "hello")
	wantClose(t, x, 1, api.OK)
	wantNoInstall(t, x, 1, api.ErrDesc)
	wantInstall(t, x, 2, 1)
	for fd := 3; fd < api.MaxFds; fd++ {
		wantInstall(t, x, 2, fd)
	}
	was = told(t, k, x)
	wantNoInstall(t, x, 2, api.ErrFull)
	wantNoInstall(t, x, 1, api.ErrFull)
	wantNoInstall(t, x, -1, api.ErrFull)
	if is := told(t, k, x); is != was {
		t.Errorf("P7.7: a refused Install: %s, was %s", is, was)
	}
}

// heldFully is a table with one description that is held as often as it may be, by the table at the descriptors 0 and 1.
func heldFully(t *testing.T) (*kern.Kernel, *Table) {
	t.Helper()
	k := kernelOf(t, "")
	x := filled(t, k, 2)
	for range mostHolders - 2 {
		if e := k.Keep(1); e != api.OK {
			t.Fatalf("the kernel's Keep: %d", e)
		}
	}
	return k, x
}

// TestHeldFully: Keep's error of Install, Dup and DupTo; a fork leaves such a one out (P7.1, P7.2, P7.3, P7.7).
func TestHeldFully(t *testing.T) {
	k, x := heldFully(t)
	wantOpen(t, x, "b", 1, 2)
	was := told(t, k, x)
	wantNoInstall(t, x, 1, api.ErrCount)
	wantNoDup(t, x, 0, api.ErrCount)
	wantDupTo(t, x, 0, 9, api.ErrCount)
	wantDupTo(t, x, 0, 2, api.ErrCount)
	wantDupTo(t, x, 0, 1, api.ErrCount)
	wantDupTo(t, x, 0, 0, api.OK)
	wantDupTo(t, x, 0, api.MaxFds, api.ErrFd)
	if is := told(t, k, x); is != was {
		t.Errorf("P7.7: what can't be kept: %s, was %s", is, was)
	}
	wantList(t, x.Fork(), 2)
	wantHolders(t, k, 1, mostHolders)
	wantHolders(t, k, 2, 2)
	// One holder less: the first of the two is inherited, the second is not.
	k.Drop(1)
	f := x.Fork()
	wantList(t, f, 0, 2)
	wantClose(t, f, 0, api.OK)
	wantDup(t, x, 0, 3)
	wantNoDup(t, x, 0, api.ErrCount)
	wantClose(t, x, 3, api.OK)
	wantInstall(t, x, 1, 3)
	wantNoInstall(t, x, 1, api.ErrCount)
	wantClose(t, x, 3, api.OK)
	wantDupTo(t, x, 0, 2, api.OK)
	wantDesc(t, x, 2, 1)
	wantHolders(t, k, 1, mostHolders)
}

// TestClose: it is free, and its description has a holder less (P7.2).
func TestClose(t *testing.T) {
	k := kernelOf(t, "")
	x := tableOver(t, k)
	wantOpen(t, x, "a", 1, 0)
	wantOpen(t, x, "b", 1, 1)
	wantDup(t, x, 1, 2)
	wantClose(t, x, 1, api.OK)
	wantHolders(t, k, 2, 1)
	wantFd(t, x, 1, api.ErrFd)
	wantList(t, x, 0, 2)
	wantRead(t, x, 2, 9, "bee")
	wantClose(t, x, 2, api.OK)
	wantHolders(t, k, 2, 0)
	wantHolders(t, k, 1, 1)
	wantClose(t, x, 2, api.ErrFd)
	wantClose(t, x, 0, api.OK)
	wantHolders(t, k, 1, 0)
	wantList(t, x)
}

// TestCloseUnmarks: a mark does not outlive its descriptor (P7.1, P7.2).
func TestCloseUnmarks(t *testing.T) {
	x := tableOver(t, kernelOf(t, ""))
	wantOpen(t, x, "a", 1, 0)
	wantOpen(t, x, "a", 1, 1)
	again := func() {
		wantMark(t, x, 0, true)
		wantMark(t, x, 1, true)
		x.CloseAll()
	}
	again()
	wantOpen(t, x, "b", 1, 0)
	wantDup(t, x, 0, 1)
	again()
	wantPipe(t, x, 0, 1)
	again()
	wantOpen(t, x, "b", 1, 0)
	wantInstall(t, x, descOf(t, x, 0), 1)
	wantMark(t, x, 1, true)
	wantClose(t, x, 1, api.OK)
	wantDupTo(t, x, 0, 1, api.OK)
	wantMarked(t, x, 1, false)
}

// TestClosedBehindItsBack: a description that the kernel has no more can still be closed (P7.2, P1).
func TestClosedBehindItsBack(t *testing.T) {
	k := kernelOf(t, "")
	x := filled(t, k, 3)
	k.Drop(1)
	k.Drop(1)
	k.Drop(1)
	wantNoRead(t, x, 0, 1, api.ErrDesc)
	wantNoWrite(t, x, 0, "x", api.ErrDesc)
	wantNoSeek(t, x, 0, 0, 0, api.ErrDesc)
	wantNoDup(t, x, 0, api.ErrDesc)
	wantDupTo(t, x, 0, 5, api.ErrDesc)
	wantDupTo(t, x, 0, 0, api.OK)
	wantList(t, x.Fork())
	wantClose(t, x, 1, api.OK)
	wantList(t, x, 0, 2)
	wantOpen(t, x, "b", 1, 1)
	wantDupTo(t, x, 1, 0, api.OK)
	wantRead(t, x, 0, 9, "bee")
	x.CloseAll()
	wantList(t, x)
	wantHolders(t, k, 2, 0)
}

// TestDup: the lowest free one has the same description, unmarked (P7.2).
func TestDup(t *testing.T) {
	k := kernelOf(t, "")
	x := tableOver(t, k)
	wantOpen(t, x, "a", 1, 0)
	wantMark(t, x, 0, true)
	wantDup(t, x, 0, 1)
	wantMarked(t, x, 0, true)
	wantHolders(t, k, 1, 2)
	wantDup(t, x, 1, 2)
	wantHolders(t, k, 1, 3)
	for fd := 3; fd < api.MaxFds; fd++ {
		wantDup(t, x, fd-1, fd)
	}
	was := told(t, k, x)
	wantNoDup(t, x, 0, api.ErrFull)
	wantNoDup(t, x, api.MaxFds-1, api.ErrFull)
	for _, fd := range outside {
		wantNoDup(t, x, fd, api.ErrFd)
	}
	if is := told(t, k, x); is != was {
		t.Errorf("P7.7: a refused Dup: %s, was %s", is, was)
	}
	wantClose(t, x, 9, api.OK)
	wantNoDup(t, x, 9, api.ErrFd)
	wantDup(t, x, api.MaxFds-1, 9)
	wantHolders(t, k, 1, api.MaxFds)
}

// TestFullIsAskedAheadOfKeep: of a full table, and of a description that is held too often, the table goes ahead (P7.1, P7.2).
func TestFullIsAskedAheadOfKeep(t *testing.T) {
	k := kernelOf(t, "")
	x := filled(t, k, api.MaxFds)
	for k.Keep(1) == api.OK {
	}
	wantNoDup(t, x, 0, api.ErrFull)
	wantNoInstall(t, x, 1, api.ErrFull)
	wantDupTo(t, x, 0, 1, api.ErrCount)
	wantClose(t, x, 5, api.OK)
	k.Keep(1)
	wantNoDup(t, x, 0, api.ErrCount)
	wantNoInstall(t, x, 1, api.ErrCount)
}

// TestDupTo: onto a free one, onto one in use, onto itself (P7.2).
func TestDupTo(t *testing.T) {
	k := kernelOf(t, "")
	x := tableOver(t, k)
	wantOpen(t, x, "a", 1, 0)
	wantOpen(t, x, "b", 1, 1)
	wantMark(t, x, 0, true)
	wantMark(t, x, 1, true)
	wantDupTo(t, x, 0, api.MaxFds-1, api.OK)
	wantList(t, x, 0, 1, api.MaxFds-1)
	wantDesc(t, x, api.MaxFds-1, 1)
	wantMarked(t, x, api.MaxFds-1, false)
	wantMarked(t, x, 0, true)
	wantHolders(t, k, 1, 2)
	wantDupTo(t, x, 0, 1, api.OK)
	wantDesc(t, x, 1, 1)
	wantMarked(t, x, 1, false)
	wantHolders(t, k, 1, 3)
	wantHolders(t, k, 2, 0)
	// Onto one of the same description: one holder more, one less.
	wantMark(t, x, 1, true)
	wantDupTo(t, x, api.MaxFds-1, 1, api.OK)
	wantMarked(t, x, 1, false)
	wantHolders(t, k, 1, 3)
	wantDupTo(t, x, 0, 0, api.OK)
	wantMarked(t, x, 0, true)
	wantHolders(t, k, 1, 3)
	wantList(t, x, 0, 1, api.MaxFds-1)
	wantOpen(t, x, "b", 1, 2)
	wantDupTo(t, x, 2, 0, api.OK)
	wantRead(t, x, 0, 9, "bee")
	wantMarked(t, x, 0, false)
}

// TestDupToFull: a table that is full has room for it all the same (P7.2).
func TestDupToFull(t *testing.T) {
	k := kernelOf(t, "")
	x := filled(t, k, api.MaxFds-1)
	wantOpen(t, x, "b", 1, api.MaxFds-1)
	wantDupTo(t, x, api.MaxFds-1, 0, api.OK)
	wantDesc(t, x, 0, 2)
	wantHolders(t, k, 1, api.MaxFds-2)
	wantHolders(t, k, 2, 2)
}

// TestDupToRefused: each ErrFd, and that it changes nothing (P7.2, P7.7).
func TestDupToRefused(t *testing.T) {
	k := kernelOf(t, "")
	x := filled(t, k, 3)
	was := told(t, k, x)
	for _, fd := range append(outside, 3, api.MaxFds-1) {
		wantDupTo(t, x, fd, 0, api.ErrFd)
		wantDupTo(t, x, fd, 5, api.ErrFd)
		wantDupTo(t, x, fd, fd, api.ErrFd)
		wantDupTo(t, x, fd, -1, api.ErrFd)
	}
	for _, to := range outside {
		wantDupTo(t, x, 0, to, api.ErrFd)
		wantDupTo(t, x, 3, to, api.ErrFd)
	}
	if is := told(t, k, x); is != was {
		t.Errorf("P7.7: a refused DupTo: %s, was %s", is, was)
	}
}

// TestMark: on and off, of each for itself (P7.2).
func TestMark(t *testing.T) {
	x := filled(t, kernelOf(t, ""), api.MaxFds)
	for _, fd := range []int{0, 3, api.MaxFds - 1} {
		wantMark(t, x, fd, true)
		wantMark(t, x, fd, true)
	}
	for fd := range api.MaxFds {
		wantMarked(t, x, fd, fd == 0 || fd == 3 || fd == api.MaxFds-1)
	}
	wantMark(t, x, 3, false)
	wantMark(t, x, 3, false)
	wantMarked(t, x, 0, true)
	wantMarked(t, x, api.MaxFds-1, true)
}

// TestMarkedServes: a mark hinders no call of the table itself (P7.2, P7.3).
func TestMarkedServes(t *testing.T) {
	x := tableOver(t, kernelOf(t, ""))
	wantOpen(t, x, "a", 1+2, 0)
	wantMark(t, x, 0, true)
	wantRead(t, x, 0, 2, "he")
	wantWrite(t, x, 0, "L", 1)
	wantSeek(t, x, 0, -1, 1, 2)
	wantRead(t, x, 0, 9, "Llo")
	wantDesc(t, x, 0, 1)
	wantClose(t, x, 0, api.OK)
}

// TestCallsAreTheKernels: answers, errors and faults come from the kernel (P7.3).
func TestCallsAreTheKernels(t *testing.T) {
	k := kernelOf(t, "s2 i a s1 f")
	x := tableOver(t, k)
	wantOpen(t, x, "a", 1+2, 0)
	wantOpen(t, x, "t", 1+2, 1)
	wantRead(t, x, 0, 5, "he")
	wantNoRead(t, x, 0, 5, api.ErrIntr)
	wantNoWrite(t, x, 0, "x", api.ErrAgain)
	wantWrite(t, x, 0, "LOW", 1)
	wantRead(t, x, 0, 5, "lo")
	if r, w := k.Calls(); r != 3 || w != 2 {
		t.Errorf("P7.3: %d reads and %d writes came to the kernel, not 3 and 2", r, w)
	}
	wantRead(t, x, 0, 5, "")
	wantNoRead(t, x, 0, -1, api.ErrRange)
	wantNoRead(t, x, 0, api.MaxFile+1, api.ErrRange)
	wantNoWrite(t, x, 0, string(make([]byte, api.MaxFile+1)), api.ErrLong)
	wantNoSeek(t, x, 1, 0, 0, api.ErrSeek)
	wantNoSeek(t, x, 0, 0, 3, api.ErrArg)
	wantNoSeek(t, x, 0, -1, 0, api.ErrRange)
	wantSeek(t, x, 0, -2, 2, 3)
	wantSeek(t, x, 0, 1, 1, 4)
	wantSeek(t, x, 0, api.MaxFile, 0, api.MaxFile)
	wantNoWrite(t, x, 0, "x", api.ErrFull)
	wantRead(t, x, 1, 9, "typed\n")
	wantWrite(t, x, 1, "shown", 5)
	if s, ok := k.Screen("t"); string(s) != "shown" || !ok {
		t.Errorf("P7.3: Write: the screen has %q", s)
	}
}

// TestListAndCloseAll: those in use, rising; then none (P7.3).
func TestListAndCloseAll(t *testing.T) {
	k := kernelOf(t, "")
	x := filled(t, k, api.MaxFds)
	var want []int
	for fd := range api.MaxFds {
		if fd%3 == 0 {
			want = append(want, fd)
		} else {
			wantClose(t, x, fd, api.OK)
		}
	}
	wantList(t, x, want...)
	x.CloseAll()
	wantList(t, x)
	wantHolders(t, k, 1, 0)
	x.CloseAll()
	wantPipe(t, x, 0, 1)
	x.CloseAll()
	if k.Kind(2) != 0 || k.Kind(3) != 0 {
		t.Error("P7.6: CloseAll: a pipe's end is left")
	}
}
