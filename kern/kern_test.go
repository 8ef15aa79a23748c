package kern

import (
	"bytes"
	"math"
	"slices"
	"strings"
	"testing"

	"millrace/api"
	"millrace/faults"
)

// far are numbers that are nobody's description, place, count or flags.
var far = []int{-api.MaxFile - 1, -api.MaxFile - 2, -1 << 32, math.MinInt, math.MinInt + 1, api.MaxFile + 2, 1 << 32, 1<<32 + 1, math.MaxInt32, math.MaxInt - 1, math.MaxInt}

// pattern is n bytes, none of them a zero.
func pattern(n int) []byte {
	b := make([]byte, n)
	for i := range b {
		b[i] = byte(1 + (i+i/251)%251)
	}
	return b
}

func text(n int) string { return string(pattern(n)) }

func brief[T string | []byte](b T) string {
	return string(b[:min(len(b), 20)])
}

func aNamed(name string, data string) api.Named {
	return api.Named{Name: name, Data: []byte(data)}
}

func aTyped(name string, lines ...string) api.Typed {
	t := api.Typed{Name: name}
	for _, l := range lines {
		t.Lines = append(t.Lines, []byte(l))
	}
	return t
}

// whims are the faults that the words tell.
func whims(t *testing.T, words string) []api.Fault {
	t.Helper()
	l, e, _ := faults.Parse(words)
	if e != api.OK {
		t.Fatalf("%q are no faults: %d", words, e)
	}
	return l
}

func kernelOf(t *testing.T, c Config) *Kernel {
	t.Helper()
	k, e := New(c)
	if k == nil || e != api.OK {
		t.Fatalf("P6.1: New: %v, %d", k, e)
	}
	return k
}

// smallKernel has the file a, the terminal t, and the faults.
func smallKernel(t *testing.T, data string, words string) *Kernel {
	t.Helper()
	return kernelOf(t, Config{
		Files:  []api.Named{aNamed("a", data)},
		Terms:  []api.Typed{aTyped("t", "one\n", "", "two")},
		Faults: whims(t, words),
	})
}

func wantOpen(t *testing.T, k *Kernel, name string, flags int, d int) {
	t.Helper()
	if got, e := k.Open(name, flags); got != d || e != api.OK {
		t.Fatalf("P6.2: Open(%q, %d): %d, %d; want %d, OK", brief(name), flags, got, e, d)
	}
}

func wantNoOpen(t *testing.T, k *Kernel, name string, flags int, e api.Errno) {
	t.Helper()
	if got, gotE := k.Open(name, flags); got != 0 || gotE != e {
		t.Errorf("P6.2: Open(%q, %d): %d, %d; want 0, %d", brief(name), flags, got, gotE, e)
	}
}

func wantPipe(t *testing.T, k *Kernel, r int, w int) {
	t.Helper()
	if gotR, gotW, e := k.Pipe(); gotR != r || gotW != w || e != api.OK {
		t.Fatalf("P6.2: Pipe: %d, %d, %d; want %d, %d, OK", gotR, gotW, e, r, w)
	}
}

func wantNoPipe(t *testing.T, k *Kernel, e api.Errno) {
	t.Helper()
	if r, w, gotE := k.Pipe(); r != 0 || w != 0 || gotE != e {
		t.Errorf("P6.2: Pipe: %d, %d, %d; want 0, 0, %d", r, w, gotE, e)
	}
}

func wantRead(t *testing.T, k *Kernel, d int, n int, want string) {
	t.Helper()
	if b, e := k.Read(d, n); string(b) != want || e != api.OK {
		t.Errorf("P6.3: Read(%d, %d): %d bytes, %q, %d; want %d, %q, OK", d, n, len(b), brief(b), e, len(want), brief(want))
	}
}

func wantNoRead(t *testing.T, k *Kernel, d int, n int, e api.Errno) {
	t.Helper()
	if b, gotE := k.Read(d, n); len(b) != 0 || gotE != e {
		t.Errorf("P6.3: Read(%d, %d): %q, %d; want none, %d", d, n, brief(b), gotE, e)
	}
}

func wantWrite(t *testing.T, k *Kernel, d int, b string, n int) {
	t.Helper()
	if got, e := k.Write(d, []byte(b)); got != n || e != api.OK {
		t.Errorf("P6.3: Write(%d) of %d bytes: %d, %d; want %d, OK", d, len(b), got, e, n)
	}
}

func wantNoWrite(t *testing.T, k *Kernel, d int, b string, e api.Errno) {
	t.Helper()
	if got, gotE := k.Write(d, []byte(b)); got != 0 || gotE != e {
		t.Errorf("P6.3: Write(%d) of %d bytes: %d, %d; want 0, %d", d, len(b), got, gotE, e)
	}
}

func wantSeek(t *testing.T, k *Kernel, d int, off int, whence int, place int) {
	t.Helper()
	if got, e := k.Seek(d, off, whence); got != place || e != api.OK {
		t.Errorf("P6.4: Seek(%d, %d, %d): %d, %d; want %d, OK", d, off, whence, got, e, place)
	}
}

func wantNoSeek(t *testing.T, k *Kernel, d int, off int, whence int, e api.Errno) {
	t.Helper()
	if got, gotE := k.Seek(d, off, whence); got != 0 || gotE != e {
		t.Errorf("P6.4: Seek(%d, %d, %d): %d, %d; want 0, %d", d, off, whence, got, gotE, e)
	}
}

func wantPlace(t *testing.T, k *Kernel, d int, place int) {
	t.Helper()
	wantSeek(t, k, d, 0, 1, place)
}

func wantKeep(t *testing.T, k *Kernel, d int, e api.Errno) {
	t.Helper()
	if got := k.Keep(d); got != e {
		t.Errorf("P6.4: Keep(%d): %d; want %d", d, got, e)
	}
}

func wantDrop(t *testing.T, k *Kernel, d int, e api.Errno) {
	t.Helper()
	if got := k.Drop(d); got != e {
		t.Errorf("P6.4: Drop(%d): %d; want %d", d, got, e)
	}
}

func wantCan(t *testing.T, k *Kernel, d int, n int, read bool, write bool) {
	t.Helper()
	if got := k.CanRead(d); got != read {
		t.Errorf("P6.5: CanRead(%d): %t", d, got)
	}
	if got := k.CanWrite(d, n); got != write {
		t.Errorf("P6.5: CanWrite(%d, %d): %t", d, n, got)
	}
}

func wantKind(t *testing.T, k *Kernel, d int, kind int) {
	t.Helper()
	if got := k.Kind(d); got != kind {
		t.Errorf("P6.5: Kind(%d): %d; want %d", d, got, kind)
	}
}

// wantMet holds how many calls met the plan, and what is left of it, against what is wanted.
func wantMet(t *testing.T, k *Kernel, reads int, writes int, rest string) {
	t.Helper()
	if r, w := k.Calls(); r != reads || w != writes {
		t.Errorf("P6.5: Calls: %d, %d; want %d, %d", r, w, reads, writes)
	}
	if got := k.Rest(); !slices.Equal(got, whims(t, rest)) {
		t.Errorf("P6.5: Rest: %v; want %q", got, rest)
	}
}

func wantFiles(t *testing.T, k *Kernel, want ...api.Named) {
	t.Helper()
	got := k.Files()
	if !slices.EqualFunc(got, want, sameNamed) {
		t.Errorf("P6.5: Files: %d of them: %s; want %d: %s", len(got), told(got), len(want), told(want))
	}
}

func sameNamed(a, b api.Named) bool {
	return a.Name == b.Name && bytes.Equal(a.Data, b.Data)
}

func told(l []api.Named) string {
	var s strings.Builder
	for _, f := range l[:min(len(l), 5)] {
		s.WriteString(" " + f.Name + ": " + brief(f.Data))
	}
	return s.String()
}

func wantScreen(t *testing.T, k *Kernel, name string, want string) {
	t.Helper()
	if b, ok := k.Screen(name); string(b) != want || !ok {
		t.Errorf("P6.5: Screen(%q): %d bytes, %q, %t; want %d, %q, true", name, len(b), brief(b), ok, len(want), brief(want))
	}
}

func wantNoScreen(t *testing.T, k *Kernel, name string) {
	t.Helper()
	if b, ok := k.Screen(name); len(b) != 0 || ok {
		t.Errorf("P6.5: Screen(%q): %q, %t; want none, false", name, brief(b), ok)
	}
}

func wantHeld(t *testing.T, k *Kernel, d int, want string) {
	t.Helper()
	if b := k.Held(d); string(b) != want {
		t.Errorf("P6.5: Held(%d): %d bytes, %q; want %d, %q", d, len(b), brief(b), len(want), brief(want))
	}
}

// TestExample1: example 1 of the chapter, beside what the plan and the place are then.
func TestExample1(t *testing.T) {
	k := smallKernel(t, "hello", "s2 i")
	wantOpen(t, k, "a", 1, 1)
	wantRead(t, k, 1, 5, "he")
	wantMet(t, k, 1, 0, "i")
	wantNoRead(t, k, 1, 5, api.ErrIntr)
	wantPlace(t, k, 1, 2)
	wantRead(t, k, 1, 5, "llo")
	wantRead(t, k, 1, 5, "")
	wantMet(t, k, 4, 0, "")
	wantPlace(t, k, 1, 5)
}

// TestExample2: example 2 of the chapter.
func TestExample2(t *testing.T) {
	k := smallKernel(t, "hello", "")
	wantNoOpen(t, k, "b", 1, api.ErrNone)
	wantOpen(t, k, "b", 2+8+32, 1)
	wantNoOpen(t, k, "b", 2+8+32, api.ErrExist)
	wantFiles(t, k, aNamed("a", "hello"), aNamed("b", ""))
}

// TestReadAFile: from the place on, which goes on by as many as there were.
func TestReadAFile(t *testing.T) {
	k := smallKernel(t, "hello", "")
	wantOpen(t, k, "a", 1, 1)
	wantRead(t, k, 1, 0, "")
	wantPlace(t, k, 1, 0)
	wantRead(t, k, 1, 1, "h")
	wantPlace(t, k, 1, 1)
	wantRead(t, k, 1, 3, "ell")
	wantRead(t, k, 1, api.MaxFile, "o")
	wantPlace(t, k, 1, 5)
	wantRead(t, k, 1, api.MaxFile, "")
	wantPlace(t, k, 1, 5)
	for _, place := range []int{6, 100, api.MaxFile - 1, api.MaxFile} {
		wantSeek(t, k, 1, place, 0, place)
		wantRead(t, k, 1, 0, "")
		wantRead(t, k, 1, 1, "")
		wantRead(t, k, 1, api.MaxFile, "")
		wantPlace(t, k, 1, place)
	}
	wantFiles(t, k, aNamed("a", "hello"))
}

func TestReadAGreatFile(t *testing.T) {
	all := text(api.MaxFile)
	k := smallKernel(t, all, "")
	wantOpen(t, k, "a", 1, 1)
	wantRead(t, k, 1, api.MaxFile, all)
	wantPlace(t, k, 1, api.MaxFile)
	wantRead(t, k, 1, 1, "")
	wantSeek(t, k, 1, -1, 2, api.MaxFile-1)
	wantRead(t, k, 1, api.MaxFile, all[api.MaxFile-1:])
	wantSeek(t, k, 1, 1, 0, 1)
	wantRead(t, k, 1, api.MaxFile-1, all[1:])
}

// TestReadATerminal: at most one line by each call, an empty one as none.
func TestReadATerminal(t *testing.T) {
	k := smallKernel(t, "", "")
	wantOpen(t, k, "t", 1, 1)
	wantOpen(t, k, "t", 1+2, 2)
	wantRead(t, k, 1, 0, "")
	wantRead(t, k, 1, 2, "on")
	wantRead(t, k, 2, api.MaxFile, "e\n")
	wantRead(t, k, 1, 0, "")
	wantRead(t, k, 2, 1, "")
	wantRead(t, k, 1, 3, "two")
	for range 3 {
		wantRead(t, k, 1, 1, "")
		wantRead(t, k, 2, api.MaxFile, "")
	}
	wantScreen(t, k, "t", "")
}

// TestReadErrors: in their order, where several hold at once; none of them comes to a fault or moves anything.
func TestReadErrors(t *testing.T) {
	k := smallKernel(t, "hello", "s1 i")
	wantOpen(t, k, "a", 1, 1)
	wantOpen(t, k, "a", 2, 2)
	wantOpen(t, k, "t", 2, 3)
	wantOpen(t, k, "t", 1, 4)
	wantPipe(t, k, 5, 6)
	wantSeek(t, k, 1, 2, 0, 2)
	outside := append([]int{-1, api.MaxFile + 1}, far...)
	for _, n := range append([]int{0, 1, api.MaxFile}, outside...) {
		for _, d := range append([]int{0, -1, 7, 8}, far...) {
			wantNoRead(t, k, d, n, api.ErrDesc)
		}
		for _, d := range []int{2, 3, 6} {
			wantNoRead(t, k, d, n, api.ErrMode)
		}
	}
	for _, n := range outside {
		for _, d := range []int{1, 4, 5} {
			wantNoRead(t, k, d, n, api.ErrRange)
		}
	}
	for _, d := range []int{1, 4, 5} {
		wantRead(t, k, d, 0, "")
	}
	wantNoRead(t, k, 5, 1, api.ErrBlock)
	wantNoRead(t, k, 5, api.MaxFile, api.ErrBlock)
	wantMet(t, k, 0, 0, "s1 i")
	wantPlace(t, k, 1, 2)
	wantRead(t, k, 1, 9, "l")
	wantNoRead(t, k, 4, 9, api.ErrIntr)
	wantRead(t, k, 4, 9, "one\n")
	wantMet(t, k, 3, 0, "")
}

// TestWriteAFile: at the place, which is behind the bytes then; zeros between the end and a place behind it.
func TestWriteAFile(t *testing.T) {
	k := smallKernel(t, "hello", "")
	wantOpen(t, k, "a", 1+2, 1)
	wantWrite(t, k, 1, "", 0)
	wantPlace(t, k, 1, 0)
	wantWrite(t, k, 1, "J", 1)
	wantPlace(t, k, 1, 1)
	wantRead(t, k, 1, 2, "el")
	wantWrite(t, k, 1, "p", 1)
	wantFiles(t, k, aNamed("a", "Jelpo"))
	wantSeek(t, k, 1, 0, 2, 5)
	wantWrite(t, k, 1, " it", 3)
	wantPlace(t, k, 1, 8)
	wantFiles(t, k, aNamed("a", "Jelpo it"))
	wantSeek(t, k, 1, 2, 1, 10)
	wantWrite(t, k, 1, "", 0)
	wantFiles(t, k, aNamed("a", "Jelpo it"))
	wantWrite(t, k, 1, "!", 1)
	wantPlace(t, k, 1, 11)
	wantFiles(t, k, aNamed("a", "Jelpo it\x00\x00!"))
	wantSeek(t, k, 1, 7, 0, 7)
	wantWrite(t, k, 1, "......", 6)
	wantFiles(t, k, aNamed("a", "Jelpo i......"))
}

// TestHowMuchIsWritten: of a file as many as there is room for behind the place, none of them beyond MaxFile.
func TestHowMuchIsWritten(t *testing.T) {
	const most = api.MaxFile
	for _, size := range []int{0, 5, most - 3, most - 1, most} {
		for _, place := range []int{0, 1, most - 3, most - 2, most - 1} {
			for _, n := range []int{1, 2, 3, 4, most} {
				k := smallKernel(t, text(size), "")
				wantOpen(t, k, "a", 2, 1)
				wantSeek(t, k, 1, place, 0, place)
				b := strings.Repeat("#", n)
				took := min(n, most-place)
				wantWrite(t, k, 1, b, took)
				wantPlace(t, k, 1, place+took)
				want := make([]byte, max(size, place+took))
				copy(want, pattern(size))
				copy(want[place:], b)
				wantFiles(t, k, aNamed("a", string(want)))
			}
		}
	}
}

// TestFullFile: it hangs on the place alone, appending on the size alone.
func TestFullFile(t *testing.T) {
	const most = api.MaxFile
	k := smallKernel(t, "hello", "s1")
	wantOpen(t, k, "a", 2, 1)
	wantSeek(t, k, 1, most, 0, most)
	for _, b := range []string{"x", text(most)} {
		wantNoWrite(t, k, 1, b, api.ErrFull)
	}
	wantWrite(t, k, 1, "", 0)
	wantPlace(t, k, 1, most)
	wantMet(t, k, 0, 0, "s1")
	wantFiles(t, k, aNamed("a", "hello"))
	wantOpen(t, k, "a", 2+4, 2)
	wantSeek(t, k, 2, most, 0, most)
	wantWrite(t, k, 2, "12", 1)
	wantPlace(t, k, 2, 6)
	wantMet(t, k, 0, 1, "")
	wantFiles(t, k, aNamed("a", "hello1"))
}

func TestFullFileAppending(t *testing.T) {
	const most = api.MaxFile
	for room := range 3 {
		k := smallKernel(t, text(most-room), "f")
		wantOpen(t, k, "a", 2+4, 1)
		if room > 0 {
			wantWrite(t, k, 1, "####"[:room+1], room)
			wantMet(t, k, 0, 1, "")
			wantPlace(t, k, 1, most)
			wantSeek(t, k, 1, 0, 0, 0)
		} else {
			wantMet(t, k, 0, 0, "f")
		}
		reads, writes := k.Calls()
		wantNoWrite(t, k, 1, "x", api.ErrFull)
		wantWrite(t, k, 1, "", 0)
		wantPlace(t, k, 1, 0)
		if r, w := k.Calls(); r != reads || w != writes {
			t.Errorf("P6.3: a write to a full file came to a fault: %d, %d", r, w)
		}
		wantFiles(t, k, aNamed("a", text(most-room)+"##"[:room]))
		wantOpen(t, k, "a", 2, 2)
		wantWrite(t, k, 2, "y", 1)
	}
}

// TestAppend: behind what others wrote meanwhile, wherever the place is; it is behind the bytes then.
func TestAppend(t *testing.T) {
	k := smallKernel(t, "hello", "")
	wantOpen(t, k, "a", 1+2+4, 1)
	wantOpen(t, k, "a", 2, 2)
	wantRead(t, k, 1, 2, "he")
	wantWrite(t, k, 1, "ab", 2)
	wantPlace(t, k, 1, 7)
	wantSeek(t, k, 2, 0, 2, 7)
	wantWrite(t, k, 2, "cd", 2)
	wantRead(t, k, 1, 1, "c")
	wantWrite(t, k, 1, "e", 1)
	wantFiles(t, k, aNamed("a", "helloabcde"))
	wantPlace(t, k, 1, 10)
	wantSeek(t, k, 1, 0, 0, 0)
	wantWrite(t, k, 1, "f", 1)
	wantFiles(t, k, aNamed("a", "helloabcdef"))
	wantOpen(t, k, "a", 2+16, 3)
	wantPlace(t, k, 1, 11)
	wantWrite(t, k, 1, "new", 3)
	wantPlace(t, k, 1, 3)
	wantPlace(t, k, 2, 9)
	wantWrite(t, k, 2, "x", 1)
	wantFiles(t, k, aNamed("a", "new\x00\x00\x00\x00\x00\x00x"))
}

// TestWriteATerminal: behind what its screen has, whichever description writes.
func TestWriteATerminal(t *testing.T) {
	k := kernelOf(t, Config{Terms: []api.Typed{aTyped("t", "x"), aTyped("u")}})
	wantOpen(t, k, "t", 2, 1)
	wantOpen(t, k, "t", 1+2+4, 2)
	wantOpen(t, k, "u", 2+16, 3)
	wantWrite(t, k, 1, "", 0)
	wantWrite(t, k, 1, "ab", 2)
	wantWrite(t, k, 2, "c", 1)
	wantWrite(t, k, 3, "other", 5)
	wantWrite(t, k, 1, "d\n", 2)
	wantScreen(t, k, "t", "abcd\n")
	wantScreen(t, k, "u", "other")
	wantOpen(t, k, "t", 2+16, 4)
	wantScreen(t, k, "t", "abcd\n")
	wantWrite(t, k, 4, "e", 1)
	wantScreen(t, k, "t", "abcd\ne")
	wantRead(t, k, 2, 9, "x")
}

// TestFullScreen: as many as there is room for; with none left it is full, ahead of the fault.
func TestFullScreen(t *testing.T) {
	const most = api.MaxFile
	for room := range 3 {
		k := smallKernel(t, "", "")
		wantOpen(t, k, "t", 2, 1)
		wantOpen(t, k, "t", 1+2, 2)
		all := text(most - room)
		wantWrite(t, k, 1, all, most-room)
		if room > 0 {
			wantWrite(t, k, 2, "####"[:room+1], room)
		}
		_, writes := k.Calls()
		for _, d := range []int{1, 2} {
			wantNoWrite(t, k, d, "x", api.ErrFull)
			wantNoWrite(t, k, d, all, api.ErrFull)
			wantWrite(t, k, d, "", 0)
			wantCan(t, k, d, 1, d == 2, true)
		}
		wantMet(t, k, 0, writes, "")
		wantScreen(t, k, "t", all+"##"[:room])
		wantRead(t, k, 2, 9, "one\n")
	}
}

// TestRoomAndFault: a write is cut by whatever is less, the room or the fault.
func TestRoomAndFault(t *testing.T) {
	const most = api.MaxFile
	for _, name := range []string{"a", "t"} {
		for _, c := range []struct {
			words string
			took  int
		}{{"s1", 1}, {"s2", 2}, {"s3", 3}, {"s4", 3}, {"s1048576", 3}, {"f", 3}, {"", 3}} {
			k := kernelOf(t, Config{Files: []api.Named{{Name: "a"}}, Terms: []api.Typed{{Name: "t"}}, Faults: whims(t, "f "+c.words)})
			wantOpen(t, k, name, 2, 1)
			wantWrite(t, k, 1, text(most-3), most-3)
			wantWrite(t, k, 1, "123456", c.took)
			wantMet(t, k, 0, 2, "")
			got := k.Files()[0].Data
			if name == "t" {
				got, _ = k.Screen("t")
			}
			if want := text(most-3) + "123"[:c.took]; string(got) != want {
				t.Errorf("P6.3: %d bytes stand in %s; want %d", len(got), name, len(want))
			}
		}
	}
}

// TestWriteErrors: in their order, where several hold at once; none of them comes to a fault or writes anything.
func TestWriteErrors(t *testing.T) {
	tooLong := text(api.MaxFile + 1)
	k := smallKernel(t, "hello", "a")
	wantOpen(t, k, "a", 1, 1)
	wantOpen(t, k, "a", 2, 2)
	wantOpen(t, k, "t", 1, 3)
	wantOpen(t, k, "t", 2, 4)
	wantPipe(t, k, 5, 6)
	wantPipe(t, k, 7, 8)
	wantDrop(t, k, 7, api.OK)
	wantOpen(t, k, "a", 2, 9)
	wantSeek(t, k, 9, api.MaxFile, 0, api.MaxFile)
	for _, b := range []string{"", "x", tooLong[1:], tooLong} {
		for _, d := range append([]int{0, -1, 7, 10, 11}, far...) {
			wantNoWrite(t, k, d, b, api.ErrDesc)
		}
		for _, d := range []int{1, 3, 5} {
			wantNoWrite(t, k, d, b, api.ErrMode)
		}
	}
	for _, d := range []int{2, 4, 6, 8, 9} {
		wantNoWrite(t, k, d, tooLong, api.ErrLong)
		wantWrite(t, k, d, "", 0)
	}
	wantNoWrite(t, k, 8, "x", api.ErrPipe)
	wantNoWrite(t, k, 9, "x", api.ErrFull)
	wantMet(t, k, 0, 0, "a")
	wantPlace(t, k, 2, 0)
	wantFiles(t, k, aNamed("a", "hello"))
	wantScreen(t, k, "t", "")
	wantHeld(t, k, 6, "")
	wantNoWrite(t, k, 2, "x", api.ErrAgain)
	wantMet(t, k, 0, 1, "")
	wantFiles(t, k, aNamed("a", "hello"))
}

// TestGreatWrite: MaxFile bytes are written whole, one byte more is too long.
func TestGreatWrite(t *testing.T) {
	all := text(api.MaxFile)
	k := smallKernel(t, "hello", "")
	wantOpen(t, k, "a", 2, 1)
	wantNoWrite(t, k, 1, all+"x", api.ErrLong)
	wantWrite(t, k, 1, all, api.MaxFile)
	wantFiles(t, k, aNamed("a", all))
	wantOpen(t, k, "t", 2, 2)
	wantWrite(t, k, 2, all, api.MaxFile)
	wantScreen(t, k, "t", all)
}

func TestSeek(t *testing.T) {
	const most = api.MaxFile
	k := smallKernel(t, "hello", "i")
	wantOpen(t, k, "a", 1, 1)
	wantSeek(t, k, 1, 0, 0, 0)
	wantSeek(t, k, 1, 3, 0, 3)
	wantSeek(t, k, 1, 1, 1, 4)
	wantSeek(t, k, 1, -2, 1, 2)
	wantSeek(t, k, 1, 0, 1, 2)
	wantSeek(t, k, 1, -1, 2, 4)
	wantSeek(t, k, 1, 4, 2, 9)
	wantSeek(t, k, 1, -5, 2, 0)
	wantSeek(t, k, 1, most, 0, most)
	wantSeek(t, k, 1, 0, 1, most)
	wantSeek(t, k, 1, -most, 1, 0)
	wantSeek(t, k, 1, most, 1, most)
	wantSeek(t, k, 1, most-5, 2, most)
	wantSeek(t, k, 1, 7, 0, 7)
	wantMet(t, k, 0, 0, "i")
	wantFiles(t, k, aNamed("a", "hello"))
}

// TestSeekOutside: a place that may not be is refused, and the one that it has stays.
func TestSeekOutside(t *testing.T) {
	const most = api.MaxFile
	k := smallKernel(t, "hello", "")
	wantOpen(t, k, "a", 2, 1)
	wantSeek(t, k, 1, 7, 0, 7)
	for whence, from := range []int{0, 7, 5} {
		for _, off := range append([]int{-from - 1, most - from + 1}, far...) {
			wantNoSeek(t, k, 1, off, whence, api.ErrRange)
			wantPlace(t, k, 1, 7)
		}
	}
	wantSeek(t, k, 1, most, 0, most)
	for _, off := range append([]int{1, -most - 1}, far...) {
		wantNoSeek(t, k, 1, off, 1, api.ErrRange)
	}
	wantPlace(t, k, 1, most)
}

func TestSeekErrors(t *testing.T) {
	k := smallKernel(t, "hello", "")
	wantOpen(t, k, "a", 1, 1)
	wantOpen(t, k, "t", 1+2, 2)
	wantPipe(t, k, 3, 4)
	wantSeek(t, k, 1, 2, 0, 2)
	for _, whence := range append([]int{0, 1, 2, 3, -1}, far...) {
		for _, off := range append([]int{0, 1, -1}, far...) {
			for _, d := range append([]int{0, -1, 5}, far...) {
				wantNoSeek(t, k, d, off, whence, api.ErrDesc)
			}
			for _, d := range []int{2, 3, 4} {
				wantNoSeek(t, k, d, off, whence, api.ErrSeek)
			}
			if whence < 0 || whence > 2 {
				wantNoSeek(t, k, 1, off, whence, api.ErrArg)
			}
		}
	}
	wantPlace(t, k, 1, 2)
}

// TestKeepAndDrop: 1024 hold one at most; it is there till the last one drops it.
func TestKeepAndDrop(t *testing.T) {
	k := smallKernel(t, "hello", "")
	wantOpen(t, k, "a", 1, 1)
	wantOpen(t, k, "t", 2, 2)
	wantPipe(t, k, 3, 4)
	for d := 1; d <= 4; d++ {
		for range 1023 {
			wantKeep(t, k, d, api.OK)
		}
		for range 2 {
			wantKeep(t, k, d, api.ErrCount)
		}
		wantDrop(t, k, d, api.OK)
		wantKeep(t, k, d, api.OK)
		wantKeep(t, k, d, api.ErrCount)
		kind := k.Kind(d)
		for range 1023 {
			wantDrop(t, k, d, api.OK)
		}
		wantKind(t, k, d, kind)
		wantDrop(t, k, d, api.OK)
		wantKind(t, k, d, 0)
		wantDrop(t, k, d, api.ErrDesc)
		wantKeep(t, k, d, api.ErrDesc)
	}
	for _, d := range append([]int{0, -1, 5}, far...) {
		wantKeep(t, k, d, api.ErrDesc)
		wantDrop(t, k, d, api.ErrDesc)
	}
	wantOpen(t, k, "a", 1, 5)
	wantRead(t, k, 5, 9, "hello")
}

// TestGone: a description that is gone is none to any call; its number does not come again.
func TestGone(t *testing.T) {
	k := smallKernel(t, "hello", "")
	wantOpen(t, k, "a", 1+2, 1)
	wantOpen(t, k, "t", 1+2, 2)
	wantPipe(t, k, 3, 4)
	wantWrite(t, k, 4, "held", 4)
	for d := 1; d <= 4; d++ {
		wantDrop(t, k, d, api.OK)
		wantNoRead(t, k, d, 1, api.ErrDesc)
		wantNoWrite(t, k, d, "x", api.ErrDesc)
		wantNoSeek(t, k, d, 0, 0, api.ErrDesc)
		wantCan(t, k, d, 1, false, false)
		wantKind(t, k, d, 0)
		wantHeld(t, k, d, "")
	}
	wantOpen(t, k, "a", 1, 5)
	wantPipe(t, k, 6, 7)
	wantDrop(t, k, 7, api.OK)
	wantDrop(t, k, 6, api.OK)
	wantDrop(t, k, 5, api.OK)
	wantOpen(t, k, "t", 2, 8)
	wantFiles(t, k, aNamed("a", "hello"))
}

// TestOnePlace: all that hold a description share its place; each description has one of its own (P6.7).
func TestOnePlace(t *testing.T) {
	k := smallKernel(t, "hello", "")
	wantOpen(t, k, "a", 1+2, 1)
	wantOpen(t, k, "a", 1+2, 2)
	wantKeep(t, k, 1, api.OK)
	wantRead(t, k, 1, 2, "he")
	wantDrop(t, k, 1, api.OK)
	wantPlace(t, k, 1, 2)
	wantPlace(t, k, 2, 0)
	wantRead(t, k, 2, 1, "h")
	wantWrite(t, k, 1, "LL", 2)
	wantRead(t, k, 2, 4, "eLLo")
	wantWrite(t, k, 2, "!", 1)
	wantRead(t, k, 1, 9, "o!")
	wantDrop(t, k, 1, api.OK)
	wantPlace(t, k, 2, 6)
	wantOpen(t, k, "a", 1, 3)
	wantRead(t, k, 3, 9, "heLLo!")
}

func TestKindAndHeld(t *testing.T) {
	k := smallKernel(t, "hello", "")
	wantOpen(t, k, "a", 1, 1)
	wantOpen(t, k, "t", 1, 2)
	wantPipe(t, k, 3, 4)
	wantPipe(t, k, 5, 6)
	wantWrite(t, k, 4, "held", 4)
	for d, c := range []struct {
		kind int
		held string
	}{{0, ""}, {1, ""}, {2, ""}, {3, "held"}, {3, "held"}, {3, ""}, {3, ""}, {0, ""}} {
		wantKind(t, k, d, c.kind)
		wantHeld(t, k, d, c.held)
	}
	for _, d := range append([]int{-1}, far...) {
		wantKind(t, k, d, 0)
		wantHeld(t, k, d, "")
	}
	wantRead(t, k, 3, 3, "hel")
	wantHeld(t, k, 3, "d")
	wantHeld(t, k, 4, "d")
}

// TestFilesRise: by their names' bytes, new ones among them.
func TestFilesRise(t *testing.T) {
	k := kernelOf(t, Config{
		Files: []api.Named{aNamed("b", "1"), aNamed("~", "2"), aNamed("B", "3"), aNamed("ba", ""), aNamed("!", "5"), aNamed("a", "6")},
		Terms: []api.Typed{aTyped("Z"), aTyped("aa")},
	})
	wantOpen(t, k, "azz", 2+8, 1)
	wantWrite(t, k, 1, "7", 1)
	wantOpen(t, k, "10", 2+8, 2)
	wantOpen(t, k, "9", 2+8, 3)
	wantFiles(t, k, aNamed("!", "5"), aNamed("10", ""), aNamed("9", ""), aNamed("B", "3"), aNamed("a", "6"), aNamed("azz", "7"), aNamed("b", "1"), aNamed("ba", ""), aNamed("~", "2"))
	wantFiles(t, kernelOf(t, Config{}))
}

func TestScreenOfWhom(t *testing.T) {
	k := smallKernel(t, "hello", "")
	wantScreen(t, k, "t", "")
	for _, name := range []string{"a", "b", "", "T", "t ", "\x00", text(100)} {
		wantNoScreen(t, k, name)
	}
}

// TestHandle: its calls are its kernel's.
func TestHandle(t *testing.T) {
	k := smallKernel(t, "hello", "")
	wantOpen(t, k, "a", 1, 1)
	wantOpen(t, k, "a", 1+2, 2)
	h := Handle{K: k, D: 2}
	if b, e := h.Read(2); string(b) != "he" || e != api.OK {
		t.Errorf("P6.6: Read: %q, %d", b, e)
	}
	wantPlace(t, k, 1, 0)
	wantPlace(t, k, 2, 2)
	if n, e := h.Write([]byte("LL!")); n != 3 || e != api.OK {
		t.Errorf("P6.6: Write: %d, %d", n, e)
	}
	if n, e := h.Seek(-1, 2); n != 4 || e != api.OK {
		t.Errorf("P6.6: Seek: %d, %d", n, e)
	}
	wantPlace(t, k, 2, 4)
	wantFiles(t, k, aNamed("a", "heLL!"))
	wantMet(t, k, 1, 1, "")
	if _, e := (Handle{K: k, D: 1}).Write([]byte("x")); e != api.ErrMode {
		t.Errorf("P6.6: Write: %d; want ErrMode", e)
	}
	wantHandleErrors(t, Handle{K: k, D: 3}, api.ErrDesc)
	wantHandleErrors(t, Handle{K: k}, api.ErrDesc)
	wantHandleErrors(t, Handle{}, api.ErrMade)
	wantHandleErrors(t, Handle{D: 2}, api.ErrMade)
	wantHandleErrors(t, Handle{K: &Kernel{}, D: 1}, api.ErrMade)
}

func wantHandleErrors(t *testing.T, h Handle, e api.Errno) {
	t.Helper()
	for _, n := range append([]int{0, 1, api.MaxFile + 1, -1}, far...) {
		if b, got := h.Read(n); len(b) != 0 || got != e {
			t.Errorf("P6.6: Read(%d) of handle %d: %q, %d; want %d", n, h.D, b, got, e)
		}
		if place, got := h.Seek(n, n); place != 0 || got != e {
			t.Errorf("P6.6: Seek(%d, %d) of handle %d: %d, %d; want %d", n, n, h.D, place, got, e)
		}
	}
	for _, b := range [][]byte{nil, []byte("x"), make([]byte, api.MaxFile+1)} {
		if n, got := h.Write(b); n != 0 || got != e {
			t.Errorf("P6.6: Write of %d bytes of handle %d: %d, %d; want %d", len(b), h.D, n, got, e)
		}
	}
}

// TestNoNewMadeIt: what a kernel answers that no New made; no call makes it one.
func TestNoNewMadeIt(t *testing.T) {
	for _, k := range []*Kernel{nil, {}, new(Kernel)} {
		for range 2 {
			for _, flags := range append([]int{0, 1, 2 + 8}, far...) {
				wantNoOpen(t, k, "a", flags, api.ErrMade)
				wantNoOpen(t, k, "", flags, api.ErrMade)
			}
			wantNoPipe(t, k, api.ErrMade)
			for _, d := range append([]int{0, 1}, far...) {
				for _, n := range append([]int{0, 1}, far...) {
					wantNoRead(t, k, d, n, api.ErrMade)
					wantNoSeek(t, k, d, n, n, api.ErrMade)
					wantCan(t, k, d, n, false, false)
				}
				wantNoWrite(t, k, d, "", api.ErrMade)
				wantNoWrite(t, k, d, "x", api.ErrMade)
				wantKeep(t, k, d, api.ErrMade)
				wantDrop(t, k, d, api.ErrMade)
				wantKind(t, k, d, 0)
				wantHeld(t, k, d, "")
			}
			wantNoWrite(t, k, 1, text(api.MaxFile+1), api.ErrMade)
			wantMet(t, k, 0, 0, "")
			wantFiles(t, k)
			wantNoScreen(t, k, "t")
			wantNoScreen(t, k, "")
		}
	}
}
