package kern

import (
	"strconv"
	"strings"
	"testing"

	"millrace/api"
)

// manyFiles are n files with names and bytes of their own.
func manyFiles(n int) []api.Named {
	var l []api.Named
	for i := range n {
		l = append(l, aNamed("f"+strconv.Itoa(1000+i), strconv.Itoa(i)))
	}
	return l
}

func manyTerms(n int) []api.Typed {
	var l []api.Typed
	for i := range n {
		l = append(l, aTyped("t"+strconv.Itoa(1000+i), strconv.Itoa(i)))
	}
	return l
}

// wantConfig holds Check and New against what is wanted.
func wantConfig(t *testing.T, what string, c Config, e api.Errno) {
	t.Helper()
	if got := Check(c); got != e {
		t.Errorf("P6.1: Check: %s: %d; want %d", what, got, e)
	}
	k, got := New(c)
	if got != e || (k != nil) != (e == api.OK) {
		t.Errorf("P6.1: New: %s: %v, %d; want %d", what, k != nil, got, e)
	}
}

func TestNothingToBeginWith(t *testing.T) {
	for _, c := range []Config{{}, {Files: []api.Named{}, Terms: []api.Typed{}, Faults: []api.Fault{}}} {
		wantConfig(t, "nothing", c, api.OK)
		k := kernelOf(t, c)
		wantFiles(t, k)
		wantMet(t, k, 0, 0, "")
		wantNoOpen(t, k, "a", 1, api.ErrNone)
		wantKind(t, k, 1, 0)
		wantOpen(t, k, "a", 1+2+8, 1)
		wantWrite(t, k, 1, "x", 1)
		wantFiles(t, k, aNamed("a", "x"))
		wantPipe(t, k, 2, 3)
	}
}

// TestWhatItBeginsWith: files with their bytes, terminals with their lines, the faults; no description.
func TestWhatItBeginsWith(t *testing.T) {
	k := kernelOf(t, Config{
		Files:  []api.Named{aNamed("b", "two"), aNamed("a", "one"), {Name: "c"}},
		Terms:  []api.Typed{aTyped("t", "x\n", "y"), aTyped("u"), aTyped("v", "", "z")},
		Faults: whims(t, "f s2 a f i"),
	})
	wantMet(t, k, 0, 0, "f s2 a f i")
	wantFiles(t, k, aNamed("a", "one"), aNamed("b", "two"), aNamed("c", ""))
	for d := range 10 {
		wantKind(t, k, d, 0)
	}
	for _, name := range []string{"t", "u", "v"} {
		wantScreen(t, k, name, "")
	}
	wantOpen(t, k, "b", 1, 1)
	wantOpen(t, k, "t", 1, 2)
	wantOpen(t, k, "u", 1, 3)
	wantOpen(t, k, "v", 1, 4)
	wantRead(t, k, 1, 9, "two")
	wantRead(t, k, 2, 9, "x\n")
	wantNoRead(t, k, 3, 9, api.ErrAgain)
	wantRead(t, k, 3, 9, "")
	wantNoRead(t, k, 4, 9, api.ErrIntr)
	wantRead(t, k, 4, 9, "")
	wantRead(t, k, 4, 9, "z")
	wantRead(t, k, 2, 9, "y")
	wantMet(t, k, 8, 0, "")
}

func TestHowManyObjects(t *testing.T) {
	for _, c := range []struct{ files, terms int }{{0, 0}, {1, 0}, {0, 1}, {256, 0}, {0, 256}, {128, 128}, {255, 1}, {1, 255}} {
		wantConfig(t, "256 at most", Config{Files: manyFiles(c.files), Terms: manyTerms(c.terms)}, api.OK)
		wantFiles(t, kernelOf(t, Config{Files: manyFiles(c.files), Terms: manyTerms(c.terms)}), manyFiles(c.files)...)
	}
	for _, c := range []struct{ files, terms int }{{257, 0}, {0, 257}, {129, 128}, {256, 1}, {1, 256}, {256, 256}, {1000, 0}} {
		wantConfig(t, "more than 256", Config{Files: manyFiles(c.files), Terms: manyTerms(c.terms)}, api.ErrCount)
	}
}

// fineNames and wrongNames are at the edges of what a name may be.
func fineNames() []string {
	l := []string{"a", "!", "~", "!~", "-", "a/b", strings.Repeat("x", 63), strings.Repeat("~", 64), "|", "<"}
	for b := 33; b <= 126; b++ {
		l = append(l, "x"+string([]byte{byte(b)})+"y")
	}
	return l
}

func wrongNames() []string {
	l := []string{"", strings.Repeat("x", 65), strings.Repeat("x", 66), text(1000), "\u00e9", "a\xcc\x81"}
	for b := range 256 {
		if b >= 33 && b <= 126 {
			continue
		}
		c := string([]byte{byte(b)})
		l = append(l, c, c+"a", "a"+c, "a"+c+"a", strings.Repeat("x", 63)+c, c+strings.Repeat("x", 63))
	}
	return l
}

func TestNames(t *testing.T) {
	for _, name := range fineNames() {
		wantConfig(t, name, Config{Files: []api.Named{aNamed(name, "x")}}, api.OK)
		wantConfig(t, name, Config{Terms: []api.Typed{aTyped(name, "x")}}, api.OK)
		k := kernelOf(t, Config{Terms: []api.Typed{aTyped("screen")}})
		wantNoOpen(t, k, name, 1, api.ErrNone)
		wantOpen(t, k, name, 2+8, 1)
		wantOpen(t, k, name, 1, 2)
		wantFiles(t, k, aNamed(name, ""))
	}
	for _, name := range wrongNames() {
		wantConfig(t, name, Config{Files: []api.Named{aNamed("a", ""), aNamed(name, "x")}}, api.ErrName)
		wantConfig(t, name, Config{Files: []api.Named{aNamed("a", "")}, Terms: []api.Typed{aTyped(name, "x")}}, api.ErrName)
		k := smallKernel(t, "hello", "")
		for _, flags := range append([]int{0, 1, 2 + 8, 2 + 8 + 32, 64, -1}, far...) {
			wantNoOpen(t, k, name, flags, api.ErrName)
		}
		wantFiles(t, k, aNamed("a", "hello"))
		wantOpen(t, k, "a", 1, 1)
	}
}

func TestNamesTwice(t *testing.T) {
	one, two := aNamed("a", "1"), aNamed("b", "2")
	wantConfig(t, "files", Config{Files: []api.Named{one, two, one}}, api.ErrTwice)
	wantConfig(t, "files", Config{Files: []api.Named{one, aNamed("a", "other")}}, api.ErrTwice)
	wantConfig(t, "terminals", Config{Terms: []api.Typed{aTyped("a"), aTyped("b"), aTyped("a")}}, api.ErrTwice)
	wantConfig(t, "both", Config{Files: []api.Named{one, two}, Terms: []api.Typed{aTyped("c"), aTyped("b")}}, api.ErrTwice)
	wantConfig(t, "other letters", Config{Files: []api.Named{one, aNamed("A", "")}, Terms: []api.Typed{aTyped("aa"), aTyped("AA")}}, api.OK)
	last := append(manyFiles(255), manyFiles(1)...)
	wantConfig(t, "the first and the last", Config{Files: last}, api.ErrTwice)
}

// longFile, manyLines and longLine are parts of a Config that may not be.
func longFile(name string) api.Named { return aNamed(name, text(api.MaxFile+1)) }

func manyLines(name string) api.Typed {
	return api.Typed{Name: name, Lines: make([][]byte, api.MaxInput+1)}
}

func longLine(name string) api.Typed {
	return aTyped(name, "x", strings.Repeat("x", api.MaxTyped+1))
}

func TestConfigAtItsEdges(t *testing.T) {
	all := text(api.MaxFile)
	c := Config{
		Files:  []api.Named{aNamed("a", all), aNamed("b", all)},
		Terms:  []api.Typed{{Name: "t", Lines: make([][]byte, api.MaxInput)}, aTyped("u", strings.Repeat("y", api.MaxTyped))},
		Faults: make([]api.Fault, api.MaxFaults),
	}
	wantConfig(t, "the most of each", c, api.OK)
	k := kernelOf(t, c)
	wantFiles(t, k, c.Files...)
	wantOpen(t, k, "u", 1, 1)
	wantRead(t, k, 1, api.MaxFile, strings.Repeat("y", api.MaxTyped))
	if n := len(k.Rest()); n != api.MaxFaults-1 {
		t.Errorf("P6.5: Rest: %d; want %d", n, api.MaxFaults-1)
	}
}

// TestConfigErrors: each error, and in their order where several hold at once.
func TestConfigErrors(t *testing.T) {
	wrong := []api.Fault{{Kind: 1, N: 1}, {Kind: 4}}
	fine := []api.Named{aNamed("a", "1"), aNamed("b", "2")}
	for _, c := range []struct {
		what string
		c    Config
		e    api.Errno
	}{
		{"a long file", Config{Files: []api.Named{longFile("a")}}, api.ErrLong},
		{"many lines", Config{Terms: []api.Typed{manyLines("a")}}, api.ErrCount},
		{"a long line", Config{Terms: []api.Typed{longLine("a")}}, api.ErrLong},
		{"a wrong fault", Config{Faults: wrong}, api.ErrFault},
		{"a fault with a wrong N", Config{Faults: []api.Fault{{Kind: 1, N: 0}}}, api.ErrFault},
		{"a fault of another kind", Config{Faults: []api.Fault{{Kind: -1}}}, api.ErrFault},
		{"many faults", Config{Faults: make([]api.Fault, api.MaxFaults+1)}, api.ErrCount},
		{"too many, and all else", Config{Files: append(manyFiles(256), longFile(""), longFile("")), Terms: []api.Typed{manyLines("")}, Faults: wrong}, api.ErrCount},
		{"a wrong name ahead of its length", Config{Files: []api.Named{longFile("")}}, api.ErrName},
		{"twice ahead of its length", Config{Files: append(fine, longFile("a"))}, api.ErrTwice},
		{"the first file's length ahead of the next one's name", Config{Files: []api.Named{longFile("a"), aNamed("", "")}}, api.ErrLong},
		{"the first file's length ahead of the next one that is twice", Config{Files: []api.Named{longFile("a"), aNamed("a", "")}}, api.ErrLong},
		{"the first file's name ahead of the next one's length", Config{Files: []api.Named{aNamed(" ", ""), longFile("b")}}, api.ErrName},
		{"a file twice ahead of the next one's name", Config{Files: append(fine, aNamed("b", ""), aNamed("", ""))}, api.ErrTwice},
		{"a file's name ahead of a later one that is twice", Config{Files: append(fine, aNamed("", ""), aNamed("b", ""))}, api.ErrName},
		{"a wrong name twice", Config{Files: []api.Named{aNamed("", ""), aNamed("", "")}}, api.ErrName},
		{"a file's length ahead of a terminal's name", Config{Files: []api.Named{longFile("a")}, Terms: []api.Typed{aTyped("")}}, api.ErrLong},
		{"a terminal's name ahead of its lines", Config{Terms: []api.Typed{manyLines("")}}, api.ErrName},
		{"a terminal's name ahead of its lines' length", Config{Terms: []api.Typed{longLine("\x7f")}}, api.ErrName},
		{"a terminal twice ahead of its lines", Config{Files: fine, Terms: []api.Typed{manyLines("b")}}, api.ErrTwice},
		{"a terminal twice ahead of its lines' length", Config{Terms: []api.Typed{aTyped("t"), longLine("t")}}, api.ErrTwice},
		{"the first terminal's lines ahead of the next one's name", Config{Terms: []api.Typed{manyLines("t"), aTyped("")}}, api.ErrCount},
		{"the first terminal's line ahead of the next one that is twice", Config{Terms: []api.Typed{longLine("t"), aTyped("t")}}, api.ErrLong},
		{"the first terminal's name ahead of the next one's lines", Config{Terms: []api.Typed{aTyped(""), manyLines("t")}}, api.ErrName},
		{"many lines ahead of a long one", Config{Terms: []api.Typed{{Name: "t", Lines: append(make([][]byte, api.MaxInput), make([]byte, api.MaxTyped+1))}}}, api.ErrCount},
		{"a file ahead of the faults", Config{Files: []api.Named{aNamed("", "")}, Faults: wrong}, api.ErrName},
		{"a terminal ahead of the faults", Config{Terms: []api.Typed{longLine("t")}, Faults: wrong}, api.ErrLong},
		{"a terminal's name ahead of the faults", Config{Terms: []api.Typed{aTyped("")}, Faults: make([]api.Fault, api.MaxFaults+1)}, api.ErrName},
		{"many faults ahead of a wrong one", Config{Faults: append(make([]api.Fault, api.MaxFaults), api.Fault{Kind: 9})}, api.ErrCount},
	} {
		wantConfig(t, c.what, c.c, c.e)
	}
}

// flagsAre tells by the chapter's words whether the flags may be.
func flagsAre(flags int) bool {
	has := func(bit int) bool { return flags/bit%2 == 1 }
	if flags < 0 || flags > 63 || !has(1) && !has(2) {
		return false
	}
	return (!has(4) || has(2)) && (!has(16) || has(2)) && (!has(32) || has(8))
}

// TestEverySumOfFlags: of a name that there is, one that there is not, and a terminal's.
func TestEverySumOfFlags(t *testing.T) {
	for flags := -2; flags <= 66; flags++ {
		for _, name := range []string{"a", "new", "t"} {
			k := smallKernel(t, "hello", "")
			reads, writes := flags%2 == 1, flags/2%2 == 1
			there, creates := name != "new", flags/8%2 == 1
			switch {
			case !flagsAre(flags):
				wantNoOpen(t, k, name, flags, api.ErrMode)
			case there && flags/32%2 == 1:
				wantNoOpen(t, k, name, flags, api.ErrExist)
			case !there && !creates:
				wantNoOpen(t, k, name, flags, api.ErrNone)
			default:
				wantOpen(t, k, name, flags, 1)
				wantCan(t, k, 1, 1, reads, writes)
				wantOpened(t, k, name, flags)
				continue
			}
			wantKind(t, k, 1, 0)
			wantFiles(t, k, aNamed("a", "hello"))
			wantOpen(t, k, "a", 1, 1)
		}
	}
	k := smallKernel(t, "hello", "")
	for _, flags := range append([]int{-1, 64, 65, 64 + 2 + 16, 128 + 2}, far...) {
		wantNoOpen(t, k, "a", flags, api.ErrMode)
		wantNoOpen(t, k, "new", flags, api.ErrMode)
	}
	wantFiles(t, k, aNamed("a", "hello"))
}

// wantOpened holds what description 1 of that name does against its flags.
func wantOpened(t *testing.T, k *Kernel, name string, flags int) {
	t.Helper()
	reads, writes, appends, truncates := flags%2 == 1, flags/2%2 == 1, flags/4%2 == 1, flags/16%2 == 1
	data := map[string]string{"a": "hello", "new": "", "t": "one\n"}[name]
	if name == "t" {
		wantKind(t, k, 1, 2)
		wantNoSeek(t, k, 1, 0, 1, api.ErrSeek)
	} else {
		wantKind(t, k, 1, 1)
		wantPlace(t, k, 1, 0)
		if truncates {
			data = ""
		}
	}
	if reads {
		wantRead(t, k, 1, 9, data)
	} else {
		wantNoRead(t, k, 1, 9, api.ErrMode)
	}
	if name != "t" {
		wantSeek(t, k, 1, 0, 0, 0)
	}
	if !writes {
		wantNoWrite(t, k, 1, "J!", api.ErrMode)
		return
	}
	wantWrite(t, k, 1, "J!", 2)
	switch {
	case name == "t":
		wantScreen(t, k, "t", "J!")
		wantFiles(t, k, aNamed("a", "hello"))
		return
	case appends:
		data += "J!"
	case data == "":
		data = "J!"
	default:
		data = "J!" + data[2:]
	}
	if name == "a" {
		wantFiles(t, k, aNamed("a", data))
	} else {
		wantFiles(t, k, aNamed("a", "hello"), aNamed("new", data))
	}
}

// TestTruncating: the file is empty then to all of its descriptions, whose places stay.
func TestTruncating(t *testing.T) {
	k := smallKernel(t, "hello", "")
	wantOpen(t, k, "a", 1+2, 1)
	wantRead(t, k, 1, 3, "hel")
	wantOpen(t, k, "a", 2+16, 2)
	wantFiles(t, k, aNamed("a", ""))
	wantPlace(t, k, 1, 3)
	wantRead(t, k, 1, 9, "")
	wantWrite(t, k, 1, "!", 1)
	wantFiles(t, k, aNamed("a", "\x00\x00\x00!"))
	wantOpen(t, k, "a", 2+8+16, 3)
	wantFiles(t, k, aNamed("a", ""))
	wantNoOpen(t, k, "a", 2+8+16+32, api.ErrExist)
}

// TestRefusedOpenChangesNothing: it neither truncates nor creates, and takes no number.
func TestRefusedOpenChangesNothing(t *testing.T) {
	k := smallKernel(t, "hello", "i")
	wantNoOpen(t, k, "a", 2+8+16+32, api.ErrExist)
	wantNoOpen(t, k, "t", 2+8+16+32, api.ErrExist)
	wantNoOpen(t, k, "a", 1+16, api.ErrMode)
	wantNoOpen(t, k, "b", 1+8+16, api.ErrMode)
	wantNoOpen(t, k, "b", 2+16, api.ErrNone)
	wantNoOpen(t, k, "b ", 2+8+16, api.ErrName)
	wantFiles(t, k, aNamed("a", "hello"))
	wantMet(t, k, 0, 0, "i")
	wantOpen(t, k, "a", 1, 1)
	wantNoOpen(t, k, "b", 1, api.ErrNone)
	wantOpen(t, k, "a", 1, 2)
}

// TestHowManyDescriptions: MaxDescs of them; of a kernel that has so many it is said ahead of what hangs on the name.
func TestHowManyDescriptions(t *testing.T) {
	k := smallKernel(t, "hello", "")
	for d := 1; d <= api.MaxDescs; d++ {
		wantOpen(t, k, []string{"a", "t"}[d%2], 1, d)
	}
	for range 2 {
		wantNoOpen(t, k, "a", 1, api.ErrCount)
		wantNoOpen(t, k, "a", 2+16, api.ErrCount)
		wantNoOpen(t, k, "a", 2+8+32, api.ErrCount)
		wantNoOpen(t, k, "t", 2, api.ErrCount)
		wantNoOpen(t, k, "b", 1, api.ErrCount)
		wantNoOpen(t, k, "b", 2+8, api.ErrCount)
		wantNoOpen(t, k, "b", 0, api.ErrMode)
		wantNoOpen(t, k, "", 1, api.ErrName)
		wantNoPipe(t, k, api.ErrCount)
	}
	wantFiles(t, k, aNamed("a", "hello"))
	wantKeep(t, k, 7, api.OK)
	wantDrop(t, k, 7, api.OK)
	wantNoOpen(t, k, "a", 1, api.ErrCount)
	wantDrop(t, k, 7, api.OK)
	wantNoPipe(t, k, api.ErrCount)
	wantOpen(t, k, "a", 1, 257)
	wantNoOpen(t, k, "a", 1, api.ErrCount)
	wantDrop(t, k, 257, api.OK)
	wantDrop(t, k, 1, api.OK)
	wantPipe(t, k, 258, 259)
	wantNoPipe(t, k, api.ErrCount)
	wantDrop(t, k, 258, api.OK)
	wantNoPipe(t, k, api.ErrCount)
	wantDrop(t, k, 259, api.OK)
	wantPipe(t, k, 260, 261)
}

// TestPipesFillTheRoom: 128 pipes are MaxDescs descriptions.
func TestPipesFillTheRoom(t *testing.T) {
	k := kernelOf(t, Config{})
	for i := range api.MaxDescs / 2 {
		wantPipe(t, k, 2*i+1, 2*i+2)
	}
	wantNoPipe(t, k, api.ErrCount)
	wantNoOpen(t, k, "a", 2+8, api.ErrCount)
}

// TestHowManyFilesAreMade: of MaxObjects files and terminals none is made any more, and each is opened as before.
func TestHowManyFilesAreMade(t *testing.T) {
	for _, terms := range []int{0, 1, 100} {
		k := kernelOf(t, Config{Files: manyFiles(255 - terms), Terms: manyTerms(terms)})
		wantPipe(t, k, 1, 2)
		wantOpen(t, k, "x", 2+8, 3)
		for _, flags := range []int{2 + 8, 1 + 8, 2 + 8 + 32, 2 + 8 + 16} {
			wantNoOpen(t, k, "y", flags, api.ErrCount)
		}
		wantNoOpen(t, k, "y", 2, api.ErrNone)
		wantNoOpen(t, k, "x", 2+8+32, api.ErrExist)
		wantOpen(t, k, "x", 2+8, 4)
		wantOpen(t, k, "f1000", 2+8+16, 5)
		want := append(manyFiles(255-terms), aNamed("x", ""))
		want[0].Data = nil
		wantFiles(t, k, want...)
	}
	k := kernelOf(t, Config{Terms: manyTerms(256)})
	wantNoOpen(t, k, "y", 2+8, api.ErrCount)
	wantOpen(t, k, "t1000", 2+8, 1)
	k = kernelOf(t, Config{})
	for i := range api.MaxObjects {
		d, e := k.Open("f"+strconv.Itoa(i), 2+8+32)
		if e != api.OK {
			t.Fatalf("P6.2: Open of file %d: %d", i, e)
		}
		wantDrop(t, k, d, api.OK)
	}
	wantNoOpen(t, k, "f256", 2+8, api.ErrCount)
	wantOpen(t, k, "f255", 2, 257)
}
