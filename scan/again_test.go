package scan

import (
	"math"
	"slices"
	"strconv"
	"strings"
	"testing"

	"millrace/api"
	"millrace/format"
	"millrace/memory"
	"millrace/stream"
)

// someArgs are Args of that verb: numbers of any size, words of which no byte is blank.
func someArgs(verb string) []api.Arg {
	var l []api.Arg
	for bit := range 64 {
		for _, n := range []uint64{1<<bit - 1, 1 << bit, 1<<bit + 1, math.MaxUint64 - 1<<bit} {
			if verb == "d" {
				l = append(l, format.Int(int(n)), format.Int(-int(n)))
			} else if verb != "c" && verb != "s" {
				l = append(l, format.Uint(n))
			}
		}
	}
	for c := range 256 {
		b := string([]byte{byte(c)})
		isBlank := strings.Contains(" \n\t", b)
		if verb == "c" && !isBlank {
			l = append(l, format.Byte(byte(c)))
		}
		if verb == "s" && !isBlank {
			l = append(l, format.Text(b), format.Text("a"+b), format.Text(strings.Repeat(b, 1+c)))
		}
	}
	if verb == "s" {
		l = append(l, format.Text(letters(api.MaxWidth)), format.Text("%d"), format.Text("-17"))
	}
	return l
}

// againOf are the verbs of Format, with the one that reads each again.
var againOf = map[string]string{"d": "d", "u": "u", "x": "x", "X": "x", "o": "o", "c": "c", "s": "s"}

// wantAgain holds what Scan tells of what Format makes against the Args.
func wantAgain(t *testing.T, f, again string, args ...api.Arg) {
	t.Helper()
	b, e, _ := format.Format(f, args)
	if e != api.OK {
		t.Fatalf("Format(%q, %s): %d", f, said(args), e)
	}
	l, n, e := Scan(again, b)
	if !slices.Equal(l, args) || n != len(b) || e != api.OK {
		t.Errorf("P18.3: Scan(%q) of %s, Format(%q): %s, %d, %d, not %s", again, short(b), f, said(l), n, e, said(args))
	}
}

// TestAgainOne: what Format made of one directive is read again (P18.3).
func TestAgainOne(t *testing.T) {
	for verb, again := range againOf {
		for _, a := range someArgs(verb) {
			wantAgain(t, "%"+verb, "%"+again, a)
			wantAgain(t, "%"+verb, " %"+again, a)
			if verb != "c" {
				// What a width lays ahead is passed.
				wantAgain(t, "%40"+verb, "%"+again, a)
			}
		}
	}
}

// TestAgainMany: what Format made of one directive each, a blank between, is read again (P18.3).
func TestAgainMany(t *testing.T) {
	roll := dice(183)
	argsOf := map[string][]api.Arg{}
	for verb := range againOf {
		argsOf[verb] = someArgs(verb)
	}
	for range 20000 {
		var f, again []string
		var args []api.Arg
		for range 1 + roll(6) {
			verb := "duxXocs"[roll(7):][:1]
			f = append(f, "%"+verb)
			again = append(again, "%"+againOf[verb])
			args = append(args, argsOf[verb][roll(len(argsOf[verb]))])
		}
		wantAgain(t, strings.Join(f, " "), strings.Join(again, " "), args...)
		wantAgain(t, strings.Join(f, "\n"), strings.Join(again, " "), args...)
	}
}

// TestAgainThrough: what was printed on a stream is read from it again, through buffers of each mode and size (P18.3, P18.4).
func TestAgainThrough(t *testing.T) {
	for mode, size := range buffers {
		g, _ := memory.NewGrowing(nil)
		s := both(mode, size)
		ints, words := someArgs("d"), someArgs("s")
		for i, a := range ints {
			var e api.Errno
			if s, _, e = format.Print(s, g, "%d %s\n", []api.Arg{a, words[i]}); e != api.OK {
				t.Fatal("Print:", e)
			}
		}
		if _, e := stream.Flush(s, g); e != api.OK {
			t.Fatal("Flush:", e)
		}
		g.Seek(0, 0)
		s = both(mode, size)
		for i, a := range ints {
			s = read(t, s, g, "%d %s", api.OK, a, words[i])
		}
		s = read(t, s, g, "\n", api.OK)
		read(t, s, g, "%c", api.ErrEnd)
	}
}

// TestAgainLong: as many as a pattern has room for (P18.3).
func TestAgainLong(t *testing.T) {
	f := strings.Repeat("%d ", api.MaxLine/3)
	args := make([]api.Arg, api.MaxLine/3)
	for i := range args {
		args[i] = format.Int(i%19 - 9)
	}
	wantAgain(t, f, f, args...)
	wantAgain(t, "%"+strconv.Itoa(api.MaxWidth)+"s", "%s", format.Text(letters(99)))
}
