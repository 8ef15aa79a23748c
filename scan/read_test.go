package scan

import (
	"fmt"
	"slices"
	"strconv"
	"strings"
	"testing"

	"millrace/api"
	"millrace/pushback"
	"millrace/retry"
	"millrace/stream"
)

// TestReadExamples: those of the chapter, by each buffer.
func TestReadExamples(t *testing.T) {
	for mode, size := range buffers {
		s := both(mode, size)
		x := texts(" -5 ab c")
		left := read(t, s, x, "%d %s", api.OK, in(-5), word("ab"))
		if b := rest(t, left, x); b != " c" {
			t.Errorf("P18.2: behind Read comes %q", b)
		}
		read(t, s, texts("1234"), "%2d%d", api.OK, in(12), in(34))
		x = texts("y1")
		if b := rest(t, read(t, s, x, "x%d", api.ErrMatch), x); b != "y1" {
			t.Errorf("P18.2: behind Read comes %q", b)
		}
		wantState(t, "P18.2: Read", read(t, s, texts("+"), "%d", api.ErrEnd), ended(got(mode, size, "", "")))
	}
}

// TestRefusals: the first error that holds is told, beside nothing but the state that was handed in; no raw call is made (P18.2, P4).
func TestRefusals(t *testing.T) {
	open := []stream.State{both(3, 4), got(2, 4, "in", "back"), bad(ended(holding(3, 4, "out"))), both(1, 4), {Mode: 3, Size: 4}, {Reads: true, Mode: 1, Size: 4}, {Writes: true, Mode: 2, Size: 4}, holding(3, 3, "out")}
	patterns := map[string]api.Errno{"": api.OK, "%d": api.OK, "%y": api.ErrFormat, "%d%": api.ErrFormat, "i%0d": api.ErrFormat, strings.Repeat(" ", api.MaxLine+1): api.ErrLong, strings.Repeat("%", api.MaxLine+1): api.ErrLong}
	for f, last := range patterns {
		want := func(s stream.State, wantE api.Errno) {
			t.Helper()
			x := texts("abc")
			if got := reading(s, x, f); !got.is(outcome{s: s, e: wantE}) {
				t.Errorf("P4: Read(%s), %s: %s, not %d", short([]byte(f)), show(s), got, wantE)
			}
			wantCalls(t, "Read", x)
		}
		wantMade := func(s stream.State, wantE api.Errno) {
			t.Helper()
			if got := reading(s, nil, f); !got.is(outcome{s: s, e: wantE}) {
				t.Errorf("P4: Read(%s), %s, no Raw: %s, not %d", short([]byte(f)), show(s), got, wantE)
			}
		}
		for _, s := range wrongStates {
			want(s, api.ErrState)
			wantMade(s, api.ErrState)
		}
		for _, mode := range []int{1, 2, 3} {
			for _, s := range []stream.State{done(both(mode, 4)), done(bad(ended(both(mode, 4)))), done(stream.State{Mode: mode, Size: 4})} {
				want(s, api.ErrClosed)
				wantMade(s, api.ErrMade)
			}
		}
		for _, s := range open {
			wantMade(s, api.ErrMade)
			if last != api.OK {
				want(s, last)
			}
		}
	}
}

// TestReadNothing: by an empty pattern nothing is got, said or changed, whatever the stream is open for and whichever way it goes (P18.2).
func TestReadNothing(t *testing.T) {
	for mode := 1; mode <= 3; mode++ {
		states := []stream.State{both(mode, 4), {Mode: mode, Size: 4}, {Writes: true, Mode: mode, Size: 4}, got(mode, 4, "in", "back"), holding(mode, 4, ""), bad(ended(got(mode, 4, "", ""))), ended(got(mode, 4, "in", "b"))}
		if mode != 1 {
			states = append(states, holding(mode, 4, "abc\n"))
		}
		for _, s := range states {
			x := texts("abc")
			wantState(t, "P18.2: Read of nothing", read(t, s, x, "", api.OK), s)
			wantCalls(t, "nothing", x)
		}
	}
}

// somePatterns are patterns that may be, of one part and of more.
var somePatterns = []string{" ", "\n", "a", "%%", "\t", "%d", "%u", "%x", "%o", "%c", "%s", "%*d", "%3c", "%2s", "%1d", " %c", "%d %s", "%d,%d", "%s%s%s", "a b c", "%2d%2d%2d", "%c%*c%c", "%x %*s %d "}

// TestOtherWay: a stream that does not read, and one that goes the other way, say so at the first Get, be it for blanks alone (P18.2).
func TestOtherWay(t *testing.T) {
	for _, f := range somePatterns {
		for mode := 1; mode <= 3; mode++ {
			for _, s := range []stream.State{{Mode: mode, Size: 4}, {Writes: true, Mode: mode, Size: 4}, ended(bad(stream.State{Writes: true, Mode: mode, Size: 4, Dir: 2}))} {
				x := texts("1 2 3")
				wantState(t, "P18.2: Read", read(t, s, x, f, api.ErrMode), s)
				wantCalls(t, "ErrMode", x)
			}
			for _, s := range []stream.State{holding(mode, 4, ""), ended(holding(mode, 4, "")), bad(holding(mode, 4, "out"[:mode-1]))} {
				x := texts("1 2 3")
				wantState(t, "P18.2: Read", read(t, s, x, f, api.ErrDir), s)
				wantCalls(t, "ErrDir", x)
			}
		}
	}
}

// TestGotNext: the byte that did not fit is pushed back: it is in Back, and got next (P18.2).
func TestGotNext(t *testing.T) {
	for _, c := range []struct {
		f, b string
		n    int
		e    api.Errno
	}{
		{" ", "a", 0, api.OK}, {" ", " \t\na b", 3, api.OK}, {"a", "b", 0, api.ErrMatch}, {"%%", "%%", 1, api.OK}, {"%%", "x", 0, api.ErrMatch},
		{"%*d", "12x3", 2, api.OK}, {"%*d", "+x", 1, api.ErrMatch}, {"%*d", "x", 0, api.ErrMatch}, {"%*d", " 9223372036854775808.", 20, api.ErrMatch},
		{"%*s", "ab cd", 2, api.OK}, {"%*x", "g", 0, api.ErrMatch}, {"%*o", "78", 1, api.OK}, {"%*u", " \n-", 2, api.ErrMatch}, {"ab", "acd", 1, api.ErrMatch},
	} {
		pushed := c.f != "%%" || c.n == 0
		for mode, size := range buffers {
			x := texts(c.b)
			s := read(t, both(mode, size), x, c.f, c.e)
			if pushed && string(s.Back) != c.b[c.n:c.n+1] || !pushed && len(s.Back) > 0 || s.Dir != 1 || s.End || s.Bad {
				t.Errorf("P18.2: Read(%q) of %q: %s", c.f, c.b, show(s))
			}
			held, _ := pushback.Held(s)
			if !strings.HasPrefix(c.b[c.n:], string(held)) {
				t.Errorf("P18.2: Read(%q) of %q: %q is got next", c.f, c.b, held)
			}
			if b := rest(t, s, x); b != c.b[c.n:] {
				t.Errorf("P18.2: Read(%q) of %q leaves %q", c.f, c.b, b)
			}
		}
	}
}

// TestNoByteBehind: no byte is got behind the pattern's end, nor behind a width that is filled: a stream without a buffer asks for each byte that is looked at, and for no other (P18.2, P5).
func TestNoByteBehind(t *testing.T) {
	for _, c := range []struct {
		f, b string
		// looked is how many bytes are looked at, the end counted as one.
		looked int
		e      api.Errno
	}{
		{"", "ab", 0, api.OK}, {"a", "ab", 1, api.OK}, {"%%", "%%", 1, api.OK}, {"ab", "ab", 2, api.OK}, {"b", "ab", 1, api.ErrMatch},
		{"%*c", "ab", 1, api.OK}, {"%*3c", "abcd", 3, api.OK}, {"%*3c", "ab", 3, api.ErrEnd},
		{"%*2d", "1234", 2, api.OK}, {"%*2d", "-123", 2, api.OK}, {"%*1d", "-123", 1, api.ErrMatch}, {"%*1d", "+", 1, api.ErrMatch}, {"%*3d", "1 2", 2, api.OK}, {"%*d", "12", 3, api.OK},
		{"%*2s", "abc", 2, api.OK}, {"%*3s", " abcd", 4, api.OK}, {"%*s", "abc d", 4, api.OK}, {"%*4x", "ffff0", 4, api.OK},
		{" ", "ab", 1, api.OK}, {" ", "", 1, api.OK}, {" ", "  ", 3, api.OK}, {"a ", "a b", 3, api.OK}, {"%*2d ", "12  x", 5, api.OK},
		{"%*d", "", 1, api.ErrEnd}, {"%*d", "+", 2, api.ErrEnd}, {"%*d", "   ", 4, api.ErrEnd}, {"a", "", 1, api.ErrEnd}, {"%*c", "", 1, api.ErrEnd},
	} {
		x := texts(c.b)
		read(t, both(1, 9), x, c.f, c.e)
		wantCalls(t, fmt.Sprintf("Read(%q) of %q", c.f, c.b), x, slices.Repeat([]string{readCall(1)}, c.looked)...)
	}
	b := strings.Repeat("7", api.MaxWidth+1)
	for _, f := range []string{"%*s", "%*4096s", "%*4096c", "%*x", "%*u"} {
		x := texts(b)
		reading(both(1, 9), x, f)
		if len(x.calls) != api.MaxWidth {
			t.Errorf("P18.2: Read(%q): %d reads", f, len(x.calls))
		}
	}
}

// TestRawErrors: an error of a Get but ErrEnd is told, with the Args so far; a number or a word that is cut by it is not told (P18.2).
func TestRawErrors(t *testing.T) {
	errors := append([]api.Errno{api.ErrBlock}, rawErrors...)
	for _, c := range []struct {
		f, b string
		args []api.Arg
		// least: what is read has its least, so that an end would end it.
		least []api.Arg
		end   api.Errno
	}{
		{" ", "", nil, nil, api.OK}, {" ", " \t", nil, nil, api.OK}, {"a", "", nil, nil, api.ErrEnd}, {"ab", "a", nil, nil, api.ErrEnd}, {"%%", "", nil, nil, api.ErrEnd},
		{"%d", "", nil, nil, api.ErrEnd}, {"%d", " ", nil, nil, api.ErrEnd}, {"%d", "+", nil, nil, api.ErrEnd}, {"%d", "+1", nil, []api.Arg{in(1)}, api.OK}, {"%u", "12", nil, []api.Arg{un(12)}, api.OK},
		{"%x", "f", nil, []api.Arg{un(15)}, api.OK}, {"%3o", "17", nil, []api.Arg{un(15)}, api.OK}, {"%u", "18446744073709551616", nil, nil, api.ErrMatch},
		{"%s", "", nil, nil, api.ErrEnd}, {"%s", "ab", nil, []api.Arg{word("ab")}, api.OK}, {"%c", "", nil, nil, api.ErrEnd}, {"%3c", "ab", nil, nil, api.ErrEnd},
		{"%d %s", "1 ", []api.Arg{in(1)}, []api.Arg{in(1)}, api.ErrEnd}, {"%d %s", "1 a", []api.Arg{in(1)}, []api.Arg{in(1), word("a")}, api.OK}, {"%c%c%c", "ab", []api.Arg{char('a'), char('b')}, []api.Arg{char('a'), char('b')}, api.ErrEnd},
		{"%d ", "1 ", []api.Arg{in(1)}, []api.Arg{in(1)}, api.OK}, {"%*d%s", "1", nil, nil, api.ErrEnd}, {"%*d", "1", nil, nil, api.OK},
	} {
		for _, e := range errors {
			for mode, size := range buffers {
				x := texts()
				if c.b != "" {
					// A read of no bytes would be the end.
					x = texts(c.b)
				}
				x.then(e)
				call := fmt.Sprintf("P18.2: Read(%q) of %q and %d", c.f, c.b, e)
				want := got(mode, size, "", "")
				if e != api.ErrBlock {
					want = bad(want)
				}
				if e == api.ErrEnd {
					// What the Raw says so is the end of a Get.
					s := read(t, both(mode, size), x, c.f, c.end, c.least...)
					if s.Bad != true {
						t.Errorf("%s: %s", call, show(s))
					}
					continue
				}
				wantState(t, call, read(t, both(mode, size), x, c.f, e, c.args...), want)
				if len(x.reads) != 0 || t.Failed() {
					t.Fatalf("%s: the error was not met", call)
				}
			}
		}
	}
}

// TestRawEnd: a Raw that says ErrEnd of its own says that the bytes end, where blanks are passed too: it is not asked once more for the same directive (P18.2, P5).
func TestRawEnd(t *testing.T) {
	for _, f := range []string{"%d", "%u", "%x", "%o", "%s", " %c", " x"} {
		for _, b := range []string{"", " ", " \n\t"} {
			x := texts(b).then(api.ErrEnd)
			if b == "" {
				x = texts().then(api.ErrEnd)
			}
			x.reads = append(x.reads, reply{b: "7"})
			s := reading(both(1, 9), x, f)
			asked := len(b) + 1
			if f[0] == ' ' {
				// The blanks of the pattern are a part of their own, behind which the Raw is asked again.
				asked++
			}
			if len(x.calls) != asked || s.e != api.ErrEnd && f[0] == '%' {
				t.Errorf("P18.2: Read(%q) of %q and ErrEnd: %s, by %d reads", f, b, s, len(x.calls))
			}
		}
	}
}

// TestRawAnswers: what a Raw may not answer, and what it answers too often, is told as stream.Get tells it (P18.2, P5).
func TestRawAnswers(t *testing.T) {
	long := &scripted{reads: []reply{{b: "1 "}, {b: "123456789", e: api.ErrCustom}}}
	wantState(t, "P18.2: Read", read(t, both(3, 4), long, "%d %d", api.ErrRaw, in(1)), bad(got(3, 4, "", "")))
	for _, e := range []api.Errno{api.ErrIntr, api.ErrAgain} {
		x := texts("1")
		for range api.MaxTries {
			x.then(e)
		}
		wantState(t, "P18.2: Read", read(t, both(2, 4), x, "%d", api.ErrTries), bad(got(2, 4, "", "")))
		x = texts("1").then(e).then(e)
		x.reads = append(x.reads, reply{b: "2 "})
		wantState(t, "P18.2: Read", read(t, both(2, 4), x, "%d", api.OK, in(12)), got(2, 4, "", " "))
	}
}

// TestGoesOn: behind ErrBlock and behind the end, once it is cleared, what comes is read on (P18.2).
func TestGoesOn(t *testing.T) {
	for mode, size := range buffers {
		x := texts("1 2").then(api.ErrBlock)
		x.reads = append(x.reads, reply{b: "3 4"}, reply{}, reply{b: "5"})
		s := read(t, both(mode, size), x, "%d%d", api.ErrBlock, in(1))
		s = read(t, s, x, "%d%d%d", api.ErrEnd, in(3), in(4))
		wantState(t, "P18.2: Read", s, ended(got(mode, size, "", "")))
		calls := len(x.calls)
		s = read(t, s, x, "%d", api.ErrEnd)
		if len(x.calls) != calls {
			t.Errorf("P18.2: behind the end the raw is read")
		}
		s, _ = stream.Clear(s)
		read(t, s, x, "%d", api.OK, in(5))
	}
}

// byGets is Read as the chapter's words tell it, for these tests alone: by stream.Get and pushback.Unget of each byte.
func byGets(s stream.State, r retry.Raw, f string) outcome {
	parts, _ := partsOf(f)
	var args []api.Arg
	for _, m := range parts {
		after, found, e := gets(s, r, m)
		s = after
		if e == api.OK && m[3] != "" {
			var a api.Arg
			if m[3] == "c" {
				a = map[bool]api.Arg{true: word(found), false: char(found[0])}[m[2] != ""]
			} else {
				a, e = valueOf(m[3], found)
			}
			if e == api.OK && m[1] == "" {
				args = append(args, a)
			}
		}
		if e != api.OK {
			return outcome{s, args, e}
		}
	}
	return outcome{s, args, api.OK}
}

// gets gets what a part reads, without the blanks that are passed ahead of it.
func gets(s stream.State, r retry.Raw, m []string) (stream.State, string, api.Errno) {
	isBlank := func(b string) bool { return strings.Trim(b, " \n\t") == "" }
	verb, width := m[3], 1
	if verb != "" && verb != "c" {
		width = api.MaxWidth
	}
	if m[2] != "" {
		width, _ = strconv.Atoi(m[2])
	}
	onlyBlanks := m[0] == " " || m[0] == "\n"
	passing, found := onlyBlanks || verb != "" && verb != "c", ""
	for len(found) < width {
		after, c, e := stream.Get(s, r)
		s = after
		next := string([]byte{c})
		switch {
		case e == api.ErrEnd && onlyBlanks:
			return s, "", api.OK
		case e == api.ErrEnd && verb != "c" && strings.Trim(found, "+-") != "":
			return s, found, api.OK
		case e == api.ErrEnd && verb == "s" && found != "":
			return s, found, api.OK
		case e != api.OK:
			return s, "", e
		case passing && isBlank(next):
			continue
		}
		fits := verb == "c" || verb == "" && next == m[0][:1]
		if re := fittingAsTold[verb]; re != nil && !passing {
			fits = re.FindString(found+next) == found+next
		}
		if fits && !passing {
			found += next
			continue
		}
		s, _ = pushback.Unget(s, c)
		switch {
		case onlyBlanks:
			return s, "", api.OK
		case passing:
			passing = false
		case verb == "" || found == "" || verb == "d" && strings.Trim(found, "+-") == "":
			return s, "", api.ErrMatch
		default:
			return s, found, api.OK
		}
	}
	if verb == "d" && strings.Trim(found, "+-") == "" {
		return s, "", api.ErrMatch
	}
	return s, found, api.OK
}

// someStates are states in which a stream may be that reads, with bytes held.
func someStates(mode, size int) []stream.State {
	return []stream.State{
		both(mode, size), {Reads: true, Mode: mode, Size: size}, bad(both(mode, size)), ended(both(mode, size)),
		got(mode, size, "12 a,-5", ""), got(mode, size, "", "5- 21"), got(mode, size, " 34 ff", "21a 76+ "), got(mode, size, "", "  "),
		ended(got(mode, size, "", "")), ended(got(mode, size, "7 8 ", "")), ended(got(mode, size, "9", "a 1")), ended(got(mode, size, "", "12 ")), bad(ended(got(mode, size, "1 -", "2+"))),
		{Writes: true, Mode: mode, Size: size}, holding(mode, size, ""),
	}
}

// TestAsGets: Read makes what stream.Get and pushback.Unget of each byte make: the same answers, the same states, the same raw calls (P18.2, P5).
func TestAsGets(t *testing.T) {
	roll := dice(182)
	rolled := func() *scripted {
		x := texts(someText(roll), someText(roll))
		switch roll(4) {
		case 0:
			x.then(rawErrors[roll(len(rawErrors))])
		case 1:
			x.then(api.ErrBlock)
		}
		x.reads = append(x.reads, reply{b: someText(roll)})
		return x
	}
	for mode, size := range buffers {
		for _, s := range someStates(mode, size) {
			for _, f := range somePatterns {
				compareGets(t, s, rolled(), f)
			}
			for range 150 {
				f := somePattern(roll)
				if _, wrong := partsOf(f); wrong == "" {
					compareGets(t, s, rolled(), f)
				}
			}
		}
	}
}

func compareGets(t *testing.T, s stream.State, x *scripted, f string) {
	t.Helper()
	one, two := &scripted{reads: slices.Clone(x.reads)}, &scripted{reads: slices.Clone(x.reads)}
	got, want := reading(s, one, f), byGets(s, two, f)
	if !got.is(want) || !slices.Equal(one.calls, two.calls) {
		t.Fatalf("P18.2: Read(%q), %s over %v: %s, not %s; the raw calls are %q and %q", f, show(s), x.reads, got, want, one.calls, two.calls)
	}
	if e := stream.Check(got.s); e != api.OK {
		t.Fatalf("P11.8: Read(%q), %s: %s may not be", f, show(s), show(got.s))
	}
}

// TestAsScan: Read tells what Scan tells of the same bytes, and leaves what Scan has not used up (P18.4).
func TestAsScan(t *testing.T) {
	roll := dice(184)
	for mode, size := range buffers {
		for range 2500 {
			f, b := somePattern(roll), someText(roll)
			compareScan(t, both(mode, size), texts(b), f, b)
			n, held := roll(len(b)+1), 0
			if n > 0 {
				held = roll(min(n, api.MaxUnget) + 1)
			}
			back := []byte(b[:held])
			slices.Reverse(back)
			compareScan(t, got(mode, size, b[held:n], string(back)), texts(b[n:]), f, b)
		}
	}
	for f := range shorts(3, "%2ds ") {
		for b := range shorts(4, "-1 a") {
			compareScan(t, both(1+len(b)%3, 1+len(f)), texts(b), f, b)
		}
	}
}

func compareScan(t *testing.T, s stream.State, r retry.Raw, f, b string) {
	t.Helper()
	want, got := scanning(f, b), reading(s, r, f)
	if !slices.Equal(got.args, want.args) || got.e != want.e {
		t.Fatalf("P18.4: Read(%q) of %q, %s: %s, not %s", f, b, show(s), got, want)
	}
	if left := rest(t, got.s, r); left != b[want.n:] {
		t.Fatalf("P18.4: Read(%q) of %q, %s leaves %q, not %q", f, b, show(s), left, b[want.n:])
	}
}

// TestLongReads: great patterns and texts through great buffers, which would last too long if each byte cost a buffer (P18.2).
func TestLongReads(t *testing.T) {
	many := strings.Repeat("7 ", api.MaxLine/2)
	for mode, size := range fewBuffers {
		for f, args := range map[string]int{strings.Repeat("%d", api.MaxLine/2): api.MaxLine / 2, strings.Repeat("%*s", 20000) + "%s": 1, many: 0, strings.Repeat("%*4096c", 16): 0, strings.Repeat(" ", api.MaxLine-2) + "%d": 1} {
			x := reading(both(mode, size), texts(many), f)
			y := reading(got(mode, size, many[8:], "7 7 7 7 "[1:]+"7"), texts(), f)
			if x.e != api.OK || len(x.args) != args {
				t.Errorf("P18.2: Read(%s): %s", short([]byte(f)), x)
			}
			if !slices.Equal(x.args, y.args) || x.e != y.e {
				t.Errorf("P18.2: Read(%s): %s and %s", short([]byte(f)), x, y)
			}
		}
	}
}
