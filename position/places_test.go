package position

import (
	"fmt"
	"testing"

	"millrace/api"
	"millrace/faults"
	"millrace/kern"
	"millrace/memory"
	"millrace/pushback"
	"millrace/retry"
	"millrace/stream"
)

// plans are the faults of these tests.
var plans = []string{"", "i", "a i a", "s1 s1 i s2 a s1", "s2 s1 s3 i i a s1 s1 s1 s7 s1 a"}

// said is what the Raws of each kind have.
const said = "one\n\ntwo three\nno newline \x00\xff\n..\n\n\nx"

func kernelOf(t *testing.T, words string) *kern.Kernel {
	t.Helper()
	l, e, _ := faults.Parse(words)
	if e != api.OK {
		t.Fatalf("%q are no faults: %d", words, e)
	}
	k, e := kern.New(kern.Config{
		Files:  []api.Named{{Name: "a", Data: []byte(said)}},
		Terms:  []api.Typed{{Name: "t", Lines: [][]byte{[]byte(said)}}},
		Faults: l,
	})
	if e != api.OK {
		t.Fatal("there is no kernel:", e)
	}
	return k
}

func handleOf(t *testing.T, k *kern.Kernel, name string, flags int) kern.Handle {
	t.Helper()
	d, e := k.Open(name, flags)
	if e != api.OK {
		t.Fatalf("Open(%q, %d): %d", name, flags, e)
	}
	return kern.Handle{K: k, D: d}
}

// placed is a Raw that has places, with said in it, and what it has now.
type placed struct {
	retry.Raw
	has func() string
}

// placedRaws are Raws of each kind that has places; a reader only if nothing is written.
func placedRaws(t *testing.T, words string, writes bool) map[string]placed {
	t.Helper()
	k := kernelOf(t, words)
	f, _ := memory.NewFixed(100, []byte(said))
	g, _ := memory.NewGrowing([]byte(said))
	all := map[string]placed{
		"file":    {handleOf(t, k, "a", 3), func() string { return string(k.Files()[0].Data) }},
		"fixed":   {f, func() string { return string(f.Bytes()) }},
		"growing": {g, func() string { return string(g.Bytes()) }},
	}
	if !writes {
		r, _ := memory.NewReader([]byte(said))
		all["reader"] = placed{r, func() string { return said }}
	}
	return all
}

// buffers hands out modes and sizes.
func buffers(yield func(mode, size int) bool) {
	for mode := 1; mode <= 3; mode++ {
		for _, size := range []int{1, 2, 5, 64} {
			if !yield(mode, size) {
				return
			}
		}
	}
}

// TestBehindSeek: Tell tells the place, and what is got is what the Raw has there, over each kind of Raw, with faults, from each whence (P14.3, P14.5).
func TestBehindSeek(t *testing.T) {
	for _, words := range plans {
		for mode, size := range buffers {
			for name, x := range placedRaws(t, words, false) {
				s := both(mode, size)
				roll := dice(uint64(size))
				for to := range len(said) + 1 {
					s = seekBy(t, s, x, to, roll(3))
					s = tell(t, s, x, to, api.OK)
					s = get(t, s, x, said[to:][:roll(len(said)-to+1)])
					s = unget(t, s, "12345"[:roll(6)])
				}
				if t.Failed() {
					t.Fatalf("over a %s, with the faults %q, mode %d, size %d", name, words, mode, size)
				}
			}
		}
	}
}

// seekBy seeks a place from that whence.
func seekBy(t *testing.T, s stream.State, x placed, to, whence int) stream.State {
	t.Helper()
	off := to
	switch whence {
	case 1:
		at, _ := x.Seek(0, 1)
		off = to - (at - len(s.In) - len(s.Back))
	case 2:
		off = to - len(x.has())
	}
	return seek(t, s, x, off, whence, to, api.OK)
}

// TestToTheEnd: behind each Seek all that is there is got, and then the end (P14.5).
func TestToTheEnd(t *testing.T) {
	for _, words := range plans {
		for mode, size := range buffers {
			for _, x := range placedRaws(t, words, false) {
				s := both(mode, size)
				for _, to := range []int{len(said), 0, 5, len(said) - 1, 1} {
					s = seek(t, s, x, to, 0, to, api.OK)
					s = getEnd(t, get(t, s, x, said[to:]), x)
					s = tell(t, s, x, len(said), api.OK)
				}
				s = rewind(t, s, x, api.OK)
				getEnd(t, get(t, s, x, said), x)
			}
		}
	}
}

// TestByOne: Tell goes up by one with each byte that is got or put, and down by one with each that is pushed back (P14.4).
func TestByOne(t *testing.T) {
	for _, words := range plans {
		for mode, size := range buffers {
			for _, x := range placedRaws(t, words, true) {
				s := tell(t, both(mode, size), x, 0, api.OK)
				for at := range 20 {
					s = get(t, s, x, said[at:at+1])
					s = tell(t, s, x, at+1, api.OK)
				}
				for n := range api.MaxUnget {
					s = unget(t, s, "x")
					s = tell(t, s, x, 19-n, api.OK)
				}
				for n := range api.MaxUnget {
					s = get(t, s, x, "x")
					s = tell(t, s, x, 13+n, api.OK)
				}
				s = seek(t, s, x, 0, 1, 20, api.OK)
				for n := range 60 {
					s = put(t, s, x, string("p\n"[n%2]))
					s = tell(t, s, x, 21+n, api.OK)
				}
				if has := x.has(); len(has) != 80 || has[:20] != said[:20] || has[20:24] != "p\np\n" {
					t.Fatalf("P14.4: the Raw has %q", has)
				}
			}
		}
	}
}

// TestAppends: of one that appends, Tell behind a Put tells its file's end, whatever was sought (P14.4).
func TestAppends(t *testing.T) {
	for _, words := range plans {
		for mode, size := range buffers {
			k := kernelOf(t, words)
			h := handleOf(t, k, "a", 1+2+4)
			s := tell(t, both(mode, size), h, 0, api.OK)
			s = get(t, s, h, said[:3])
			s = seek(t, s, h, 1, 0, 1, api.OK)
			s = tell(t, s, h, 1, api.OK)
			s = put(t, s, h, "p")
			s = tell(t, s, h, len(said)+1, api.OK)
			s = seek(t, s, h, -3, 1, len(said)-2, api.OK)
			s = put(t, s, h, "q")
			s = tell(t, s, h, len(said)+2, api.OK)
			s = rewind(t, s, h, api.OK)
			s = getEnd(t, get(t, s, h, said+"pq"), h)
			tell(t, s, h, len(said)+2, api.OK)
		}
	}
}

// TestSeekBehindTheEnd: a place behind the end may be sought up to the room; what is put there stands behind zeros (P14.1, P14.5).
func TestSeekBehindTheEnd(t *testing.T) {
	for _, words := range plans {
		for name, x := range placedRaws(t, words, true) {
			s := seek(t, both(3, 4), x, 9, 2, len(said)+9, api.OK)
			s = getEnd(t, s, x)
			s = tell(t, s, x, len(said)+9, api.OK)
			s = put(t, s, x, "p")
			s = seek(t, s, x, len(said)+7, 0, len(said)+7, api.OK)
			getEnd(t, get(t, s, x, "\x00\x00p"), x)
			if name == "fixed" {
				s = seek(t, s, x, 100, 0, 100, api.OK)
				s = seek(t, s, x, 101, 0, 0, api.ErrRange)
				s = seek(t, s, x, 1, 1, 0, api.ErrRange)
				tell(t, s, x, 100, api.OK)
				continue
			}
			s = seek(t, s, x, api.MaxFile, 0, api.MaxFile, api.OK)
			s = tell(t, s, x, api.MaxFile, api.OK)
			s = seek(t, s, x, api.MaxFile+1, 0, 0, api.ErrRange)
			s = seek(t, s, x, 1, 1, 0, api.ErrRange)
			s = seek(t, s, x, -1, 0, 0, api.ErrRange)
			s = seek(t, s, x, -api.MaxFile-1, 1, 0, api.ErrRange)
			s = tell(t, s, x, api.MaxFile, api.OK)
			seek(t, s, x, -api.MaxFile, 1, 0, api.OK)
		}
	}
}

// TestNoPlaces: what was put is delivered, then ErrSeek; what is held stays, and is got and goes on (P14.1).
func TestNoPlaces(t *testing.T) {
	for name, call := range calls {
		for _, words := range plans {
			k := kernelOf(t, words)
			rd, wd, _ := k.Pipe()
			r, w := kern.Handle{K: k, D: rd}, kern.Handle{K: k, D: wd}
			term := handleOf(t, k, "t", 3)
			c, _ := memory.NewCustom([]memory.Answer{{Data: []byte(said)}}, nil)
			if n, e := retry.Put(w, []byte(said)); n != len(said) || e != api.OK {
				t.Fatal("the pipe takes", n, e)
			}
			for _, x := range []retry.Raw{r, term, c} {
				s := unget(t, get(t, both(3, 8), x, said[:3]), "xy")
				after, n, e := call(ended(s), x)
				if n != 0 || e != api.ErrSeek {
					t.Errorf("P14.1: %s, %s: %d, %d", name, show(s), n, e)
				}
				wantState(t, "P14.1: "+name, after, ended(s))
				get(t, s, x, "xy"+said[3:])
			}
			for x, taken := range map[retry.Raw]func() string{
				w:    func() string { return string(k.Held(wd)) },
				term: func() string { b, _ := k.Screen("t"); return string(b) },
				c:    func() string { return string(c.Taken()) },
			} {
				after, n, e := call(holding(3, 8, "put"), x)
				if n != 0 || e != api.ErrSeek || taken() != "put" {
					t.Errorf("P14.1: %s: %d, %d, %q was taken", name, n, e, taken())
				}
				wantState(t, "P14.1: "+name, after, holding(3, 8, ""))
			}
		}
	}
}

// TestPipeBlocks: a full pipe holds each call up ahead of what it tells of places, and loses nothing; with no reader left it is told (P14.1).
func TestPipeBlocks(t *testing.T) {
	for name, call := range calls {
		k := kernelOf(t, "")
		rd, wd, _ := k.Pipe()
		r, w := kern.Handle{K: k, D: rd}, kern.Handle{K: k, D: wd}
		retry.Put(w, []byte(text(api.PipeCap)))
		s, _, e := call(holding(3, 8, "abc"), w)
		if e != api.ErrBlock {
			t.Errorf("P14.1: %s: %d", name, e)
		}
		wantState(t, "P14.1: "+name, s, holding(3, 8, "abc"))
		retry.All(r, api.PipeCap)
		s, _, e = call(s, w)
		if e != api.ErrSeek || string(k.Held(wd)) != "abc" {
			t.Errorf("P14.1: %s: %d, the pipe holds %q", name, e, k.Held(wd))
		}
		k.Drop(rd)
		s, _, e = call(left(s, "de"), w)
		if e != api.ErrPipe {
			t.Errorf("P14.1: %s: %d", name, e)
		}
		wantState(t, "P14.1: "+name, s, bad(holding(3, 8, "de")))
	}
}

// TestReaderDelivers: over a Raw that is only read a delivery fails, ahead of its places (P14.1).
func TestReaderDelivers(t *testing.T) {
	for name, call := range calls {
		r, _ := memory.NewReader([]byte(said))
		r.Seek(7, 0)
		s, _, e := call(holding(3, 8, "abc"), r)
		if at, _ := r.Seek(0, 1); e != api.ErrMode || at != 7 {
			t.Errorf("P14.1: %s: %d, and the raw place is %d", name, e, at)
		}
		wantState(t, "P14.1: "+name, s, bad(holding(3, 8, "abc")))
	}
}

// TestTwoStreams: where one description is reached through two streams, Seek of one tells and sets the place that they share (P14.1, P6.7).
func TestTwoStreams(t *testing.T) {
	h := handleOf(t, kernelOf(t, ""), "a", 1)
	one := get(t, both(3, 8), h, said[:2])
	two := get(t, both(3, 8), h, said[8:10])
	one = tell(t, one, h, 10, api.OK)
	two = tell(t, two, h, 10, api.OK)
	two = seek(t, two, h, -4, 1, 6, api.OK)
	// The Raw's place is now just so far that what the first one holds begins at 0.
	one = tell(t, one, h, 0, api.OK)
	two = seek(t, two, h, 5, 0, 5, api.OK)
	one = tell(t, one, h, 0, api.ErrRange)
	get(t, one, h, said[2:8]+said[5:7])
	tell(t, two, h, 13, api.OK)
}

// model is a stream as its user sees it: a file and a place in it, and bytes that were pushed back, the next one first.
type model struct {
	data   string
	at     int
	pushed string
	dir    int
	end    bool
}

// place is where the user is, which may be below 0.
func (m *model) place() int { return m.at - len(m.pushed) }

func (m *model) tell() (int, api.Errno) {
	if m.place() < 0 {
		return 0, api.ErrRange
	}
	return m.place(), api.OK
}

func (m *model) seek(off, whence int) (int, api.Errno) {
	if whence < 0 || whence > 2 {
		return 0, api.ErrArg
	}
	to := off + []int{0, m.place(), len(m.data)}[whence]
	if to < 0 || to > api.MaxFile {
		return 0, api.ErrRange
	}
	*m = model{data: m.data, at: to}
	return to, api.OK
}

func (m *model) get() (byte, api.Errno) {
	if m.dir == 2 {
		return 0, api.ErrDir
	}
	m.dir = 1
	if m.pushed != "" {
		c := m.pushed[0]
		m.pushed = m.pushed[1:]
		return c, api.OK
	}
	if m.at >= len(m.data) {
		m.end = true
		return 0, api.ErrEnd
	}
	m.at++
	return m.data[m.at-1], api.OK
}

func (m *model) put(c byte) api.Errno {
	if m.dir == 1 && (!m.end || m.pushed != "") {
		return api.ErrDir
	}
	m.dir = 2
	for len(m.data) <= m.at {
		m.data += "\x00"
	}
	m.data = m.data[:m.at] + string([]byte{c}) + m.data[m.at+1:]
	m.at++
	return api.OK
}

func (m *model) push(c byte) api.Errno {
	if m.dir == 2 {
		return api.ErrDir
	}
	if len(m.pushed) == 8 {
		return api.ErrFull
	}
	m.pushed = string([]byte{c}) + m.pushed
	m.dir, m.end = 1, false
	return api.OK
}

// TestModel: many calls, chosen by numbers, over each kind of Raw and with faults, answer as a text and a place do, whatever the buffer is (P14.1 to P14.5).
func TestModel(t *testing.T) {
	for _, words := range plans {
		for seed := range 150 {
			for name, x := range placedRaws(t, words, true) {
				if name == "fixed" {
					// Its room is less than what the model has.
					continue
				}
				runModel(t, x, dice(uint64(seed)))
				if t.Failed() {
					t.Fatalf("over a %s, with the faults %q, seed %d", name, words, seed)
				}
			}
		}
	}
}

// runModel makes some hundred calls on a stream and on a model, and holds what was put against the model's text.
func runModel(t *testing.T, x placed, roll func(int) int) {
	t.Helper()
	s := both(1+roll(3), 1+roll(9))
	m := model{data: said}
	for range 150 {
		var told, want string
		s, told, want = step(s, x, &m, roll)
		if told != want || stream.Check(s) != api.OK {
			t.Errorf("P14.1: %s, not %s, and then %s", told, want, show(s))
			return
		}
	}
	if _, e := stream.Close(s, x); e != api.OK || x.has() != m.data {
		t.Errorf("P14.5: Close: %d, the Raw has %q, not %q", e, x.has(), m.data)
	}
}

// step makes one call, and tells what it and the model answered.
func step(s stream.State, x placed, m *model, roll func(int) int) (stream.State, string, string) {
	said := func(call string, n int, e api.Errno) string { return fmt.Sprintf("%s: %d, %d", call, n, e) }
	switch roll(9) {
	case 0:
		s, n, e := Tell(s, x)
		wantN, wantE := m.tell()
		return s, said("Tell", n, e), said("Tell", wantN, wantE)
	case 1:
		off, whence := roll(80)-20, roll(5)-1
		call := fmt.Sprintf("Seek(%d, %d)", off, whence)
		s, n, e := Seek(s, x, off, whence)
		wantN, wantE := m.seek(off, whence)
		return s, said(call, n, e), said(call, wantN, wantE)
	case 2:
		if roll(3) > 0 {
			break
		}
		s, e := Rewind(s, x)
		m.seek(0, 0)
		return s, said("Rewind", 0, e), said("Rewind", 0, api.OK)
	case 3, 4:
		c := byte(roll(20))
		s, e := pushback.Unget(s, c)
		return s, said("Unget", 0, e), said("Unget", 0, m.push(c))
	case 5, 6:
		c := byte(roll(20))
		s, e := stream.Put(s, x, c)
		return s, said("Put", 0, e), said("Put", 0, m.put(c))
	}
	s, c, e := stream.Get(s, x)
	wantC, wantE := m.get()
	return s, said("Get", int(c), e), said("Get", int(wantC), wantE)
}
