package pushback

import (
	"testing"

	"millrace/api"
	"millrace/bufmode"
	"millrace/faults"
	"millrace/kern"
	"millrace/memory"
	"millrace/retry"
	"millrace/stream"
)

// TestGotAhead: what was pushed back is got ahead of Back, In and the Raw, in order and without a raw call; what was there goes on behind it (P13.2).
func TestGotAhead(t *testing.T) {
	for mode := 1; mode <= 3; mode++ {
		for _, in := range []string{"", "in"} {
			for n := range api.MaxUnget + 1 {
				back := "12345678"[:n]
				for more := range api.MaxUnget - n + 1 {
					b := "abcdefgh"[:more]
					r := rawOf("r", "s")
					s := ungetAll(t, got(mode, 4, in, back), b, api.OK)
					wantHeld(t, s, b+backwards(back)+in)
					s = get(t, s, r, b+backwards(back)+in)
					wantReads(t, r, 0)
					wantHeld(t, s, "")
					s = get(t, s, r, "rs")
					getEnd(t, s, r)
					wantReads(t, r, 3)
				}
			}
		}
	}
}

// TestGotOneByOne: Ungets are got the last one first, also with Gets between them (P13.2).
func TestGotOneByOne(t *testing.T) {
	for mode := 1; mode <= 3; mode++ {
		r := rawOf("h", "e", "l")
		s := get(t, both(mode, 4), r, "h")
		s = unget(t, s, 'h', api.OK)
		s = get(t, s, r, "h")
		wantReads(t, r, 1)
		s = unget(t, s, 'x', api.OK)
		s = unget(t, s, 'y', api.OK)
		s = get(t, s, r, "y")
		s = unget(t, s, 'z', api.OK)
		s = ungetAll(t, s, "ab", api.OK)
		s = get(t, s, r, "abzx")
		wantReads(t, r, 1)
		s = get(t, s, r, "el")
		wantReads(t, r, 3)
		getEnd(t, s, r)
	}
}

// TestPushedFirst: a stream that was not read yet may be pushed back into; its reads begin behind that (P13.2).
func TestPushedFirst(t *testing.T) {
	r := rawOf("file")
	s, e := stream.New(api.Mode{Reads: true}, 3, 4)
	if e != api.OK {
		t.Fatal("there is no stream:", e)
	}
	s = ungetAll(t, s, "12345678", api.OK)
	s = get(t, s, r, "12345678")
	wantReads(t, r, 0)
	s = get(t, s, r, "file")
	wantReads(t, r, 1)
	getEnd(t, s, r)
}

// TestAtTheEnd: behind a byte that is pushed back at the end the Raw is read again, as the end was taken away; by no bytes it is not (P13.1, P13.2).
func TestAtTheEnd(t *testing.T) {
	for mode := 1; mode <= 3; mode++ {
		r := rawOf("a", "", "b")
		s := getEnd(t, get(t, both(mode, 1), r, "a"), r)
		wantReads(t, r, 2)
		s = getEnd(t, ungetAll(t, s, "", api.OK), r)
		wantReads(t, r, 2)
		s = get(t, unget(t, s, 'x', api.OK), r, "x")
		wantReads(t, r, 2)
		s = getEnd(t, get(t, s, r, "b"), r)
		wantReads(t, r, 4)
		s = get(t, ungetAll(t, s, "yz", api.OK), r, "yz")
		wantReads(t, r, 4)
		getEnd(t, s, r)
		wantReads(t, r, 5)
	}
}

// TestPutBehind: behind what is pushed back no byte may be put, also where one might at the end; of no bytes one may still (P13.1).
func TestPutBehind(t *testing.T) {
	r := rawOf()
	end := getEnd(t, both(3, 4), r)
	for _, s := range []stream.State{
		unget(t, both(3, 4), 'x', api.OK),
		unget(t, end, 'x', api.OK),
		get(t, unget(t, end, 'x', api.OK), r, "x"),
	} {
		if _, e := stream.Put(s, r, 'p'); e != api.ErrDir {
			t.Errorf("P13.1: Put, %s: %d", show(s), e)
		}
	}
	for _, s := range []stream.State{ungetAll(t, both(3, 4), "", api.OK), ungetAll(t, end, "", api.OK)} {
		if _, e := stream.Put(s, r, 'p'); e != api.OK {
			t.Errorf("P13.1: Put behind UngetAll of none, %s: %d", show(s), e)
		}
	}
	// Behind a Put it is the other way round, until a flush.
	s, _ := stream.Put(both(3, 4), r, 'p')
	s = unget(t, s, 'x', api.ErrDir)
	s, e := stream.Flush(s, r)
	if e != api.OK || r.taken != "p" {
		t.Errorf("P13.1: Flush behind an Unget that was refused: %d, %q was taken", e, r.taken)
	}
	get(t, unget(t, s, 'x', api.OK), r, "x")
}

// TestRoomAgain: each byte that is got makes room for one more (P13.1).
func TestRoomAgain(t *testing.T) {
	r := rawOf()
	s := ungetAll(t, both(3, 4), "12345678", api.OK)
	for _, n := range []int{1, 2, 7, 8} {
		s = get(t, s, r, "12345678"[:n])
		s = ungetAll(t, s, text(n+1), api.ErrFull)
		s = ungetAll(t, s, "12345678"[:n], api.OK)
		s = unget(t, s, 'x', api.ErrFull)
		wantHeld(t, s, "12345678")
	}
	wantReads(t, r, 0)
}

// TestClosedDrops: what was pushed back is gone with a Close, behind which nothing may be (P13.1).
func TestClosedDrops(t *testing.T) {
	r := rawOf("a")
	s := unget(t, both(3, 4), 'x', api.OK)
	s, e := stream.Close(s, r)
	if e != api.OK {
		t.Errorf("Close: %d", e)
	}
	wantState(t, "P13.1: Unget", unget(t, s, 'y', api.ErrClosed), done(both(3, 4)))
	wantState(t, "P13.1: UngetAll", ungetAll(t, s, "", api.ErrClosed), done(both(3, 4)))
	if b, e := Held(s); len(b) != 0 || e != api.ErrClosed {
		t.Errorf("P13.1: Held of a closed one: %q, %d", b, e)
	}
	wantReads(t, r, 0)
}

// said is what the Raws of each kind have.
const said = "one\n\ntwo three\nno newline \x00\xff at the end\n..\n\n\nx"

// sources are Raws of each kind that may be read, with said in them.
func sources(t *testing.T, words string) map[string]retry.Raw {
	t.Helper()
	l, e, _ := faults.Parse(words)
	if e != api.OK {
		t.Fatalf("%q are no faults: %d", words, e)
	}
	k, e := kern.New(kern.Config{
		Files:  []api.Named{{Name: "a", Data: []byte(said)}},
		Terms:  []api.Typed{{Name: "t", Lines: [][]byte{[]byte(said[:20]), []byte(said[20:])}}},
		Faults: l,
	})
	if e != api.OK {
		t.Fatal("there is no kernel:", e)
	}
	file, e1 := k.Open("a", 1)
	term, e2 := k.Open("t", 1)
	if e1 != api.OK || e2 != api.OK {
		t.Fatal("Open:", e1, e2)
	}
	reader, _ := memory.NewReader([]byte(said))
	custom, _ := memory.NewCustom([]memory.Answer{{Data: []byte(said[:1])}, {Err: api.ErrIntr}, {Data: []byte(said[1:30])}, {Data: []byte(said[30:])}}, nil)
	return map[string]retry.Raw{
		"file":     kern.Handle{K: k, D: file},
		"terminal": kern.Handle{K: k, D: term},
		"reader":   reader,
		"custom":   custom,
	}
}

// watched is a Raw whose reads are counted.
type watched struct {
	retry.Raw
	reads int
}

func (w *watched) Read(n int) ([]byte, api.Errno) {
	w.reads++
	return w.Raw.Read(n)
}

// model is what a stream that only reads holds, as its user sees it: bytes that were pushed back, the next one first, and how much was got of what was said.
type model struct {
	pushed string
	at     int
}

// next takes the byte that is got next.
func (m *model) next() (byte, api.Errno) {
	if m.pushed != "" {
		c := m.pushed[0]
		m.pushed = m.pushed[1:]
		return c, api.OK
	}
	if m.at == len(said) {
		return 0, api.ErrEnd
	}
	m.at++
	return said[m.at-1], api.OK
}

// push lays bytes ahead of all others, if there is room for all of them.
func (m *model) push(b string) api.Errno {
	if len(m.pushed)+len(b) > 8 {
		return api.ErrFull
	}
	m.pushed = b + m.pushed
	return api.OK
}

// TestModel: many calls, chosen by numbers, over each kind of Raw and with faults, answer as two lists do (P13.1, P13.2, P13.3).
func TestModel(t *testing.T) {
	for _, words := range []string{"", "i", "s1 s1 i s2 a s1", "s2 s1 s3 i i a s1 s1 s1 s7 s1 a"} {
		for seed := range 100 {
			for name, r := range sources(t, words) {
				runModel(t, &watched{Raw: r}, dice(uint64(seed)))
				if t.Failed() {
					t.Fatalf("over a %s, with the faults %q, seed %d", name, words, seed)
				}
			}
		}
	}
}

// runModel makes some hundred calls on a stream and on a model.
func runModel(t *testing.T, r *watched, roll func(int) int) {
	t.Helper()
	s := readOnly(both(1+roll(3), 1+roll(9)))
	m := model{}
	for range 200 {
		want, told := api.OK, api.OK
		switch roll(6) {
		case 0:
			c := byte(roll(256))
			want = m.push(string([]byte{c}))
			s, told = Unget(s, c)
		case 1:
			b := text(256)[roll(200):][:roll(11)]
			want = m.push(b)
			s, told = UngetAll(s, []byte(b))
		case 2:
			// Another buffer changes nothing of what is got.
			s, told = bufmode.Set(s, r, 1+roll(3), 1+roll(9))
		default:
			var c, wantC byte
			held, reads := len(m.pushed)+len(s.In), r.reads
			wantC, want = m.next()
			s, c, told = stream.Get(s, r)
			if c != wantC || held > 0 && r.reads != reads {
				t.Errorf("P13.2: Get where %d are held: %q, not %q, by %d reads", held, c, wantC, r.reads-reads)
			}
		}
		if told != want {
			t.Errorf("P13.1: %d, not %d, and then %s", told, want, show(s))
		}
		wantHeld(t, s, m.pushed+said[m.at:][:len(s.In)])
		if t.Failed() {
			return
		}
	}
}

// TestNoRaw: over a Raw that only fails what was pushed back is got all the same, and a failed read keeps nothing from being pushed back (P13.2).
func TestNoRaw(t *testing.T) {
	var none *memory.Fixed
	s := ungetAll(t, both(3, 4), "ab", api.OK)
	s = get(t, s, none, "ab")
	s, _, e := stream.Get(s, none)
	if e != api.ErrMade || !s.Bad {
		t.Errorf("Get over a Raw that no call made: %d, %s", e, show(s))
	}
	s = unget(t, s, 'c', api.OK)
	wantState(t, "P13.1: Unget", s, bad(got(3, 4, "", "c")))
	get(t, s, none, "c")
}
