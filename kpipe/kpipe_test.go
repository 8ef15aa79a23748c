package kpipe

import (
	"bytes"
	"math"
	"testing"

	"millrace/api"
)

const (
	reading = false
	writing = true
)

// outside are numbers of bytes that no call may ask for.
var outside = []int{0, -1, -2, -512, -api.MaxFile, math.MinInt, math.MinInt + 1, api.MaxFile + 1, api.MaxFile + 2, 1 << 32, 1<<32 + 1, math.MaxInt32, math.MaxInt - 1, math.MaxInt}

// pattern is n bytes that do not repeat within a pipe's room.
func pattern(n int) []byte {
	b := make([]byte, n)
	for i := range b {
		b[i] = byte(i + 7*(i/256) + i/5000)
	}
	return b
}

func brief(b []byte) []byte {
	return b[:min(len(b), 20)]
}

// pipeOf is a pipe with so many ends that read, and that write.
func pipeOf(t *testing.T, readers, writers int) *Pipe {
	t.Helper()
	p := New()
	if p == nil {
		t.Fatal("P5.1: New: nil")
	}
	for range readers {
		wantJoin(t, p, reading, api.OK)
	}
	for range writers {
		wantJoin(t, p, writing, api.OK)
	}
	return p
}

// filled is a pipe with an end of each side that holds n bytes of the pattern.
func filled(t *testing.T, n int) *Pipe {
	t.Helper()
	p := pipeOf(t, 1, 1)
	for _, b := range pattern(n) {
		wantWrite(t, p, []byte{b}, 1, 1)
	}
	return p
}

// turned is filled, but its bytes begin elsewhere in the ring, so that they go round its end if there are enough.
func turned(t *testing.T, n int, by int) *Pipe {
	t.Helper()
	p := pipeOf(t, 1, 1)
	wantWrite(t, p, make([]byte, by), by, by)
	wantRead(t, p, by, make([]byte, by))
	for _, b := range pattern(n) {
		wantWrite(t, p, []byte{b}, 1, 1)
	}
	return p
}

func wantJoin(t *testing.T, p *Pipe, write bool, e api.Errno) {
	t.Helper()
	if got := p.Join(write); got != e {
		t.Errorf("P5.1: Join(%t): %d; want %d", write, got, e)
	}
}

func wantLeave(t *testing.T, p *Pipe, write bool, e api.Errno) {
	t.Helper()
	if got := p.Leave(write); got != e {
		t.Errorf("P5.1: Leave(%t): %d; want %d", write, got, e)
	}
}

func wantEnds(t *testing.T, p *Pipe, readers, writers int) {
	t.Helper()
	if r, w := p.Ends(); r != readers || w != writers {
		t.Errorf("P5.3: Ends: %d, %d; want %d, %d", r, w, readers, writers)
	}
}

func wantRead(t *testing.T, p *Pipe, n int, want []byte) {
	t.Helper()
	if b, e := p.Read(n); e != api.OK || !bytes.Equal(b, want) {
		t.Errorf("P5.2: Read(%d): %d bytes, %q, %d; want %d, %q", n, len(b), brief(b), e, len(want), brief(want))
	}
}

func wantNoRead(t *testing.T, p *Pipe, n int, e api.Errno) {
	t.Helper()
	if b, got := p.Read(n); got != e || len(b) != 0 {
		t.Errorf("P5.2: Read(%d): %d bytes, %d; want none, %d", n, len(b), got, e)
	}
}

func wantWrite(t *testing.T, p *Pipe, b []byte, most int, took int) {
	t.Helper()
	if n, e := p.Write(b, most); n != took || e != api.OK {
		t.Errorf("P5.2: Write of %d bytes, %d: %d, %d; want %d", len(b), most, n, e, took)
	}
}

func wantNoWrite(t *testing.T, p *Pipe, b []byte, most int, e api.Errno) {
	t.Helper()
	if n, got := p.Write(b, most); n != 0 || got != e {
		t.Errorf("P5.2: Write of %d bytes, %d: %d, %d; want 0, %d", len(b), most, n, got, e)
	}
}

func wantHeld(t *testing.T, p *Pipe, want []byte) {
	t.Helper()
	if got := p.Held(); !bytes.Equal(got, want) {
		t.Errorf("P5.3: Held: %d bytes, %q; want %d, %q", len(got), brief(got), len(want), brief(want))
	}
}

func wantCanRead(t *testing.T, p *Pipe, want bool) {
	t.Helper()
	if got := p.CanRead(); got != want {
		r, w := p.Ends()
		t.Errorf("P5.3: CanRead of %d bytes, ends %d, %d: %t", len(p.Held()), r, w, got)
	}
}

func wantCanWrite(t *testing.T, p *Pipe, n int, want bool) {
	t.Helper()
	if got := p.CanWrite(n); got != want {
		r, w := p.Ends()
		t.Errorf("P5.3: CanWrite(%d) of %d bytes, ends %d, %d: %t", n, len(p.Held()), r, w, got)
	}
}

// TestExample: example 1 of the chapter.
func TestExample(t *testing.T) {
	p := pipeOf(t, 1, 1)
	sent := pattern(4700)
	wantNoRead(t, p, 1, api.ErrBlock)
	wantWrite(t, p, sent[:4000], api.MaxFile, 4000)
	wantNoWrite(t, p, sent[4000:4100], api.MaxFile, api.ErrBlock)
	wantWrite(t, p, sent[4000:4600], api.MaxFile, 96)
	wantLeave(t, p, writing, api.OK)
	wantRead(t, p, 4000, sent[:4000])
	wantRead(t, p, 4000, sent[4000:4096])
	for range 20 {
		wantRead(t, p, 1, nil)
	}
	wantJoin(t, p, writing, api.OK)
	wantLeave(t, p, reading, api.OK)
	wantNoWrite(t, p, sent[:1], 1, api.ErrPipe)
}

func TestNewIsEmptyAndWithoutEnds(t *testing.T) {
	p := pipeOf(t, 0, 0)
	wantEnds(t, p, 0, 0)
	wantHeld(t, p, nil)
	wantLeave(t, p, reading, api.ErrState)
	wantLeave(t, p, writing, api.ErrState)
	wantNoRead(t, p, 1, api.ErrState)
	wantNoWrite(t, p, []byte("a"), 1, api.ErrState)
	if q := New(); q == p {
		t.Error("P5.1: New: the same pipe twice")
	}
}

func TestPipesAreApart(t *testing.T) {
	p, q := pipeOf(t, 1, 2), pipeOf(t, 3, 1)
	wantWrite(t, p, []byte("of p"), 9, 4)
	wantWrite(t, q, []byte("of q!"), 9, 5)
	wantLeave(t, q, reading, api.OK)
	wantEnds(t, p, 1, 2)
	wantEnds(t, q, 2, 1)
	wantRead(t, q, 2, []byte("of"))
	wantHeld(t, p, []byte("of p"))
	wantHeld(t, q, []byte(" q!"))
}

// TestEndsOfASide: 1024 ends of a side, and one more; the other side counts for itself.
func TestEndsOfASide(t *testing.T) {
	for _, write := range []bool{reading, writing} {
		ends := func(p *Pipe, n, others int) {
			t.Helper()
			if write {
				wantEnds(t, p, others, n)
			} else {
				wantEnds(t, p, n, others)
			}
		}
		p := pipeOf(t, 0, 0)
		for n := range 1024 {
			ends(p, n, 0)
			wantJoin(t, p, write, api.OK)
		}
		for range 3 {
			wantJoin(t, p, write, api.ErrCount)
			ends(p, 1024, 0)
		}
		wantLeave(t, p, !write, api.ErrState)
		wantJoin(t, p, !write, api.OK)
		ends(p, 1024, 1)
		wantLeave(t, p, write, api.OK)
		ends(p, 1023, 1)
		wantJoin(t, p, write, api.OK)
		wantJoin(t, p, write, api.ErrCount)
		wantLeave(t, p, !write, api.OK)
		for n := 1024; n > 0; n-- {
			ends(p, n, 0)
			wantLeave(t, p, write, api.OK)
		}
		for range 3 {
			wantLeave(t, p, write, api.ErrState)
			ends(p, 0, 0)
		}
	}
	p := pipeOf(t, 1024, 1024)
	wantJoin(t, p, reading, api.ErrCount)
	wantJoin(t, p, writing, api.ErrCount)
	wantEnds(t, p, 1024, 1024)
}

// TestOneOfManyEnds: one end that is left is enough, on both sides.
func TestOneOfManyEnds(t *testing.T) {
	p := pipeOf(t, 3, 3)
	wantLeave(t, p, writing, api.OK)
	wantLeave(t, p, writing, api.OK)
	wantNoRead(t, p, 1, api.ErrBlock)
	wantLeave(t, p, reading, api.OK)
	wantLeave(t, p, reading, api.OK)
	wantWrite(t, p, []byte("a"), 1, 1)
	wantRead(t, p, 1, []byte("a"))
	wantLeave(t, p, writing, api.OK)
	wantRead(t, p, 1, nil)
	wantJoin(t, p, writing, api.OK)
	wantNoRead(t, p, 1, api.ErrBlock)
	wantLeave(t, p, reading, api.OK)
	wantNoWrite(t, p, []byte("a"), 1, api.ErrPipe)
	wantJoin(t, p, reading, api.OK)
	wantWrite(t, p, []byte("a"), 1, 1)
}

func TestReadHowMuch(t *testing.T) {
	for _, held := range []int{1, 2, 100, api.PipeAtomic, api.PipeCap - 1, api.PipeCap} {
		for _, n := range []int{1, 2, held - 1, held, held + 1, api.PipeCap - 1, api.PipeCap, api.PipeCap + 1, api.MaxFile - 1, api.MaxFile} {
			if n < 1 {
				continue
			}
			p, want := filled(t, held), pattern(held)
			got := min(n, held)
			wantRead(t, p, n, want[:got])
			wantHeld(t, p, want[got:])
			if got == held {
				wantNoRead(t, p, n, api.ErrBlock)
			} else {
				wantRead(t, p, api.MaxFile, want[got:])
			}
			wantLeave(t, p, writing, api.OK)
			wantRead(t, p, n, nil)
			wantHeld(t, p, nil)
		}
	}
}

// TestReadWithoutWriter: what is held is read all the same, then none, for ever.
func TestReadWithoutWriter(t *testing.T) {
	p := pipeOf(t, 1, 0)
	wantRead(t, p, 1, nil)
	wantJoin(t, p, writing, api.OK)
	wantNoRead(t, p, 1, api.ErrBlock)
	wantWrite(t, p, []byte("abc"), 3, 3)
	wantLeave(t, p, writing, api.OK)
	wantRead(t, p, 2, []byte("ab"))
	wantRead(t, p, 2, []byte("c"))
	for _, n := range []int{1, 2, api.MaxFile} {
		wantRead(t, p, n, nil)
	}
}

// TestReadWithoutReader: what is held stays, and is there for a reader that comes later.
func TestReadWithoutReader(t *testing.T) {
	p := filled(t, 10)
	wantLeave(t, p, reading, api.OK)
	wantNoRead(t, p, 1, api.ErrState)
	wantNoRead(t, p, api.MaxFile, api.ErrState)
	wantHeld(t, p, pattern(10))
	wantLeave(t, p, writing, api.OK)
	wantNoRead(t, p, 1, api.ErrState)
	wantHeld(t, p, pattern(10))
	wantJoin(t, p, reading, api.OK)
	wantRead(t, p, 11, pattern(10))
}

// TestReadErrors: the errors in their order: each number asked, with and without ends and bytes.
func TestReadErrors(t *testing.T) {
	for _, n := range outside {
		wantNoRead(t, nil, n, api.ErrMade)
		wantNoRead(t, &Pipe{}, n, api.ErrMade)
		for _, c := range []struct{ readers, writers int }{{0, 0}, {0, 1}, {1, 0}, {1, 1}} {
			p := pipeOf(t, c.readers, c.writers)
			wantNoRead(t, p, n, api.ErrRange)
			wantEnds(t, p, c.readers, c.writers)
		}
		p := filled(t, 3)
		wantNoRead(t, p, n, api.ErrRange)
		wantHeld(t, p, pattern(3))
		wantEnds(t, p, 1, 1)
	}
	for _, n := range []int{1, api.MaxFile} {
		wantNoRead(t, pipeOf(t, 0, 1), n, api.ErrState)
		wantNoRead(t, pipeOf(t, 0, 0), n, api.ErrState)
		wantNoRead(t, pipeOf(t, 1, 1), n, api.ErrBlock)
		wantRead(t, pipeOf(t, 1, 0), n, nil)
	}
}

// TestSmallWrite: whole, whatever most is, where there is room for all; else not at all (P5.6).
func TestSmallWrite(t *testing.T) {
	for _, n := range []int{1, 2, 100, api.PipeAtomic - 1, api.PipeAtomic} {
		b := pattern(n)
		for _, most := range []int{1, 2, n, n + 1, api.PipeAtomic, api.PipeCap, api.MaxFile - 1, api.MaxFile} {
			for _, held := range []int{0, 1, api.PipeCap - n - 1, api.PipeCap - n} {
				p := filled(t, held)
				wantWrite(t, p, b, most, n)
				wantHeld(t, p, append(pattern(held), b...))
			}
			for _, held := range []int{api.PipeCap - n + 1, api.PipeCap - 1, api.PipeCap} {
				if n <= api.PipeCap-held {
					continue
				}
				p := filled(t, held)
				wantNoWrite(t, p, b, most, api.ErrBlock)
				wantHeld(t, p, pattern(held))
			}
		}
	}
}

// TestGreaterWrite: as many as there is room for, at most most; not at all only where there is no room.
func TestGreaterWrite(t *testing.T) {
	for _, n := range []int{api.PipeAtomic + 1, api.PipeAtomic + 2, 600, api.PipeCap - 1, api.PipeCap, api.PipeCap + 1, 10000, api.MaxFile} {
		b := pattern(n)
		for _, held := range []int{0, 1, api.PipeCap - n - 1, api.PipeCap - n, api.PipeCap - n + 1, 4000, api.PipeCap - 1} {
			if held < 0 {
				continue
			}
			room := api.PipeCap - held
			for _, most := range []int{1, 2, room - 1, room, room + 1, n - 1, n, n + 1, api.PipeAtomic, api.MaxFile} {
				if most < 1 || most > api.MaxFile {
					continue
				}
				p := filled(t, held)
				took := min(n, room, most)
				wantWrite(t, p, b, most, took)
				wantHeld(t, p, append(pattern(held), b[:took]...))
			}
		}
		for _, most := range []int{1, n, api.MaxFile} {
			p := filled(t, api.PipeCap)
			wantNoWrite(t, p, b, most, api.ErrBlock)
			wantHeld(t, p, pattern(api.PipeCap))
		}
	}
}

func TestWriteOfNoBytes(t *testing.T) {
	for _, b := range [][]byte{nil, {}} {
		for _, held := range []int{0, 1, api.PipeCap} {
			for _, most := range []int{1, api.MaxFile} {
				p := filled(t, held)
				wantWrite(t, p, b, most, 0)
				wantHeld(t, p, pattern(held))
				wantLeave(t, p, reading, api.OK)
				wantNoWrite(t, p, b, most, api.ErrPipe)
				wantLeave(t, p, writing, api.OK)
				wantNoWrite(t, p, b, most, api.ErrState)
			}
		}
	}
}

// TestWriteWithoutReader: nobody reads any more goes ahead of there is no room.
func TestWriteWithoutReader(t *testing.T) {
	for _, held := range []int{0, 1, api.PipeCap} {
		p := filled(t, held)
		wantLeave(t, p, reading, api.OK)
		for _, n := range []int{1, api.PipeAtomic, api.PipeAtomic + 1, api.MaxFile} {
			wantNoWrite(t, p, pattern(n), 1, api.ErrPipe)
			wantHeld(t, p, pattern(held))
		}
		wantEnds(t, p, 0, 1)
	}
}

// TestWriteErrors: the errors in their order, where several hold at once; none of them changes anything (P5.7).
func TestWriteErrors(t *testing.T) {
	tooLong := make([]byte, api.MaxFile+1)
	ends := []struct{ readers, writers int }{{0, 0}, {1, 0}, {0, 1}, {1, 1}}
	for _, most := range append([]int{1, api.MaxFile}, outside...) {
		for _, p := range []*Pipe{nil, {}} {
			wantNoWrite(t, p, tooLong, most, api.ErrMade)
			wantNoWrite(t, p, []byte("a"), most, api.ErrMade)
			wantNoWrite(t, p, nil, most, api.ErrMade)
		}
		for _, c := range ends {
			p := pipeOf(t, c.readers, c.writers)
			wantNoWrite(t, p, tooLong, most, api.ErrLong)
			wantHeld(t, p, nil)
			wantEnds(t, p, c.readers, c.writers)
		}
	}
	for _, most := range outside {
		for _, c := range ends {
			p := pipeOf(t, c.readers, c.writers)
			for _, n := range []int{0, 1, api.PipeAtomic, api.PipeAtomic + 1, api.MaxFile} {
				wantNoWrite(t, p, tooLong[:n], most, api.ErrRange)
			}
			wantHeld(t, p, nil)
			wantEnds(t, p, c.readers, c.writers)
		}
		full := filled(t, api.PipeCap)
		wantNoWrite(t, full, []byte("a"), most, api.ErrRange)
		wantNoWrite(t, full, tooLong[:600], most, api.ErrRange)
		wantHeld(t, full, pattern(api.PipeCap))
	}
	for _, n := range []int{0, 1, api.PipeAtomic, api.PipeAtomic + 1, api.MaxFile} {
		wantNoWrite(t, pipeOf(t, 0, 0), tooLong[:n], 1, api.ErrState)
		wantNoWrite(t, pipeOf(t, 1, 0), tooLong[:n], 1, api.ErrState)
		wantNoWrite(t, pipeOf(t, 0, 1), tooLong[:n], 1, api.ErrPipe)
	}
	p := filled(t, api.PipeCap)
	wantNoWrite(t, p, tooLong, 1, api.ErrLong)
	wantLeave(t, p, writing, api.OK)
	wantNoWrite(t, p, []byte("a"), 1, api.ErrState)
	wantHeld(t, p, pattern(api.PipeCap))
}

// TestRoundTheRing: bytes that go round the ring's end are as any others, wherever they begin.
func TestRoundTheRing(t *testing.T) {
	for _, by := range []int{1, 2, 2048, api.PipeCap - 2, api.PipeCap - 1, api.PipeCap} {
		for _, held := range []int{0, 1, 2, 3, 2047, 2048, 2049, api.PipeCap - 1, api.PipeCap} {
			want := pattern(held)
			p := turned(t, held, by)
			wantHeld(t, p, want)
			if held == 0 {
				wantNoRead(t, p, 1, api.ErrBlock)
				continue
			}
			for _, n := range []int{1, held/2 + 1, held, held + 1} {
				p := turned(t, held, by)
				got := min(n, held)
				wantRead(t, p, n, want[:got])
				wantHeld(t, p, want[got:])
				wantWrite(t, p, pattern(5000), api.MaxFile, api.PipeCap-held+got)
				wantRead(t, p, api.MaxFile, append(bytes.Clone(want[got:]), pattern(api.PipeCap-held+got)...))
			}
		}
	}
}

func TestCanRead(t *testing.T) {
	for _, held := range []int{0, 1, 2, api.PipeCap - 1, api.PipeCap} {
		p := filled(t, held)
		wantCanRead(t, p, held > 0)
		wantLeave(t, p, writing, api.OK)
		wantCanRead(t, p, true)
		wantLeave(t, p, reading, api.OK)
		wantCanRead(t, p, false)
		wantJoin(t, p, writing, api.OK)
		wantCanRead(t, p, false)
		wantJoin(t, p, reading, api.OK)
		wantCanRead(t, p, held > 0)
		wantHeld(t, p, pattern(held))
	}
}

func TestCanWrite(t *testing.T) {
	numbers := []int{1, 2, api.PipeAtomic - 1, api.PipeAtomic, api.PipeAtomic + 1, api.PipeCap, api.PipeCap + 1, api.MaxFile - 1, api.MaxFile}
	for _, room := range []int{0, 1, 2, 100, api.PipeAtomic - 1, api.PipeAtomic, api.PipeAtomic + 1, api.PipeCap} {
		for _, n := range numbers {
			p := filled(t, api.PipeCap-room)
			want := n <= room || n > api.PipeAtomic && room > 0
			wantCanWrite(t, p, n, want)
			wantLeave(t, p, reading, api.OK)
			wantCanWrite(t, p, n, true)
			wantLeave(t, p, writing, api.OK)
			wantCanWrite(t, p, n, false)
			wantJoin(t, p, reading, api.OK)
			wantCanWrite(t, p, n, false)
			wantHeld(t, p, pattern(api.PipeCap-room))
		}
	}
	for _, n := range outside {
		for _, c := range []struct{ readers, writers int }{{0, 0}, {1, 0}, {0, 1}, {1, 1}} {
			wantCanWrite(t, pipeOf(t, c.readers, c.writers), n, false)
		}
		wantCanWrite(t, filled(t, api.PipeCap), n, false)
	}
}

// TestNoNewMadeIt: what a pipe answers that no New made; no call makes it one.
func TestNoNewMadeIt(t *testing.T) {
	for _, p := range []*Pipe{nil, {}, new(Pipe)} {
		for range 2 {
			wantJoin(t, p, reading, api.ErrMade)
			wantJoin(t, p, writing, api.ErrMade)
			wantLeave(t, p, reading, api.ErrMade)
			wantLeave(t, p, writing, api.ErrMade)
			wantNoRead(t, p, 1, api.ErrMade)
			wantNoWrite(t, p, []byte("a"), 1, api.ErrMade)
			wantHeld(t, p, nil)
			wantEnds(t, p, 0, 0)
			wantCanRead(t, p, false)
			wantCanWrite(t, p, 1, false)
		}
	}
}

// TestWrittenIsNotKept: what was handed in is neither kept nor changed, the room behind it included (P5.8).
func TestWrittenIsNotKept(t *testing.T) {
	for _, n := range []int{3, 600} {
		p := pipeOf(t, 1, 1)
		room := pattern(2000)
		wantWrite(t, p, room[:n], api.MaxFile, n)
		wantWrite(t, p, []byte("123"), 3, 3)
		if !bytes.Equal(room, pattern(2000)) {
			t.Error("P5.8: what was handed in to Write was changed")
		}
		clear(room)
		want := append(pattern(n), "123"...)
		wantHeld(t, p, want)
		got, _ := p.Read(n + 1)
		clear(got)
		_ = append(got, "####"...)
		if !bytes.Equal(room, make([]byte, 2000)) {
			t.Error("P5.8: what was handed in to Write is changed by what was read")
		}
		wantHeld(t, p, []byte("23"))
	}
}

// TestAnswersAreNewMemory: neither the bytes of an answer nor the room behind them are the pipe's or another answer's (P5.8).
func TestAnswersAreNewMemory(t *testing.T) {
	for _, by := range []int{1, api.PipeCap - 3} {
		p := turned(t, 10, by)
		want := pattern(10)
		held, again := p.Held(), p.Held()
		clear(held)
		_ = append(held, "####"...)
		wantHeld(t, p, want)
		if !bytes.Equal(again, want) {
			t.Errorf("P5.8: two answers of Held share memory: %q", again)
		}
		first, _ := p.Read(4)
		_ = append(first, "####"...)
		second, _ := p.Read(3)
		_ = append(second, "####"...)
		wantHeld(t, p, want[7:])
		_ = append(first, "!!!!"...)
		if !bytes.Equal(second, want[4:7]) {
			t.Errorf("P5.8: two reads share memory: %q", second)
		}
		clear(first)
		clear(second)
		wantWrite(t, p, []byte("more"), 4, 4)
		wantRead(t, p, 99, append(want[7:], "more"...))
		wantWrite(t, p, pattern(5000), 5000, api.PipeCap)
		if !bytes.Equal(again, pattern(10)) || !bytes.Equal(first, make([]byte, 4)) || !bytes.Equal(second, make([]byte, 3)) {
			t.Error("P5.8: a later write changes an earlier answer")
		}
	}
}

// model is what a pipe must be, told in the plainest way.
type model struct {
	held             []byte
	readers, writers int
}

func (m *model) read(n int) ([]byte, api.Errno) {
	switch {
	case n < 1 || n > api.MaxFile:
		return nil, api.ErrRange
	case m.readers == 0:
		return nil, api.ErrState
	case len(m.held) == 0 && m.writers > 0:
		return nil, api.ErrBlock
	}
	b := m.held[:min(n, len(m.held))]
	m.held = m.held[len(b):]
	return b, api.OK
}

func (m *model) write(b []byte, most int) (int, api.Errno) {
	room := api.PipeCap - len(m.held)
	switch {
	case len(b) > api.MaxFile:
		return 0, api.ErrLong
	case most < 1 || most > api.MaxFile:
		return 0, api.ErrRange
	case m.writers == 0:
		return 0, api.ErrState
	case m.readers == 0:
		return 0, api.ErrPipe
	case len(b) == 0:
		return 0, api.OK
	case len(b) <= 512 && len(b) > room || room == 0:
		return 0, api.ErrBlock
	case len(b) > 512:
		b = b[:min(len(b), room, most)]
	}
	m.held = append(m.held, b...)
	return len(b), api.OK
}

func (m *model) change(p *Pipe, join bool, write bool) (api.Errno, api.Errno) {
	side := &m.readers
	if write {
		side = &m.writers
	}
	switch {
	case join:
		*side++
		return p.Join(write), api.OK
	case *side == 0:
		return p.Leave(write), api.ErrState
	}
	*side--
	return p.Leave(write), api.OK
}

// dice gives numbers that are the same in each run.
func dice(seed uint32) func(n int) int {
	return func(n int) int {
		seed = seed*1664525 + 1013904223
		return int(seed>>8) % n
	}
}

// wantLikeModel holds what CanRead and CanWrite tell, what is held and the ends against the model.
func wantLikeModel(t *testing.T, p *Pipe, m *model, n int) {
	t.Helper()
	wantHeld(t, p, m.held)
	wantEnds(t, p, m.readers, m.writers)
	again := *m
	_, e := again.read(1)
	wantCanRead(t, p, e != api.ErrBlock && m.readers > 0)
	again = model{held: bytes.Clone(m.held), readers: m.readers, writers: m.writers}
	_, e = again.write(make([]byte, n), 1)
	wantCanWrite(t, p, n, n > 0 && e != api.ErrBlock && m.writers > 0)
}

// TestFirstInFirstOut: whatever is called, what was read and what is held behind it is what was written (P5.4), never more than PipeCap bytes are held (P5.5), and small writes are whole (P5.6).
func TestFirstInFirstOut(t *testing.T) {
	for seed := range uint32(30) {
		next := dice(seed)
		p, m := pipeOf(t, 1, 1), &model{readers: 1, writers: 1}
		var wrote, read []byte
		for range 400 {
			n := []int{next(20), next(600), api.PipeAtomic + next(2), next(6000)}[next(4)]
			wantLikeModel(t, p, m, n)
			switch c := next(20); {
			case c < 9:
				b := pattern(n + next(256))[:n]
				most := []int{1, 1 + next(700), api.MaxFile, outside[next(len(outside))]}[next(4)]
				took, e := p.Write(b, most)
				mTook, mE := m.write(b, most)
				if took != mTook || e != mE || took > 0 && n <= 512 && took != n {
					t.Fatalf("P5.2, P5.6: Write of %d bytes, %d: %d, %d; want %d, %d", n, most, took, e, mTook, mE)
				}
				wrote = append(wrote, b[:took]...)
			case c < 18:
				b, e := p.Read(n)
				mB, mE := m.read(n)
				if !bytes.Equal(b, mB) || e != mE {
					t.Fatalf("P5.2: Read(%d): %q, %d; want %q, %d", n, brief(b), e, brief(mB), mE)
				}
				read = append(read, b...)
			default:
				if got, want := m.change(p, next(3) > 0, next(2) > 0); got != want {
					t.Fatalf("P5.1: an end came or went: %d; want %d", got, want)
				}
			}
			if held := p.Held(); len(held) > 4096 || !bytes.Equal(append(bytes.Clone(read), held...), wrote) {
				t.Fatalf("P5.4, P5.5: %d bytes read, %d held, %d written", len(read), len(held), len(wrote))
			}
		}
		if t.Failed() {
			return
		}
	}
}

// TestFarMoreThanItsRoom: a megabyte goes through, by pieces of each size.
func TestFarMoreThanItsRoom(t *testing.T) {
	sent := pattern(api.MaxFile)
	next := dice(5)
	p := pipeOf(t, 1, 1)
	var got []byte
	for at, turns := 0, 0; len(got) < len(sent); turns++ {
		if turns == 10000 {
			t.Fatalf("P5.2: %d bytes went in, %d came out, and no more do", at, len(got))
		}
		end := min(at+1+next(3000), len(sent))
		can := p.CanWrite(end - at)
		n, e := p.Write(sent[at:end], api.MaxFile)
		if end > at && can != (e != api.ErrBlock) {
			t.Fatalf("P5.3: CanWrite(%d): %t, but Write: %d, %d", end-at, can, n, e)
		}
		at += n
		can = p.CanRead()
		b, e := p.Read(1 + next(3000))
		if can != (e != api.ErrBlock) {
			t.Fatalf("P5.3: CanRead: %t, but Read: %d", can, e)
		}
		got = append(got, b...)
	}
	if !bytes.Equal(got, sent) {
		t.Error("P5.4: what was read is not what was written")
	}
	wantHeld(t, p, nil)
}
