package memory

import (
	"slices"
	"testing"

	"millrace/api"
	"millrace/retry"
)

// spoil changes an answer, and the room behind it.
func spoil(b []byte) {
	b = b[:cap(b)]
	for i := range b {
		b[i] = '?'
	}
}

// TestHandedToNew: what a memory is made of is neither changed nor kept, the room behind it included (P10.7).
func TestHandedToNew(t *testing.T) {
	given := []byte("hello, and room")
	f, _ := NewFixed(8, given[:5])
	g, _ := NewGrowing(given[:5])
	r, _ := NewReader(given[:5])
	for _, x := range []written{f, g} {
		wantSeek(t, x, 4, 0, 4, api.OK)
		wantWrite(t, x, "###", 3, api.OK)
	}
	if string(given) != "hello, and room" {
		t.Errorf("P10.7: what was handed in was changed: %q", given)
	}
	spoil(given)
	wantBytes(t, f, "hell###")
	wantBytes(t, g, "hell###")
	wantRead(t, r, 9, "hello", api.OK)
}

// TestHandedToCustom: answers, their bytes and numbers are neither changed nor kept (P10.7).
func TestHandedToCustom(t *testing.T) {
	data := []byte("hello, and room")
	reads := []Answer{{Data: data[:5]}, {Err: api.ErrCustom}, {Data: data[7:10]}, {Data: []byte("lost"), Err: api.ErrPipe}}
	writes := []int{1, -1, 2}
	x, y := customOf(t, reads, writes...), customOf(t, reads, writes...)
	wantRead(t, x, 2, "he", api.OK)
	wantRead(t, x, 9, "llo", api.OK)
	wantRead(t, x, 9, "", api.ErrCustom)
	wantWrite(t, x, "ab", 1, api.OK)
	if string(data) != "hello, and room" || string(reads[0].Data) != "hello" || reads[1].Err != api.ErrCustom || string(reads[2].Data) != "and" || string(reads[3].Data) != "lost" || reads[3].Err != api.ErrPipe || !slices.Equal(writes, []int{1, -1, 2}) {
		t.Errorf("P10.7: what was handed in was changed: %q, %v, %v", data, reads, writes)
	}
	spoil(data)
	clear(reads)
	writes[0], writes[1], writes[2] = -2, -2, -2
	for _, b := range []string{"hello", "", "and", ""} {
		got, _ := y.Read(9)
		if string(got) != b {
			t.Errorf("P10.7: Read: %q, not %q: what was handed in is kept", got, b)
		}
	}
	wantRead(t, x, 9, "and", api.OK)
	wantWrite(t, x, "ab", 0, api.ErrCustom)
	wantWrite(t, y, "ab", 1, api.OK)
}

// TestWrittenIsNotKept: what is handed in to Write is neither changed nor kept, the room behind it included (P10.7).
func TestWrittenIsNotKept(t *testing.T) {
	f, g, c := fixedOf(t, 9, ""), growingOf(t, ""), customOf(t, nil)
	for _, x := range []retry.Raw{f, g, c} {
		given := []byte("bytes, and room")
		if n, e := x.Write(given[:5]); n != 5 || e != api.OK {
			t.Fatalf("%T: Write: %d, %d", x, n, e)
		}
		wantWrite(t, x, "##", 2, api.OK)
		if string(given) != "bytes, and room" {
			t.Errorf("P10.7: %T: what was handed in was changed: %q", x, given)
		}
		spoil(given)
	}
	wantBytes(t, f, "bytes##")
	wantBytes(t, g, "bytes##")
	wantTaken(t, c, "bytes##")
}

// TestRefusedIsNotChanged: bytes that are refused stay as they are (P10.6, P10.7).
func TestRefusedIsNotChanged(t *testing.T) {
	full := fixedOf(t, 2, "ab")
	full.Seek(0, 2)
	for _, x := range []retry.Raw{full, readerOf(t, "ab"), customOf(t, nil, -1)} {
		given := []byte("xyz")
		if n, e := x.Write(given); n != 0 || e == api.OK || string(given) != "xyz" {
			t.Errorf("P10.7: %T: %d, %d, %q", x, n, e, given)
		}
	}
	c := customOf(t, nil, -2)
	given := []byte("xyz")
	if !panics(c, given) || string(given) != "xyz" {
		t.Errorf("P10.7: Custom: %q", given)
	}
}

// TestReadIsNewMemory: neither what is read nor the room behind it is the memory's, or another answer's (P10.7).
func TestReadIsNewMemory(t *testing.T) {
	for _, x := range []retry.Raw{fixedOf(t, 9, "hello"), growingOf(t, "hello"), readerOf(t, "hello"), customOf(t, answers("hello"))} {
		one, _ := x.Read(2)
		two, _ := x.Read(1)
		spoil(one)
		spoil(two[len(two):])
		if string(two) != "l" {
			t.Errorf("P10.7: %T: another answer was changed: %q", x, two)
		}
		wantRead(t, x, 9, "lo", api.OK)
		none, _ := x.Read(9)
		spoil(none)
		if _, e := x.Seek(0, 0); e == api.OK {
			wantRead(t, x, 9, "hello", api.OK)
		}
	}
	x := customOf(t, answers("ab", "cd"))
	one, _ := x.Read(9)
	spoil(one)
	wantRead(t, x, 9, "cd", api.OK)
}

// TestAllOfItIsNewMemory: neither what Bytes and Taken answer nor the room behind it is the memory's, or another answer's (P10.7).
func TestAllOfItIsNewMemory(t *testing.T) {
	f, g, c := fixedOf(t, 99, ""), growingOf(t, ""), customOf(t, nil)
	for _, x := range []struct {
		retry.Raw
		all func() []byte
	}{{f, f.Bytes}, {g, g.Bytes}, {c, c.Taken}} {
		want := ""
		for _, more := range []string{"a", "bc", "defghij", "k"} {
			wantWrite(t, x.Raw, more, len(more), api.OK)
			want += more
			one, two := x.all(), x.all()
			spoil(one)
			if string(two) != want || string(x.all()) != want {
				t.Errorf("P10.7: %T: %q, %q, not %q", x.Raw, two, x.all(), want)
			}
			// An answer stays as it is when the memory goes on.
			wantWrite(t, x.Raw, "#", 1, api.OK)
			if string(two) != want {
				t.Errorf("P10.7: %T: an earlier answer is %q", x.Raw, two)
			}
			want += "#"
		}
	}
	x := fixedOf(t, 9, "hello")
	was := x.Bytes()
	b, _ := x.Read(5)
	x.Seek(0, 0)
	wantWrite(t, x, "#####", 5, api.OK)
	if string(was) != "hello" || string(b) != "hello" {
		t.Errorf("P10.7: earlier answers are %q, %q", was, b)
	}
}

// TestMemoriesShareNothing: two of the same bytes go their own ways (P10.7).
func TestMemoriesShareNothing(t *testing.T) {
	given := []byte("hello")
	f1, _ := NewFixed(9, given)
	f2, _ := NewFixed(9, given)
	g1, _ := NewGrowing(given)
	g2, _ := NewGrowing(given)
	wantWrite(t, f1, "J", 1, api.OK)
	wantWrite(t, g1, "C", 1, api.OK)
	wantBytes(t, f1, "Jello")
	wantBytes(t, f2, "hello")
	wantBytes(t, g1, "Cello")
	wantBytes(t, g2, "hello")
	wantPlace(t, f2, 0)
	wantPlace(t, g2, 0)
}

// TestSameCallsSameAnswers: what is answered hangs on the calls alone (P3).
func TestSameCallsSameAnswers(t *testing.T) {
	for range 4 {
		x := customOf(t, answers("ab", api.ErrPipe), -2, 1)
		wantPanic(t, x, "a")
		wantRead(t, x, 1, "a", api.OK)
		wantRead(t, x, 1, "b", api.OK)
		wantRead(t, x, 1, "", api.ErrPipe)
		wantWrite(t, x, "xy", 1, api.OK)
		f := fixedOf(t, 3, "a")
		wantSeek(t, f, 1, 2, 2, api.OK)
		wantWrite(t, f, "bc", 1, api.OK)
		wantBytes(t, f, "a\x00b")
	}
}
