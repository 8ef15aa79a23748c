package openmode

import (
	"testing"

	"millrace/api"
	"millrace/kern"
)

// opened is a kernel with a file "there" of "hello" and a terminal "screen", and what its Open answers of a name by the flags of a mode's text.
func opened(t *testing.T, text, name string) (*kern.Kernel, int, api.Errno) {
	t.Helper()
	k, e := kern.New(kern.Config{
		Files: []api.Named{{Name: "there", Data: []byte("hello")}},
		Terms: []api.Typed{{Name: "screen", Lines: [][]byte{[]byte("typed\n")}}},
	})
	if e != api.OK {
		t.Fatal("kern.New:", e)
	}
	m, e, _ := Parse(text)
	if e != api.OK {
		t.Fatalf("P9.1: Parse(%q): %d", text, e)
	}
	f, e := Flags(m)
	if e != api.OK {
		t.Fatalf("P9.2: Flags of %q: %d", text, e)
	}
	d, e := k.Open(name, f)
	return k, d, e
}

func bytesOf(k *kern.Kernel, name string) (string, bool) {
	for _, f := range k.Files() {
		if f.Name == name {
			return string(f.Data), true
		}
	}
	return "", false
}

func wantFile(t *testing.T, k *kern.Kernel, text, name, want string) {
	t.Helper()
	if got, there := bytesOf(k, name); got != want || !there {
		t.Errorf("P9.2: %q: file %s: %q, %t, not %q", text, name, got, there, want)
	}
}

// errorIf is the error where it is to be one.
func errorIf(is bool, e api.Errno) api.Errno {
	if is {
		return e
	}
	return api.OK
}

// wantUse reads and writes one byte by the description, and holds the errors against what the mode says.
func wantUse(t *testing.T, k *kern.Kernel, d int, r row, first string) {
	t.Helper()
	b, e := k.Read(d, 1)
	if want := errorIf(!r.mode.Reads, api.ErrMode); e != want {
		t.Errorf("P9.2: %q: Read: %d, not %d", r.text, e, want)
	}
	if r.mode.Reads && string(b) != first {
		t.Errorf("P9.2: %q: Read: %q, not %q", r.text, b, first)
	}
	_, e = k.Write(d, []byte("!"))
	if want := errorIf(!r.mode.Writes, api.ErrMode); e != want {
		t.Errorf("P9.2: %q: Write: %d, not %d", r.text, e, want)
	}
}

// TestFlagsOpenWhatIsThere: exclusive: refused; truncating: emptied; appending: written at the end.
func TestFlagsOpenWhatIsThere(t *testing.T) {
	for _, r := range rows() {
		k, d, e := opened(t, r.text, "there")
		if want := errorIf(r.mode.Exclusive, api.ErrExist); e != want {
			t.Errorf("P9.2: %q: Open: %d, not %d", r.text, e, want)
		}
		if e != api.OK {
			wantFile(t, k, r.text, "there", "hello")
			continue
		}
		first, then := "h", "hello"
		if r.mode.Truncate {
			first, then = "", ""
		}
		wantFile(t, k, r.text, "there", then)
		wantUse(t, k, d, r, first)
		switch r.text[0] {
		case 'r':
			then = "hello"
			if r.mode.Writes {
				then = "h!llo"
			}
		case 'w':
			then = "!"
		case 'a':
			then = "hello!"
		}
		wantFile(t, k, r.text, "there", then)
	}
}

// TestFlagsOpenWhatIsNotThere: creating: a new file, exclusive or not; else none.
func TestFlagsOpenWhatIsNotThere(t *testing.T) {
	for _, r := range rows() {
		k, d, e := opened(t, r.text, "new")
		if want := errorIf(r.text[0] == 'r', api.ErrNone); e != want {
			t.Errorf("P9.2: %q: Open: %d, not %d", r.text, e, want)
		}
		if e != api.OK {
			if _, there := bytesOf(k, "new"); there {
				t.Errorf("P9.2: %q: there is a file new", r.text)
			}
			continue
		}
		wantFile(t, k, r.text, "new", "")
		wantUse(t, k, d, r, "")
		wantFile(t, k, r.text, "new", "!")
		wantFile(t, k, r.text, "there", "hello")
	}
}

// TestFlagsOpenATerminal: only what reads and writes is to be seen.
func TestFlagsOpenATerminal(t *testing.T) {
	for _, r := range rows() {
		k, d, e := opened(t, r.text, "screen")
		if want := errorIf(r.mode.Exclusive, api.ErrExist); e != want {
			t.Errorf("P9.2: %q: Open: %d, not %d", r.text, e, want)
		}
		if e == api.OK {
			wantUse(t, k, d, r, "t")
		}
	}
}
