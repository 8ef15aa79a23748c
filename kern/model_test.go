package kern

import (
	"bytes"
	"slices"
	"sort"
	"strings"
	"testing"

	"millrace/api"
)

// modelPipe, modelThing, modelDesc and model are what a kernel must be, told in the plainest way.
type modelPipe struct {
	held             []byte
	readers, writers int
}

// modelThing is a file's bytes, a terminal's lines and screen, or a pipe.
type modelThing struct {
	kind  int
	data  []byte
	lines []string
	pipe  *modelPipe
}

type modelDesc struct {
	*modelThing
	reads, writes, appends bool
	place, holders         int
}

type model struct {
	named         map[string]*modelThing
	open          map[int]*modelDesc
	last          int
	plan          []api.Fault
	reads, writes int
}

func modelOf(c Config) *model {
	m := &model{named: map[string]*modelThing{}, open: map[int]*modelDesc{}, plan: c.Faults}
	for _, f := range c.Files {
		m.named[f.Name] = &modelThing{kind: 1, data: bytes.Clone(f.Data)}
	}
	for _, t := range c.Terms {
		term := &modelThing{kind: 2}
		for _, l := range t.Lines {
			term.lines = append(term.lines, string(l))
		}
		m.named[t.Name] = term
	}
	return m
}

func (m *model) openThing(name string, flags int) (int, api.Errno) {
	has := func(bit int) bool { return flags/bit%2 == 1 }
	x := m.named[name]
	switch {
	case name == "" || strings.Contains(name, " "):
		return 0, api.ErrName
	case !flagsAre(flags):
		return 0, api.ErrMode
	case len(m.open) == 256:
		return 0, api.ErrCount
	case x != nil && has(32):
		return 0, api.ErrExist
	case x == nil && !has(8):
		return 0, api.ErrNone
	case x == nil && len(m.named) == 256:
		return 0, api.ErrCount
	case x == nil:
		x = &modelThing{kind: 1}
		m.named[name] = x
	}
	if x.kind == 1 && has(16) {
		x.data = nil
	}
	return m.describe(&modelDesc{modelThing: x, reads: has(1), writes: has(2), appends: has(4), holders: 1}), api.OK
}

func (m *model) describe(d *modelDesc) int {
	m.last++
	m.open[m.last] = d
	return m.last
}

func (m *model) pipe() (int, int, api.Errno) {
	if len(m.open) > 254 {
		return 0, 0, api.ErrCount
	}
	x := &modelThing{kind: 3, pipe: &modelPipe{readers: 1, writers: 1}}
	r := m.describe(&modelDesc{modelThing: x, reads: true, holders: 1})
	return r, m.describe(&modelDesc{modelThing: x, writes: true, holders: 1}), api.OK
}

// fault uses up the next one.
func (m *model) fault(n int) (int, api.Errno) {
	if len(m.plan) == 0 {
		return n, api.OK
	}
	f := m.plan[0]
	m.plan = m.plan[1:]
	return []int{n, min(n, f.N), 0, 0}[f.Kind], []api.Errno{api.OK, api.OK, api.ErrIntr, api.ErrAgain}[f.Kind]
}

func (m *model) read(d int, n int) ([]byte, api.Errno) {
	x := m.open[d]
	switch {
	case x == nil:
		return nil, api.ErrDesc
	case !x.reads:
		return nil, api.ErrMode
	case n < 0 || n > api.MaxFile:
		return nil, api.ErrRange
	case n == 0:
		return nil, api.OK
	case x.kind == 3 && len(x.pipe.held) == 0 && x.pipe.writers > 0:
		return nil, api.ErrBlock
	}
	m.reads++
	n, e := m.fault(n)
	if e != api.OK {
		return nil, e
	}
	switch x.kind {
	case 1:
		b := x.data[min(x.place, len(x.data)):min(x.place+n, len(x.data))]
		x.place += len(b)
		return b, api.OK
	case 2:
		if len(x.lines) == 0 {
			return nil, api.OK
		}
		b := x.lines[0][:min(n, len(x.lines[0]))]
		x.lines[0] = x.lines[0][len(b):]
		if x.lines[0] == "" {
			x.lines = x.lines[1:]
		}
		return []byte(b), api.OK
	}
	b := x.pipe.held[:min(n, len(x.pipe.held))]
	x.pipe.held = x.pipe.held[len(b):]
	return b, api.OK
}

func (m *model) write(d int, b []byte) (int, api.Errno) {
	x := m.open[d]
	switch {
	case x == nil:
		return 0, api.ErrDesc
	case !x.writes:
		return 0, api.ErrMode
	case len(b) > api.MaxFile:
		return 0, api.ErrLong
	case len(b) == 0:
		return 0, api.OK
	}
	room := api.MaxFile - x.place
	switch {
	case x.kind == 2 || x.appends:
		room = api.MaxFile - len(x.data)
	case x.kind == 3:
		room = 4096 - len(x.pipe.held)
	}
	switch {
	case x.kind == 3 && x.pipe.readers == 0:
		return 0, api.ErrPipe
	case x.kind == 3 && (room == 0 || len(b) <= 512 && room < len(b)):
		return 0, api.ErrBlock
	case room == 0:
		return 0, api.ErrFull
	}
	m.writes++
	n, e := m.fault(len(b))
	if e != api.OK {
		return 0, e
	}
	if x.kind == 3 && len(b) <= 512 {
		n = len(b)
	}
	b = b[:min(n, room)]
	m.lay(x, b)
	return len(b), api.OK
}

func (m *model) lay(x *modelDesc, b []byte) {
	switch {
	case x.kind == 3:
		x.pipe.held = append(x.pipe.held, b...)
	case x.kind == 2:
		x.data = append(x.data, b...)
	default:
		if x.appends {
			x.place = len(x.data)
		}
		for len(x.data) < x.place+len(b) {
			x.data = append(x.data, 0)
		}
		copy(x.data[x.place:], b)
		x.place += len(b)
	}
}

func (m *model) seek(d int, off int, whence int) (int, api.Errno) {
	x := m.open[d]
	switch {
	case x == nil:
		return 0, api.ErrDesc
	case x.kind != 1:
		return 0, api.ErrSeek
	case whence < 0 || whence > 2:
		return 0, api.ErrArg
	}
	at := off + []int{0, x.place, len(x.data)}[whence]
	if at < 0 || at > api.MaxFile {
		return 0, api.ErrRange
	}
	x.place = at
	return at, api.OK
}

func (m *model) keep(d int) api.Errno {
	x := m.open[d]
	switch {
	case x == nil:
		return api.ErrDesc
	case x.holders == 1024:
		return api.ErrCount
	}
	x.holders++
	return api.OK
}

func (m *model) drop(d int) api.Errno {
	x := m.open[d]
	if x == nil {
		return api.ErrDesc
	}
	x.holders--
	if x.holders > 0 {
		return api.OK
	}
	delete(m.open, d)
	if x.kind == 3 && x.reads {
		x.pipe.readers--
	} else if x.kind == 3 {
		x.pipe.writers--
	}
	return api.OK
}

// would tells whether a read, and a write of n bytes, would be done, or be refused but not for waiting.
func (m *model) would(d int, n int) (bool, bool) {
	x := m.open[d]
	if x == nil {
		return false, false
	}
	if x.kind < 3 {
		return x.reads, x.writes && n > 0
	}
	room := 4096 - len(x.pipe.held)
	waits := room == 0 || n <= 512 && room < n
	return x.reads && (len(x.pipe.held) > 0 || x.pipe.writers == 0), x.writes && n > 0 && (x.pipe.readers == 0 || !waits)
}

func (m *model) files() []api.Named {
	var l []api.Named
	for name, x := range m.named {
		if x.kind == 1 {
			l = append(l, api.Named{Name: name, Data: x.data})
		}
	}
	sort.Slice(l, func(i, j int) bool { return l[i].Name < l[j].Name })
	return l
}

// dice gives numbers that are the same in each run.
func dice(seed uint32) func(n int) int {
	return func(n int) int {
		seed = seed*1664525 + 1013904223
		return int(seed>>8) % n
	}
}

// randomPlan is n faults, of which some are of each kind.
func randomPlan(next func(int) int, n int) []api.Fault {
	var l []api.Fault
	for range n {
		f := api.Fault{Kind: next(4)}
		if f.Kind == 1 {
			f.N = 1 + next(6)
		}
		l = append(l, f)
	}
	return l
}

// wantLikeModel holds all that a kernel tells of itself against the model; where its places are, seeking by 0 tells.
func wantLikeModel(t *testing.T, k *Kernel, m *model, n int) {
	t.Helper()
	wantFiles(t, k, m.files()...)
	if r, w := k.Calls(); r != m.reads || w != m.writes {
		t.Errorf("P6.5: Calls: %d, %d; want %d, %d", r, w, m.reads, m.writes)
	}
	if got := k.Rest(); !slices.Equal(got, m.plan) {
		t.Errorf("P6.5: Rest: %v; want %v", got, m.plan)
	}
	for name, x := range m.named {
		if x.kind == 2 {
			wantScreen(t, k, name, string(x.data))
		}
	}
	for d := range m.last + 2 {
		read, write := m.would(d, n)
		wantCan(t, k, d, n, read, write)
		x := m.open[d]
		if x == nil {
			wantKind(t, k, d, 0)
			continue
		}
		wantKind(t, k, d, x.kind)
		if x.kind == 3 {
			wantHeld(t, k, d, string(x.pipe.held))
		} else if x.kind == 1 {
			wantPlace(t, k, d, x.place)
		}
	}
}

// step makes a call that the dice choose of both, and tells where they differ.
func step(t *testing.T, k *Kernel, m *model, next func(int) int) {
	t.Helper()
	d := next(m.last + 2)
	n := []int{next(3), next(20), 500 + next(30), 4000 + next(200), api.MaxFile - next(2)}[next(5)]
	switch c := next(20); {
	case c < 3:
		name, flags := []string{"a", "b", "c", "t", "u", "new", "n2", "", "x y"}[next(9)], next(66)-1
		got, e := k.Open(name, flags)
		want, wantE := m.openThing(name, flags)
		if got != want || e != wantE {
			t.Errorf("P6.2: Open(%q, %d): %d, %d; want %d, %d", name, flags, got, e, want, wantE)
		}
	case c == 3:
		r, w, e := k.Pipe()
		wantR, wantW, wantE := m.pipe()
		if r != wantR || w != wantW || e != wantE {
			t.Errorf("P6.2: Pipe: %d, %d, %d; want %d, %d, %d", r, w, e, wantR, wantW, wantE)
		}
	case c < 9:
		n += []int{0, 0, 0, -1, 1}[next(5)]
		read := k.CanRead(d)
		b, e := k.Read(d, n)
		want, wantE := m.read(d, n)
		if !bytes.Equal(b, want) || e != wantE {
			t.Errorf("P6.3: Read(%d, %d): %d bytes, %q, %d; want %d, %q, %d", d, n, len(b), brief(b), e, len(want), brief(want), wantE)
		}
		if n > 0 && m.open[d] != nil && m.open[d].reads && n <= api.MaxFile && read == (e == api.ErrBlock) {
			t.Errorf("P6.5: CanRead(%d): %t, but Read: %d", d, read, e)
		}
	case c < 15:
		b := pattern(n + next(2))
		write := k.CanWrite(d, len(b))
		got, e := k.Write(d, b)
		want, wantE := m.write(d, b)
		if got != want || e != wantE {
			t.Errorf("P6.3: Write(%d) of %d bytes: %d, %d; want %d, %d", d, len(b), got, e, want, wantE)
		}
		if len(b) > 0 && len(b) <= api.MaxFile && m.open[d] != nil && m.open[d].writes && write == (e == api.ErrBlock) {
			t.Errorf("P6.5: CanWrite(%d, %d): %t, but Write: %d", d, len(b), write, e)
		}
	case c < 17:
		off, whence := []int{next(30) - 15, next(30), api.MaxFile - next(10), next(5000)}[next(4)], next(5)-1
		got, e := k.Seek(d, off, whence)
		want, wantE := m.seek(d, off, whence)
		if got != want || e != wantE {
			t.Errorf("P6.4: Seek(%d, %d, %d): %d, %d; want %d, %d", d, off, whence, got, e, want, wantE)
		}
	case c == 17:
		wantKeep(t, k, d, m.keep(d))
	default:
		wantDrop(t, k, d, m.drop(d))
	}
}

// TestLikeTheModel: whatever is called, each answer is the model's, and so is all that the kernel tells of itself then (P6.1 to P6.5, P6.7, P6.9).
func TestLikeTheModel(t *testing.T) {
	for seed := range uint32(24) {
		next := dice(seed)
		c := Config{
			Files:  []api.Named{aNamed("a", "hello"), aNamed("b", ""), aNamed("c", text(next(3000)))},
			Terms:  []api.Typed{aTyped("t", "one\n", "", "two", "three\n"), aTyped("u")},
			Faults: randomPlan(next, next(60)),
		}
		k, m := kernelOf(t, c), modelOf(c)
		for i := range 250 {
			step(t, k, m, next)
			if i%4 == 0 {
				wantLikeModel(t, k, m, next(700))
			}
			if t.Failed() {
				t.Fatalf("with seed %d, at step %d", seed, i)
			}
		}
	}
}

// again makes a raw call over and over till it is done, or does no more: none of the faults is for ever.
func again(call func() (int, api.Errno), all int) {
	for done, turns := 0, 0; done < all && turns < 10000; turns++ {
		n, e := call()
		if e != api.OK && e != api.ErrIntr && e != api.ErrAgain || n == 0 && e == api.OK {
			return
		}
		done += n
	}
}

// pieces moves bytes in all the ways that there are, and answers what was read of the file, the terminal and the pipe.
func pieces(t *testing.T, k *Kernel) []string {
	t.Helper()
	wantOpen(t, k, "a", 1+2, 1)
	wantOpen(t, k, "t", 1+2, 2)
	wantPipe(t, k, 3, 4)
	wantOpen(t, k, "log", 2+4+8, 5)
	var read [3][]byte
	take := func(d int, n int) {
		again(func() (int, api.Errno) {
			b, e := k.Read(d, n)
			read[d-1] = append(read[d-1], b...)
			n -= len(b)
			return len(b), e
		}, n)
	}
	put := func(d int, s string) {
		again(func() (int, api.Errno) {
			n, e := k.Write(d, []byte(s))
			s = s[n:]
			return n, e
		}, len(s))
	}
	for i := range 20 {
		take(1, 7)
		put(1, "piece by piece"[:i%14+1])
		put(5, "log "+text(i))
		put(2, text(3*i))
		put(4, text(40*i))
		take(3, 40*i)
	}
	take(2, 13)
	put(4, text(2000))
	take(3, 2000)
	return []string{string(read[0]), string(read[1]), string(read[2])}
}

// TestInPieces: what is read and written with faults is, in all, what it is without (P6.8).
func TestInPieces(t *testing.T) {
	c := Config{Files: []api.Named{aNamed("a", text(900))}, Terms: []api.Typed{aTyped("t", "a line\n", "another")}}
	plain := kernelOf(t, c)
	want := pieces(t, plain)
	screen, _ := plain.Screen("t")
	if len(want[0]) != 140 || want[1] != "a line\nanothe" || len(want[2]) != 40*190+2000 {
		t.Fatalf("P6.3: without faults %d bytes, %q and %d bytes were read", len(want[0]), want[1], len(want[2]))
	}
	for seed := range uint32(20) {
		next := dice(seed)
		c.Faults = randomPlan(next, 1+next(api.MaxFaults))
		k := kernelOf(t, c)
		if got := pieces(t, k); !slices.Equal(got, want) {
			t.Errorf("P6.8: with seed %d other bytes were read: %d, %d, %d", seed, len(got[0]), len(got[1]), len(got[2]))
		}
		wantFiles(t, k, plain.Files()...)
		wantScreen(t, k, "t", string(screen))
	}
}
