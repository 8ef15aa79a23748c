package registry

import (
	"fmt"
	"slices"
	"testing"

	"millrace/api"
	"millrace/lines"
	"millrace/retry"
	"millrace/stream"
)

// model is a registry by the chapter's words: it holds all streams that were ever added, makes a Line by Gets, and asks ahead of each of them whether it will read.
type model struct {
	streams []*modelled
	hooks   []Hook
	ended   bool
}

type modelled struct {
	s        stream.State
	r        *scripted
	terminal bool
	open     bool
}

// panicked tells whether that panics.
func panicked(do func()) (is bool) {
	defer func() { is = recover() != nil }()
	do()
	return false
}

func (m *model) count() int { return len(m.open()) }

func (m *model) open() []int {
	var l []int
	for id, x := range m.streams {
		if x.open {
			l = append(l, id)
		}
	}
	return l
}

// on makes a call on a stream.
func (m *model) on(id int, do func(x *modelled) api.Errno) (e api.Errno) {
	if id < 0 || id >= len(m.streams) || !m.streams[id].open {
		return api.ErrStream
	}
	x := m.streams[id]
	was := x.s
	if panicked(func() { e = do(x) }) {
		x.s, e = bad(was), api.ErrPanic
	}
	return e
}

// get is a Get, and what is delivered ahead of it.
func (m *model) get(x *modelled) (c byte, e api.Errno) {
	s := x.s
	if x.terminal && len(s.Back) == 0 && len(s.In) == 0 && !s.End && s.Dir != 2 && s.Reads {
		for _, y := range m.streams {
			if y.open && y.s.Mode == 2 && len(y.s.Out) > 0 {
				y.deliver()
			}
		}
	}
	x.s, c, e = stream.Get(x.s, x.r)
	return c, e
}

func (x *modelled) deliver() {
	failed := panicked(func() {
		n, e := retry.Put(x.r, x.s.Out)
		x.s.Out = x.s.Out[n:]
		x.s.Bad = x.s.Bad || e != api.OK && e != api.ErrBlock
	})
	x.s.Bad = x.s.Bad || failed
}

func (m *model) add(s stream.State, r *scripted, terminal bool) (int, api.Errno) {
	if m.ended {
		return 0, api.ErrExiting
	}
	if m.count() == api.MaxStreams {
		return 0, api.ErrCount
	}
	m.streams = append(m.streams, &modelled{s, r, terminal, true})
	return len(m.streams) - 1, api.OK
}

func (m *model) swap(id int, s stream.State) api.Errno {
	return m.on(id, func(x *modelled) api.Errno {
		x.s = s
		return api.OK
	})
}

func (m *model) put(id int, b string) (told int, e api.Errno) {
	e = m.on(id, func(x *modelled) api.Errno {
		s, n, e := lines.Put(x.s, x.r, []byte(b))
		x.s, told = s, n
		return e
	})
	return told, e
}

func (m *model) byte(id int) (told byte, e api.Errno) {
	e = m.on(id, func(x *modelled) api.Errno {
		c, e := m.get(x)
		told = c
		return e
	})
	return told, e
}

func (m *model) line(id, limit int) (told string, e api.Errno) {
	e = m.on(id, func(x *modelled) api.Errno {
		if limit < 1 || limit > api.MaxLine {
			return api.ErrRange
		}
		b := ""
		for len(b) < limit && (b == "" || b[len(b)-1] != '\n') {
			c, e := m.get(x)
			if e == api.ErrEnd && b != "" {
				break
			}
			if e != api.OK {
				told = b
				return e
			}
			b += string([]byte{c})
		}
		told = b
		return api.OK
	})
	return told, e
}

func (m *model) flush(id int) api.Errno {
	return m.on(id, func(x *modelled) (e api.Errno) {
		x.s, e = stream.Flush(x.s, x.r)
		return e
	})
}

func (m *model) flushAll() api.Errno {
	first := api.OK
	for _, id := range m.open() {
		if e := m.flush(id); first == api.OK {
			first = e
		}
	}
	return first
}

func (m *model) close(id int) api.Errno {
	e := m.on(id, func(x *modelled) api.Errno {
		_, e := stream.Close(x.s, x.r)
		return e
	})
	if e != api.ErrStream || slices.Contains(m.open(), id) {
		m.streams[id].open = false
	}
	return e
}

func (m *model) exit(code int) (int, []Note, api.Errno) {
	if m.ended {
		return 0, nil, api.ErrExiting
	}
	m.ended = true
	var notes []Note
	for i := len(m.hooks) - 1; i >= 0; i-- {
		h := m.hooks[i]
		e := []api.Errno{0, 0, api.ErrPanic, api.ErrExiting, 0}[h.Kind]
		switch h.Kind {
		case 1:
			_, e = m.put(h.Stream, string(h.Text))
		case 4:
			e = m.close(h.Stream)
		}
		notes = append(notes, hookNote(i, e))
	}
	for _, id := range m.open() {
		notes = append(notes, streamNote(id, m.close(id)))
	}
	return code, notes, api.OK
}

// rig is a registry and its model, over Raws that answer the same.
type rig struct {
	g    *Registry
	l    *log
	m    *model
	n    *log
	roll func(n int) int
}

// someErrors are errors of Raws; the first two are tried again.
var someErrors = []api.Errno{api.ErrIntr, api.ErrAgain, api.ErrBlock, api.ErrFull, api.ErrEnd, api.ErrPanic, api.ErrStream, api.ErrExiting, -1}

func (x *rig) raws(name string) (*scripted, *scripted) {
	var reads []reply
	var writes []answer
	for range x.roll(6) {
		switch x.roll(9) {
		case 0:
			reads, writes = append(reads, reply{panic: "read"}), append(writes, breaks)
		case 1:
			e := someErrors[x.roll(len(someErrors))]
			reads, writes = append(reads, reply{e: e}), append(writes, answer{e: e})
		case 2:
			reads, writes = append(reads, reply{}), append(writes, answer{n: -1})
		default:
			reads, writes = append(reads, reply{b: x.text()}), append(writes, answer{n: x.roll(3)})
		}
	}
	one, two := x.l.raw(name, writes...), x.n.raw(name, writes...)
	one.reads, two.reads = slices.Clone(reads), slices.Clone(reads)
	return one, two
}

func (x *rig) text() string {
	b := ""
	for range x.roll(7) {
		b += []string{"a", "b", "c", "d", "\n"}[x.roll(5)]
	}
	return b
}

func (x *rig) state() stream.State {
	s := both(1+x.roll(3), 1+x.roll(5))
	switch x.roll(8) {
	case 0:
		s.Writes = false
	case 1:
		s.Reads = false
	case 2:
		s = got(s.Mode, s.Size, x.text(), x.text())
	case 3:
		s = ended(s)
	case 4:
		s = bad(s)
	default:
		if out := x.text(); s.Mode != 1 && len(out) <= s.Size {
			s = holding(s.Mode, s.Size, out)
		}
	}
	return s
}

// id is mostly an open stream's number.
func (x *rig) id() int {
	if l := x.m.open(); len(l) > 0 && x.roll(8) > 0 {
		return l[x.roll(len(l))]
	}
	return x.roll(len(x.m.streams)+3) - 1
}

func (x *rig) hook() Hook {
	return Hook{Kind: 1 + x.roll(4), Stream: x.id(), Text: []byte(x.text()), Code: x.roll(9)}
}

// step makes a call of both, and tells it, what the registry answered, and what the model did.
func (x *rig) step() (call, is, want string) {
	id := x.id()
	switch op := x.roll(20); op {
	case 0, 1, 2:
		s, terminal := x.state(), x.roll(3) == 0
		r, p := x.raws(fmt.Sprint(len(x.m.streams)))
		n, e := x.g.Add(s, r, terminal)
		m, f := x.m.add(s, p, terminal)
		return fmt.Sprint("Add ", show(s), terminal), fmt.Sprint(n, e), fmt.Sprint(m, f)
	case 3:
		s := x.state()
		return fmt.Sprint("Swap ", id, show(s)), fmt.Sprint(x.g.Swap(id, s)), fmt.Sprint(x.m.swap(id, s))
	case 4, 5, 6, 7, 8:
		b := x.text()
		n, e := x.g.Put(id, []byte(b))
		m, f := x.m.put(id, b)
		return fmt.Sprintf("Put %d %q", id, b), fmt.Sprint(n, e), fmt.Sprint(m, f)
	case 9, 10, 11:
		c, e := x.g.Get(id)
		d, f := x.m.byte(id)
		return fmt.Sprint("Get ", id), fmt.Sprint(c, e), fmt.Sprint(d, f)
	case 12, 13, 14:
		limit := x.roll(9)
		b, e := x.g.Line(id, limit)
		c, f := x.m.line(id, limit)
		return fmt.Sprint("Line ", id, limit), fmt.Sprintf("%q %d", b, e), fmt.Sprintf("%q %d", c, f)
	case 15:
		return fmt.Sprint("Flush ", id), fmt.Sprint(x.g.Flush(id)), fmt.Sprint(x.m.flush(id))
	case 16:
		return "FlushAll", fmt.Sprint(x.g.FlushAll()), fmt.Sprint(x.m.flushAll())
	case 17:
		return fmt.Sprint("Close ", id), fmt.Sprint(x.g.Close(id)), fmt.Sprint(x.m.close(id))
	default:
		h := x.hook()
		want := api.ErrCount
		if len(x.m.hooks) < api.MaxHooks {
			x.m.hooks, want = append(x.m.hooks, h), api.OK
		}
		return fmt.Sprint("AtExit ", h), fmt.Sprint(x.g.AtExit(h)), fmt.Sprint(want)
	}
}

// differs tells what differs between the two: raw calls, what is open, states.
func (x *rig) differs() string {
	if !slices.Equal(x.l.calls, x.n.calls) {
		return fmt.Sprintf("the raw calls are %q, not %q", x.l.calls, x.n.calls)
	}
	x.l.calls, x.n.calls = nil, nil
	if !slices.Equal(x.g.Open(), x.m.open()) {
		return fmt.Sprint("Open: ", x.g.Open(), ", not ", x.m.open())
	}
	for _, id := range x.m.open() {
		if s, e := x.g.State(id); e != api.OK || !same(s, x.m.streams[id].s) {
			return fmt.Sprintf("stream %d is %s, %d, not %s", id, show(s), e, show(x.m.streams[id].s))
		}
	}
	return ""
}

// TestModel: whatever is called, a registry answers, calls its Raws and ends as the chapter's words say (P19.1 to P19.6).
func TestModel(t *testing.T) {
	for seed := range uint64(4000) {
		x := &rig{g: New(), l: &log{}, m: &model{}, n: &log{}, roll: dice(seed)}
		told := ""
		for range 10 + x.roll(60) {
			call, is, want := x.step()
			told += call + ": " + is + "\n"
			if d := x.differs(); is != want || d != "" {
				t.Fatalf("P19.2: seed %d:\n%snot %s; %s", seed, told, want, d)
			}
		}
		code := x.roll(9) - 4
		c, notes, e := x.g.Exit(code)
		d, wanted, f := x.m.exit(code)
		if diff := x.differs(); c != d || !slices.Equal(notes, wanted) || e != f || diff != "" {
			t.Fatalf("P19.3: seed %d:\n%sExit: %d, %v, %d, not %v; %s", seed, told, c, notes, e, wanted, diff)
		}
		for range 5 {
			call, is, want := x.step()
			// Behind the end none is added, and no hook either.
			if call[:2] == "At" {
				want = fmt.Sprint(api.ErrExiting)
			}
			if d := x.differs(); is != want || d != "" {
				t.Fatalf("P19.3: seed %d: behind the end: %s: %s, not %s; %s", seed, call, is, want, d)
			}
		}
	}
}
