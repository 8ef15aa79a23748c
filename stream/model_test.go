package stream

import (
	"fmt"
	"slices"
	"testing"

	"millrace/api"
	"millrace/memory"
	"millrace/retry"
)

func dice(seed uint64) func(n int) int {
	return func(n int) int {
		seed = seed*6364136223846793005 + 1442695040888963407
		return int(seed >> 33 % uint64(n))
	}
}

// model is a stream told word by word: lists as texts, raw calls made by hand.
type model struct {
	State
	out, in, back string
	raw           retry.Raw
}

func (m *model) state() State {
	s := m.State
	s.Out, s.In, s.Back = []byte(m.out), []byte(m.in), []byte(m.back)
	return s
}

// write delivers b: what is left of it, and the error.
func (m *model) write(b string) (string, api.Errno) {
	for b != "" {
		n, e := m.raw.Write([]byte(b))
		switch e {
		case api.OK:
			b = b[n:]
		case api.ErrIntr, api.ErrAgain:
		case api.ErrBlock:
			return b, e
		default:
			m.Bad = true
			return b, e
		}
	}
	return "", api.OK
}

func (m *model) deliver() (e api.Errno) {
	m.out, e = m.write(m.out)
	return e
}

func (m *model) put(c byte) api.Errno {
	if e := refusalWanted("Put", m.state(), m.raw); e != api.OK {
		return e
	}
	m.Dir = 2
	if m.Mode == 1 {
		_, e := m.write(string([]byte{c}))
		return e
	}
	if len(m.out) == m.Size {
		if e := m.deliver(); e != api.OK {
			return e
		}
	}
	m.out += string([]byte{c})
	if len(m.out) == m.Size {
		return m.deliver()
	}
	if m.Mode == 2 && c == '\n' {
		return m.deliver()
	}
	return api.OK
}

func (m *model) get() (byte, api.Errno) {
	if e := refusalWanted("Get", m.state(), m.raw); e != api.OK {
		return 0, e
	}
	m.Dir = 1
	if n := len(m.back); n > 0 {
		c := m.back[n-1]
		m.back = m.back[:n-1]
		return c, api.OK
	}
	if m.in != "" {
		c := m.in[0]
		m.in = m.in[1:]
		return c, api.OK
	}
	if m.End {
		return 0, api.ErrEnd
	}
	n := m.Size
	if m.Mode == 1 {
		n = 1
	}
	b, e := m.raw.Read(n)
	for e == api.ErrIntr || e == api.ErrAgain {
		b, e = m.raw.Read(n)
	}
	if e != api.OK {
		if e != api.ErrBlock {
			m.Bad = true
		}
		return 0, e
	}
	if len(b) == 0 {
		m.End = true
		return 0, api.ErrEnd
	}
	m.in = string(b[1:])
	return b[0], api.OK
}

func (m *model) flush() api.Errno {
	if e := refusalWanted("Flush", m.state(), m.raw); e != api.OK {
		return e
	}
	if m.Dir != 2 {
		return api.OK
	}
	e := m.deliver()
	if e == api.OK {
		m.Dir = 0
	}
	return e
}

func (m *model) close() api.Errno {
	if e := refusalWanted("Close", m.state(), m.raw); e != api.OK {
		return e
	}
	e := m.deliver()
	m.Closed, m.Dir = true, 0
	m.out, m.in, m.back = "", "", ""
	return e
}

func (m *model) clear() api.Errno {
	if e := refusalWanted("Clear", m.state(), m.raw); e != api.OK {
		return e
	}
	m.End, m.Bad = false, false
	return api.OK
}

// anyAnswers are so many of a Raw, for calls of at most most bytes.
func anyAnswers(roll func(int) int, count, most int) []answer {
	errs := []api.Errno{api.ErrIntr, api.ErrAgain, api.ErrBlock, api.ErrCustom, api.ErrMode, api.ErrEnd}
	var l []answer
	for range count {
		n := roll(most + 1)
		a := answer{data: text(99)[roll(90):][:n], n: n}
		if roll(3) == 0 {
			a.e = errs[roll(len(errs))]
		}
		l = append(l, a)
	}
	return l
}

// clamped is a scripted Raw whose answers fit what it is asked.
type clamped struct{ *scripted }

func (c clamped) Read(n int) ([]byte, api.Errno) {
	b, e := c.scripted.Read(n)
	return b[:min(n, len(b))], e
}

func (c clamped) Write(b []byte) (int, api.Errno) {
	if len(c.answers) > 0 {
		c.answers[0].n = min(c.answers[0].n, len(b))
	}
	return c.scripted.Write(b)
}

// startOf is any state that may be and is not closed.
func startOf(roll func(int) int) State {
	s := State{Reads: roll(8) > 0, Writes: roll(8) > 0, Mode: 1 + roll(3), Size: 1 + roll(6), End: roll(5) == 0, Bad: roll(5) == 0}
	switch way := roll(3); {
	case way == 1 && s.Reads:
		s.Dir = 1
		s.In, s.Back = []byte(text(99)[roll(50):][:roll(20)]), []byte(text(99)[roll(50):][:roll(9)])
	case way == 2 && s.Writes:
		s.Dir = 2
		if s.Mode != 1 {
			s.Out = []byte(text(99)[roll(50):][:roll(s.Size+1)])
		}
	}
	return s
}

// TestModel: long runs of calls over Raws that answer anything, held against the model, with all raw calls and each state that follows (P11.2 to P11.4, P11.8).
func TestModel(t *testing.T) {
	for seed := range 3000 {
		roll := dice(uint64(seed))
		s := startOf(roll)
		m := &model{State: s, out: string(s.Out), in: string(s.In), back: string(s.Back)}
		answers := anyAnswers(roll, roll(60), s.Size)
		mine, its := &scripted{answers: slices.Clone(answers)}, &scripted{answers: slices.Clone(answers)}
		r := clamped{mine}
		m.raw = clamped{its}
		for step := range 80 {
			var e, me api.Errno
			var c, mc byte
			was := s
			name := ""
			switch k := roll(40); {
			case k < 16:
				b := []byte("ab\n\x00")[roll(4)]
				name = fmt.Sprintf("Put %q", b)
				s, e = Put(s, r, b)
				me = m.put(b)
			case k < 32:
				name = "Get"
				s, c, e = Get(s, r)
				mc, me = m.get()
			case k < 36:
				name = "Flush"
				s, e = Flush(s, r)
				me = m.flush()
			case k < 39:
				name = "Clear"
				s, e = Clear(s)
				me = m.clear()
			case step > 40:
				name = "Close"
				s, e = Close(s, r)
				me = m.close()
			}
			if e != me || c != mc || !same(s, m.state()) || !slices.Equal(mine.calls, its.calls) || mine.taken != its.taken {
				t.Fatalf("P11.2 to P11.4: seed %d, step %d, %s, %s: %s, %q, %d, raw calls %q, not %s, %q, %d, %q", seed, step, name, show(was), show(s), c, e, mine.calls, show(m.state()), mc, me, its.calls)
			}
			if Check(s) != api.OK {
				t.Fatalf("P11.8: seed %d, step %d, %s, %s: %s may not be", seed, step, name, show(was), show(s))
			}
		}
		if mine.seeks != 0 {
			t.Fatalf("P5: %d seeks", mine.seeks)
		}
	}
}

// TestAnyCustom: what Gets tell of any list of answers does not hang on Mode and Size: its bytes, its ends, its errors (P11.7).
func TestAnyCustom(t *testing.T) {
	for seed := range 300 {
		roll := dice(uint64(seed))
		var l []memory.Answer
		want := ""
		for range roll(15) {
			switch roll(4) {
			case 0:
				l = append(l, memory.Answer{})
				want += "[111]"
			case 1:
				e := []api.Errno{api.ErrCustom, api.ErrBlock, api.ErrMode}[roll(3)]
				l = append(l, memory.Answer{Err: e})
				want += fmt.Sprintf("[%d]", e)
			case 2:
				l = append(l, memory.Answer{Err: []api.Errno{api.ErrIntr, api.ErrAgain}[roll(2)]})
			default:
				b := []byte(text(99)[roll(80):][:1+roll(12)])
				l = append(l, memory.Answer{Data: b})
				want += string(b)
			}
		}
		for _, b := range buffers {
			x, _ := memory.NewCustom(l, nil)
			s := both(b.mode, b.size)
			told := toldBy(200, func() (string, api.Errno) {
				var c byte
				var e api.Errno
				s, c, e = Get(s, x)
				s = clearMarks(t, s, api.OK)
				return string([]byte{c}), e
			})
			if len(told) < len(want) || told[:len(want)] != want {
				t.Fatalf("P11.7: seed %d, Mode %d, Size %d: %.200q, not %q", seed, b.mode, b.size, told, want)
			}
		}
	}
}
