package stream

import (
	"millrace/api"
	"millrace/retry"
)

const newline = 10

// way is a state on its way through a call, over a Raw. Its lists are its own, so that it may change them and be answered as it is.
type way struct {
	State
	raw retry.Raw
}

func onWay(s State, r retry.Raw) *way {
	return &way{State: copied(s), raw: r}
}

func (w *way) refusal() api.Errno {
	return refusal(w.State, w.raw != nil)
}

func (w *way) turnToWriting() api.Errno {
	if e := w.refusal(); e != api.OK {
		return e
	}
	if !w.Writes {
		return api.ErrMode
	}
	if w.Dir == reading && !w.isReadOut() {
		return api.ErrDir
	}
	w.Dir = writing
	return api.OK
}

func (w *way) turnToReading() api.Errno {
	if e := w.refusal(); e != api.OK {
		return e
	}
	if !w.Reads {
		return api.ErrMode
	}
	if w.Dir == writing {
		return api.ErrDir
	}
	w.Dir = reading
	return api.OK
}

// isReadOut tells whether the end was met and nothing is left to be got ahead of it.
func (w *way) isReadOut() bool {
	return w.End && len(w.In)+len(w.Back) == 0
}

func (w *way) put(c byte) api.Errno {
	if w.Mode == unbuffered {
		_, e := retry.Put(w.raw, []byte{c})
		return w.marked(e)
	}
	if w.isFull() {
		// An earlier delivery failed: the byte is not taken until one is whole.
		if e := w.deliver(); e != api.OK {
			return e
		}
	}
	w.Out = append(w.Out, c)
	if w.isFull() || w.Mode == byLines && c == newline {
		return w.deliver()
	}
	return api.OK
}

func (w *way) isFull() bool {
	return len(w.Out) == w.Size
}

func (w *way) get() (byte, api.Errno) {
	if last := len(w.Back) - 1; last >= 0 {
		c := w.Back[last]
		w.Back = w.Back[:last]
		return c, api.OK
	}
	if len(w.In) == 0 {
		if e := w.fill(); e != api.OK {
			return 0, e
		}
	}
	c := w.In[0]
	w.In = behind(w.In, 1)
	return c, api.OK
}

// fill reads at least one byte, or meets the end, behind which there is no read any more.
func (w *way) fill() api.Errno {
	if w.End {
		return api.ErrEnd
	}
	most := w.Size
	if w.Mode == unbuffered {
		most = 1
	}
	b, e := retry.Some(w.raw, most)
	if e != api.OK {
		return w.marked(e)
	}
	if len(b) == 0 {
		w.End = true
		return api.ErrEnd
	}
	w.In = b
	return api.OK
}

func (w *way) flush() api.Errno {
	e := w.deliver()
	if e == api.OK {
		w.Dir = noWay
	}
	return e
}

func (w *way) close() api.Errno {
	e := w.deliver()
	w.Out, w.In, w.Back = nil, nil, nil
	w.Dir = noWay
	w.Closed = true
	return e
}

// deliver writes what was put; what the Raw did not take stays.
func (w *way) deliver() api.Errno {
	n, e := retry.Put(w.raw, w.Out)
	w.Out = behind(w.Out, n)
	return w.marked(e)
}

// marked answers a raw call's error, having marked the state by it; that a call would wait is no failure.
func (w *way) marked(e api.Errno) api.Errno {
	if e != api.OK && e != api.ErrBlock {
		w.Bad = true
	}
	return e
}

// behind answers the bytes behind the first n, of which no memory is held where there are none.
func behind(b []byte, n int) []byte {
	if n == len(b) {
		return nil
	}
	return b[n:]
}
