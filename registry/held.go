package registry

import (
	"bytes"
	"slices"

	"millrace/api"
	"millrace/retry"
	"millrace/stream"
)

// byLines is the mode of a buffer that is delivered ahead of a terminal's reads.
const byLines = 2

// held is an open stream.
type held struct {
	id       int
	state    stream.State
	raw      retry.Raw
	terminal bool
}

// call is what is done with a stream; it answers the state that follows.
type call func(s stream.State, r retry.Raw) (stream.State, api.Errno)

// rising hands out the open streams in the order of their numbers. A Raw may call back: what that closes is handed out no more, and what it adds is not handed out.
func (g *Registry) rising(yield func(x *held) bool) {
	for _, x := range slices.Clone(g.streams) {
		if slices.Contains(g.streams, x) && !yield(x) {
			return
		}
	}
}

// on makes a call on the open stream of that number.
func (g *Registry) on(id int, do call) api.Errno {
	x, e := g.find(id)
	if e != api.OK {
		return e
	}
	return g.through(x, do)
}

// through makes a call on a stream, and keeps the state that follows. A panic of a Raw ends that call alone: the state is as it was, but Bad.
func (g *Registry) through(x *held, do call) (e api.Errno) {
	defer func() {
		if recover() != nil {
			x.state.Bad = true
			e = api.ErrPanic
		}
	}()
	x.state, e = do(x.state, g.rawOf(x))
	return e
}

// rawOf answers the Raw by which calls on a stream go.
func (g *Registry) rawOf(x *held) retry.Raw {
	if x.terminal {
		return &asking{Raw: x.raw, g: g}
	}
	return x.raw
}

// asking is a terminal's Raw within one call: whoever sits there sees all lines before they are asked for one.
type asking struct {
	retry.Raw
	g *Registry
	// tried: the read before is made once more, within the same Get.
	tried bool
}

func (a *asking) Read(n int) ([]byte, api.Errno) {
	if !a.tried {
		a.g.deliverLines()
	}
	b, e := a.Raw.Read(n)
	a.tried = e == api.ErrIntr || e == api.ErrAgain
	return b, e
}

// deliverLines delivers all that was put by lines; what goes wrong is to be seen by the marks of those streams alone.
func (g *Registry) deliverLines() {
	for x := range g.rising {
		if x.state.Mode == byLines && len(x.state.Out) > 0 {
			g.through(x, deliver)
		}
	}
}

// deliver is a Flush behind which a stream still goes the way that it went.
func deliver(s stream.State, r retry.Raw) (stream.State, api.Errno) {
	after, e := stream.Flush(s, r)
	after.Dir = s.Dir
	return after, e
}

// copied answers the same state with lists of its own.
func copied(s stream.State) stream.State {
	s.Out, s.In, s.Back = bytes.Clone(s.Out), bytes.Clone(s.In), bytes.Clone(s.Back)
	return s
}
