package scan

import (
	"millrace/api"
	"millrace/pushback"
	"millrace/retry"
	"millrace/stream"
)

// source is where bytes come from.
type source interface {
	// next answers the next byte; ErrEnd: there is none.
	next() (byte, api.Errno)
	// back is told the byte that came last, which is to come next again.
	back(c byte)
}

// text is a source of bytes that stand there; at tells how many are used up.
type text struct {
	b  []byte
	at int
}

func (x *text) next() (byte, api.Errno) {
	if x.at == len(x.b) {
		return 0, api.ErrEnd
	}
	x.at++
	return x.b[x.at-1], api.OK
}

func (x *text) back(byte) {
	x.at--
}

// flow is a source of what a stream's Gets tell. stream.Get and pushback.Unget copy all that their state holds, so that In stands apart: else each byte would cost a buffer.
type flow struct {
	stream.State
	raw retry.Raw
	// ahead is got behind Back and ahead of all else, in the place of In, which is empty.
	ahead []byte
}

func flowOf(s stream.State, r retry.Raw) *flow {
	x := &flow{State: copied(s), raw: r}
	x.setApart()
	return x
}

func (x *flow) next() (byte, api.Errno) {
	if len(x.Back) == 0 && len(x.ahead) > 0 {
		c := x.ahead[0]
		x.ahead = x.ahead[1:]
		return c, api.OK
	}
	after, c, e := stream.Get(x.State, x.raw)
	x.State = after
	x.setApart()
	return c, e
}

func (x *flow) back(c byte) {
	// There is room for it: it was got.
	x.State, _ = pushback.Unget(x.State, c)
}

// setApart takes In, if there is some of it, which is so only where nothing stands apart.
func (x *flow) setApart() {
	if len(x.In) > 0 {
		x.In, x.ahead = nil, x.In
	}
}

// joined answers the state with what stands apart in its place again.
func (x *flow) joined() stream.State {
	s := x.State
	if len(x.ahead) > 0 {
		s.In = x.ahead
	}
	return s
}
