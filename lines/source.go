package lines

import (
	"slices"

	"millrace/api"
	"millrace/retry"
	"millrace/stream"
)

// nearMost is how many bytes of In a stream.Get is handed at most.
const nearMost = 64

// source is a stream whose bytes are got one by one. A stream.Get copies all that its state holds, so that most of In stands apart meanwhile: else each byte would cost a buffer.
type source struct {
	stream.State
	raw retry.Raw
	// far stands behind In; there is some of it only where there is some of In.
	far []byte
}

func sourceOf(s stream.State, r retry.Raw) *source {
	x := &source{State: copied(s), raw: r}
	x.partIn()
	return x
}

func (x *source) next() (byte, api.Errno) {
	after, c, e := stream.Get(x.State, x.raw)
	x.State = after
	x.partIn()
	return c, e
}

// partIn leaves of In, once no more of it stands apart, only what is near, and goes on with what is far once that is got.
func (x *source) partIn() {
	if len(x.far) == 0 {
		x.In, x.far = nil, x.In
	}
	if len(x.In) == 0 {
		n := min(nearMost, len(x.far))
		x.In, x.far = x.far[:n], x.far[n:]
	}
}

// whole answers the state with all of In.
func (x *source) whole() stream.State {
	s := x.State
	s.In = slices.Concat(x.In, x.far)
	return s
}

// gather gets bytes till there are enough of them, or till one told an error.
func gather(s stream.State, r retry.Raw, enough func(b []byte) bool) (stream.State, []byte, api.Errno) {
	from := sourceOf(s, r)
	var b []byte
	for !enough(b) {
		c, e := from.next()
		if e != api.OK {
			return from.whole(), b, e
		}
		b = append(b, c)
	}
	return from.whole(), b, api.OK
}
