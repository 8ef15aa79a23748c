package blocks

import (
	"millrace/api"
	"millrace/retry"
	"millrace/stream"
)

// source is a stream whose bytes are got one by one. A stream.Get copies all that its state holds, so that In stands apart, in ahead, once nothing is got before it: else each byte would cost a buffer.
type source struct {
	stream.State
	raw retry.Raw
	// ahead is got before all else; there is some of it only where Back and In are empty.
	ahead []byte
}

func (x *source) next() (byte, api.Errno) {
	if len(x.ahead) > 0 {
		c := x.ahead[0]
		x.ahead = x.ahead[1:]
		return c, api.OK
	}
	after, c, e := stream.Get(x.State, x.raw)
	x.State = after
	if len(x.Back) == 0 {
		x.In, x.ahead = nil, x.In
	}
	return c, e
}

// joined answers the state with what stands apart in its place again.
func (x *source) joined() stream.State {
	s := x.State
	if len(x.ahead) > 0 {
		s.In = x.ahead
	}
	return s
}

// get gets n bytes, or those that are told till one told an error, and that error.
func get(s stream.State, r retry.Raw, n int) (stream.State, []byte, api.Errno) {
	from := source{State: copied(s), raw: r}
	var b []byte
	for range n {
		c, e := from.next()
		if e != api.OK {
			return from.joined(), b, e
		}
		b = append(b, c)
	}
	return from.joined(), b, api.OK
}
