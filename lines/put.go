package lines

import (
	"bytes"

	"millrace/api"
	"millrace/retry"
	"millrace/stream"
)

// The modes of a buffer, of which putting asks.
const (
	unbuffered = iota + 1
	byLines
)

// shutSays is what a shut Raw answers to a write: the one error that marks no state, and none of those that stream.Put says ahead of its raw call.
const shutSays = api.ErrBlock

// shut is a Raw that takes nothing: over it stream.Put tells what it says ahead of its raw call, and no byte is gone.
type shut struct {
	retry.Raw
}

// Write takes none of the bytes.
func (shut) Write(b []byte) (int, api.Errno) {
	return 0, shutSays
}

// putAtOnce writes the bytes of a stream without a buffer, which was turned to writing already.
func putAtOnce(s stream.State, r retry.Raw, b []byte) (stream.State, int, api.Errno) {
	n, e := retry.Put(r, b)
	if e != api.OK && e != api.ErrBlock {
		s.Bad = true
	}
	return s, n, e
}

// putThrough puts the bytes through the buffer of a stream that may be put to.
func putThrough(s stream.State, r retry.Raw, b []byte) (stream.State, int, api.Errno) {
	s, e := withRoom(s, r)
	if e != api.OK {
		return s, 0, e
	}
	taken := 0
	for taken < len(b) && e == api.OK {
		s, e = stream.Put(s, r, b[taken])
		// There was room, so that the byte is taken beside an error too.
		taken++
		if e == api.OK {
			n := quiet(s, b[taken:])
			s.Out = append(s.Out, b[taken:taken+n]...)
			taken += n
		}
	}
	return s, taken, e
}

// withRoom delivers a buffer that is full, as one is behind a delivery that failed. stream.Put would do so too, but its error does not tell whether the byte was taken.
func withRoom(s stream.State, r retry.Raw) (stream.State, api.Errno) {
	if len(s.Out) < s.Size {
		return s, api.OK
	}
	return stream.Flush(s, r)
}

// quiet answers how many of the bytes only stand behind Out once they are put, with no delivery. They are laid there at one time, as a stream.Put copies all that its state holds: else each byte would cost a buffer.
func quiet(s stream.State, b []byte) int {
	n := min(len(b), s.Size-1-len(s.Out))
	if s.Mode != byLines {
		return n
	}
	if at := bytes.IndexByte(b[:n], newline); at >= 0 {
		return at
	}
	return n
}
