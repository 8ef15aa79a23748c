package kpipe

import "millrace/api"

// ring is bytes in a row: the row begins at any place of the array, and goes on at its beginning behind its end.
type ring struct {
	places [api.PipeCap]byte
	first  int
	count  int
}

// room answers how many bytes can be put yet.
func (r *ring) room() int {
	return len(r.places) - r.count
}

// front answers the first n bytes, or all if there are fewer; they stay where they are.
func (r *ring) front(n int) []byte {
	b := make([]byte, min(n, r.count))
	before := copy(b, r.places[r.first:])
	copy(b[before:], r.places[:])
	return b
}

// take answers what front answers, and takes it away.
func (r *ring) take(n int) []byte {
	b := r.front(n)
	r.first = r.place(len(b))
	r.count -= len(b)
	return b
}

// put lays the bytes, for which there must be room, behind the last one.
func (r *ring) put(b []byte) {
	before := copy(r.places[r.place(r.count):], b)
	copy(r.places[:], b[before:])
	r.count += len(b)
}

// place answers where in the array the byte stands that has n of the row ahead of it.
func (r *ring) place(n int) int {
	return (r.first + n) % len(r.places)
}
