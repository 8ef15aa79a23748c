package memory

import (
	"bytes"

	"millrace/api"
)

// writeFails is the number by which a write is ErrCustom; by the ones below it a write panics.
const writeFails = -1

// Answer is what a custom stream's read tells: an error, or bytes.
type Answer struct {
	Data []byte
	Err  api.Errno
}

// Custom is a stream of one's own, whose calls answer by lists.
type Custom struct {
	// made tells a stream without a list from one that no call made.
	made bool
	// reads are the answers that are left; of the first one only what was not read yet.
	reads []Answer
	// writes are the numbers that are left.
	writes []int
	taken  []byte
}

// NewCustom answers a stream whose reads tell the answers, one by one, and whose writes go by the numbers.
func NewCustom(reads []Answer, writes []int) (*Custom, api.Errno) {
	if len(reads) > api.MaxCalls || len(writes) > api.MaxCalls {
		return nil, api.ErrCount
	}
	for _, a := range reads {
		if len(a.Data) > api.MaxFile {
			return nil, api.ErrLong
		}
	}
	return &Custom{made: true, reads: copiedAnswers(reads), writes: append([]int(nil), writes...)}, api.OK
}

// Read answers the next answer's error, or its first n bytes; none behind the last answer.
func (x *Custom) Read(n int) ([]byte, api.Errno) {
	switch {
	case !x.isMade():
		return nil, api.ErrMade
	case n < 0 || n > api.MaxFile:
		return nil, api.ErrRange
	case n == 0 || len(x.reads) == 0:
		return nil, api.OK
	}
	next := x.reads[0]
	n = min(n, len(next.Data))
	defer x.useAnswer(n)
	return bytes.Clone(next.Data[:n]), next.Err
}

// Write takes as many of the bytes as the next number says, all behind the last number, and answers how many. It panics by a number below -1.
func (x *Custom) Write(b []byte) (int, api.Errno) {
	switch {
	case !x.isMade():
		return 0, api.ErrMade
	case len(b) > api.MaxFile:
		return 0, api.ErrLong
	case len(b) == 0:
		return 0, api.OK
	}
	n, e := x.howMany(len(b))
	x.taken = append(x.taken, b[:n]...)
	return n, e
}

// Seek is refused: a custom stream has no places.
func (x *Custom) Seek(off int, whence int) (int, api.Errno) {
	if !x.isMade() {
		return 0, api.ErrMade
	}
	return 0, api.ErrSeek
}

// Taken answers all bytes that were taken.
func (x *Custom) Taken() []byte {
	if !x.isMade() {
		return nil
	}
	return bytes.Clone(x.taken)
}

func (x *Custom) isMade() bool {
	return x != nil && x.made
}

// howMany answers how many of n bytes the next number lets a write take.
func (x *Custom) howMany(n int) (int, api.Errno) {
	if len(x.writes) == 0 {
		return n, api.OK
	}
	// Deferred, as a number by which the write panics is used up too.
	defer x.useNumber()
	next := x.writes[0]
	if next < writeFails {
		panic("memory: a custom stream's write panics")
	}
	if next == writeFails {
		return 0, api.ErrCustom
	}
	return min(next, n), api.OK
}

// useAnswer takes n bytes off the first answer, which is gone once it has no more.
func (x *Custom) useAnswer(n int) {
	if n < len(x.reads[0].Data) {
		x.reads[0].Data = x.reads[0].Data[n:]
		return
	}
	// The place is emptied too, as the list's front would keep the bytes otherwise.
	x.reads[0] = Answer{}
	x.reads = x.reads[1:]
}

func (x *Custom) useNumber() {
	x.writes = x.writes[1:]
}

// copiedAnswers leaves out the bytes beside an error, which no read tells.
func copiedAnswers(l []Answer) []Answer {
	c := make([]Answer, len(l))
	for i, a := range l {
		c[i].Err = a.Err
		if a.Err == api.OK {
			c[i].Data = bytes.Clone(a.Data)
		}
	}
	return c
}
