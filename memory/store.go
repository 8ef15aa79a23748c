package memory

import (
	"millrace/api"
	"millrace/file"
)

// What an offset of a seek is counted from.
const (
	fromBeginning = iota
	fromPlace
	fromEnd
)

// store is bytes, and a place from 0 to its room.
type store struct {
	// bytes is nil in a store that no call made.
	bytes *file.File
	room  int
	place int
}

// storeOf answers a store of the bytes, which are at most as many as the room, and as a file may have.
func storeOf(b []byte, room int) (store, api.Errno) {
	if len(b) > room {
		return store{}, api.ErrLong
	}
	f, e := file.New(b)
	return store{bytes: f, room: room}, e
}

func (s *store) isMade() bool {
	return s.bytes != nil
}

// read leaves it to the file to refuse a store that no call made, and a number out of range.
func (s *store) read(n int) ([]byte, api.Errno) {
	b, e := s.bytes.ReadAt(s.place, n)
	s.place += len(b)
	return b, e
}

func (s *store) write(b []byte) (int, api.Errno) {
	switch {
	case !s.isMade():
		return 0, api.ErrMade
	case len(b) > api.MaxFile:
		return 0, api.ErrLong
	case len(b) == 0:
		return 0, api.OK
	case s.place == s.room:
		return 0, api.ErrFull
	}
	n := min(len(b), s.room-s.place)
	e := s.bytes.WriteAt(s.place, b[:n])
	s.place += n
	return n, e
}

func (s *store) seek(off int, whence int) (int, api.Errno) {
	if !s.isMade() {
		return 0, api.ErrMade
	}
	from := 0
	switch whence {
	case fromBeginning:
	case fromPlace:
		from = s.place
	case fromEnd:
		from = s.bytes.Size()
	default:
		return 0, api.ErrArg
	}
	// The sum is not made ahead of this: of a great offset it would wrap round.
	if off < -from || off > s.room-from {
		return 0, api.ErrRange
	}
	s.place = from + off
	return s.place, api.OK
}

func (s *store) all() []byte {
	return s.bytes.Bytes()
}
