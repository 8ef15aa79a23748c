package kern

import (
	"millrace/api"
	"millrace/file"
	"millrace/kpipe"
	"millrace/terminal"
)

// What Kind answers.
const (
	aFile = iota + 1
	aTerminal
	aPipe
)

// thing is what a description is of.
type thing interface {
	// kind is what Kind answers.
	kind() int
	// readWaits tells whether a read would be ErrBlock.
	readWaits() bool
	// refuses answers why a write of n bytes is not even tried, whatever the next fault is.
	refuses(n int) api.Errno
	// read answers at most that many bytes.
	read(most int) ([]byte, api.Errno)
	// write needs a write that is not refused, and at most as many bytes as there are; it answers how many were taken.
	write(b []byte, most int) (int, api.Errno)
}

// openFile is a file with a place, which each description has for itself.
type openFile struct {
	*file.File
	place   int
	appends bool
}

func (f *openFile) kind() int { return aFile }

func (f *openFile) readWaits() bool { return false }

func (f *openFile) refuses(int) api.Errno {
	if f.writePlace() == api.MaxFile {
		return api.ErrFull
	}
	return api.OK
}

func (f *openFile) read(most int) ([]byte, api.Errno) {
	b, e := f.ReadAt(f.place, most)
	f.place += len(b)
	return b, e
}

func (f *openFile) write(b []byte, most int) (int, api.Errno) {
	at := f.writePlace()
	n := min(most, api.MaxFile-at)
	f.place = at + n
	return n, f.WriteAt(at, b[:n])
}

// writePlace is asked anew for each write: what is appended goes behind what others have written meanwhile.
func (f *openFile) writePlace() int {
	if f.appends {
		return f.Size()
	}
	return f.place
}

// console is a terminal, shared by its descriptions.
type console struct {
	*terminal.Terminal
	// shown is how many bytes its screen has: to ask the screen itself would copy it for each write.
	shown int
}

func (c *console) kind() int { return aTerminal }

func (c *console) readWaits() bool { return false }

func (c *console) refuses(int) api.Errno {
	if c.shown == api.MaxFile {
		return api.ErrFull
	}
	return api.OK
}

func (c *console) read(most int) ([]byte, api.Errno) {
	return c.Read(most)
}

func (c *console) write(b []byte, most int) (int, api.Errno) {
	n := min(most, api.MaxFile-c.shown)
	c.shown += n
	return n, c.Write(b[:n])
}

// pipeEnd is a pipe, shared by both of its descriptions; which end one has, its flags tell.
type pipeEnd struct {
	*kpipe.Pipe
}

// newPipe answers the reading and the writing end of a new pipe.
func newPipe() (thing, thing) {
	p := kpipe.New()
	p.Join(false)
	p.Join(true)
	return pipeEnd{p}, pipeEnd{p}
}

func (p pipeEnd) kind() int { return aPipe }

func (p pipeEnd) readWaits() bool { return !p.CanRead() }

func (p pipeEnd) refuses(n int) api.Errno {
	if readers, _ := p.Ends(); readers == 0 {
		return api.ErrPipe
	}
	if !p.CanWrite(n) {
		return api.ErrBlock
	}
	return api.OK
}

func (p pipeEnd) read(most int) ([]byte, api.Errno) {
	return p.Read(most)
}

// write leaves it to the pipe that a small write is never cut.
func (p pipeEnd) write(b []byte, most int) (int, api.Errno) {
	return p.Write(b, most)
}

// fileOf tells whether the thing is a file, and which.
func fileOf(t thing) (*openFile, bool) {
	f, ok := t.(*openFile)
	return f, ok
}

// pipeOf tells whether the thing is a pipe, and which.
func pipeOf(t thing) (pipeEnd, bool) {
	p, ok := t.(pipeEnd)
	return p, ok
}
