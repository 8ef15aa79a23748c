package kern

import "millrace/api"

// Handle is a kernel's description.
type Handle struct {
	K *Kernel
	D int
}

// Read is the kernel's, of the handle's description.
func (h Handle) Read(n int) ([]byte, api.Errno) {
	return h.K.Read(h.D, n)
}

// Write is the kernel's, of the handle's description.
func (h Handle) Write(b []byte) (int, api.Errno) {
	return h.K.Write(h.D, b)
}

// Seek is the kernel's, of the handle's description.
func (h Handle) Seek(off int, whence int) (int, api.Errno) {
	return h.K.Seek(h.D, off, whence)
}
