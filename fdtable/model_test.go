package fdtable

import (
	"slices"
	"testing"

	"millrace/api"
	"millrace/kern"
)

// dice answers numbers from 0 on below n, the same ones of the same seed.
func dice(seed uint64) func(n int) int {
	return func(n int) int {
		seed = seed*6364136223846793005 + 1442695040888963407
		return int(seed>>33) % n
	}
}

// TestLowestFree: whatever is closed in whatever order, the lowest free one is next, for all that hand one out (P7.4).
func TestLowestFree(t *testing.T) {
	k := kernelOf(t, "")
	x := filled(t, k, api.MaxFds)
	roll := dice(7)
	var free []int
	for range 4000 {
		if roll(2) == 0 || len(free) == 0 {
			if fd := roll(api.MaxFds); !slices.Contains(free, fd) && len(free) < api.MaxFds-1 {
				wantClose(t, x, fd, api.OK)
				free = append(free, fd)
				slices.Sort(free)
			}
			continue
		}
		want := free[0]
		free = free[1:]
		switch roll(3) {
		case 0:
			wantOpen(t, x, "b", 1, want)
		case 1:
			wantInstall(t, x, descOf(t, x, x.List()[0]), want)
		default:
			wantDup(t, x, x.List()[roll(len(x.List()))], want)
		}
	}
}

// modelled is a table, and what it should have: descriptions by descriptor.
type modelled struct {
	x     *Table
	descs map[int]int
	marks map[int]bool
}

func (m *modelled) lowest() int {
	for fd := range api.MaxFds {
		if _, ok := m.descs[fd]; !ok {
			return fd
		}
	}
	return -1
}

func (m *modelled) put(fd int, d int) {
	m.descs[fd], m.marks[fd] = d, false
}

func (m *modelled) remove(fd int) {
	delete(m.descs, fd)
	delete(m.marks, fd)
}

// step makes one call of the table and of the model.
func (m *modelled) step(t *testing.T, roll func(int) int, newest *int) {
	t.Helper()
	fd, to := roll(api.MaxFds+4)-2, roll(api.MaxFds+4)-2
	d, inUse := m.descs[fd]
	fdError := api.ErrFd
	if inUse {
		fdError = api.OK
	}
	low := m.lowest()
	switch roll(6) {
	case 0:
		if low < 0 {
			wantNoOpen(t, m.x, "a", 1, api.ErrFull)
			return
		}
		wantOpen(t, m.x, "a", 1, low)
		*newest++
		m.put(low, *newest)
	case 1:
		r, w, e := m.x.Pipe()
		if len(m.descs) > api.MaxFds-2 {
			if e != api.ErrFull {
				t.Fatalf("P7.1: Pipe of a full table: %d, %d, %d", r, w, e)
			}
			return
		}
		m.put(low, *newest+1)
		next := m.lowest()
		m.put(next, *newest+2)
		*newest += 2
		if r != low || w != next || e != api.OK {
			t.Fatalf("P7.1: Pipe: %d, %d, %d, not %d, %d", r, w, e, low, next)
		}
	case 2:
		wantClose(t, m.x, fd, fdError)
		m.remove(fd)
	case 3:
		switch {
		case !inUse:
			wantNoDup(t, m.x, fd, api.ErrFd)
		case low < 0:
			wantNoDup(t, m.x, fd, api.ErrFull)
		default:
			wantDup(t, m.x, fd, low)
			m.put(low, d)
		}
	case 4:
		if !inUse || to < 0 || to >= api.MaxFds {
			wantDupTo(t, m.x, fd, to, api.ErrFd)
			return
		}
		wantDupTo(t, m.x, fd, to, api.OK)
		if to != fd {
			m.put(to, d)
		}
	default:
		if e := m.x.Mark(fd, roll(2) == 0); e != fdError {
			t.Fatalf("P7.2: Mark(%d): %d, not %d", fd, e, fdError)
		}
		if inUse {
			m.marks[fd], _ = m.x.Marked(fd)
		}
	}
}

func (m *modelled) fork(t *testing.T) *modelled {
	t.Helper()
	c := &modelled{x: forkOf(t, m.x), descs: map[int]int{}, marks: map[int]bool{}}
	for fd, d := range m.descs {
		if !m.marks[fd] {
			c.put(fd, d)
		}
	}
	return c
}

// check holds the tables, and the holders of all descriptions, against the models.
func check(t *testing.T, k *kern.Kernel, all []*modelled, newest int) {
	t.Helper()
	held := map[int]int{}
	for _, m := range all {
		list := m.x.List()
		if len(list) != len(m.descs) || !slices.IsSorted(list) {
			t.Fatalf("P7.3: List: %v, of %d", list, len(m.descs))
		}
		for _, fd := range list {
			wantDesc(t, m.x, fd, m.descs[fd])
			wantMarked(t, m.x, fd, m.marks[fd])
			held[m.descs[fd]]++
		}
	}
	for d := 0; d <= newest+1; d++ {
		if got := holders(t, k, d); got != held[d] {
			t.Fatalf("P7.6: description %d: %d hold it, not %d", d, got, held[d])
		}
	}
}

// TestModel: tables and their forks against models of them, to where all have closed all (P7.1 to P7.6).
func TestModel(t *testing.T) {
	for seed := range uint64(12) {
		roll := dice(seed)
		k := kernelOf(t, "")
		all := []*modelled{{x: tableOver(t, k), descs: map[int]int{}, marks: map[int]bool{}}}
		newest := 0
		for i := range 300 {
			at := roll(len(all))
			switch {
			case i%40 == 39 && len(all) < 4:
				all = append(all, all[at].fork(t))
			case i%90 == 89:
				all[at].x.CloseAll()
				clear(all[at].descs)
				clear(all[at].marks)
			default:
				all[at].step(t, roll, &newest)
			}
			if i%20 == 0 {
				check(t, k, all, newest)
			}
			if t.Failed() {
				t.Fatalf("seed %d, step %d", seed, i)
			}
		}
		check(t, k, all, newest)
		for _, m := range all {
			m.x.CloseAll()
			clear(m.descs)
		}
		check(t, k, all, newest)
	}
}
