package kern

import (
	"millrace/api"
	"millrace/faults"
	"millrace/file"
	"millrace/terminal"
)

// The flags of Open, which are added up.
const (
	reading = 1 << iota
	writing
	appending
	creating
	truncating
	exclusive
	// beyondFlags is greater than any sum of them.
	beyondFlags
)

// The bytes that may stand in a name: those that are seen, none of them a blank.
const (
	lowestOfName  = 33
	highestOfName = 126
)

// names are those that are given; a struct without a field as value, since there is nothing to tell of one but that it is there.
type names map[string]struct{}

// Check answers why there may be no kernel of c.
func Check(c Config) api.Errno {
	if len(c.Files)+len(c.Terms) > api.MaxObjects {
		return api.ErrCount
	}
	given := names{}
	for _, f := range c.Files {
		if e := given.give(f.Name); e != api.OK {
			return e
		}
		if len(f.Data) > api.MaxFile {
			return api.ErrLong
		}
	}
	for _, t := range c.Terms {
		if e := given.give(t.Name); e != api.OK {
			return e
		}
		if _, e := terminal.New(t.Lines); e != api.OK {
			return e
		}
	}
	e, _ := faults.Check(c.Faults)
	return e
}

// New answers a kernel of c, without a description.
func New(c Config) (*Kernel, api.Errno) {
	if e := Check(c); e != api.OK {
		return nil, e
	}
	k := &Kernel{
		made:  true,
		files: map[string]*file.File{},
		terms: map[string]*console{},
		open:  map[int]*description{},
	}
	// Check has seen to it that none of these is refused.
	for _, f := range c.Files {
		k.newFile(f.Name, f.Data)
	}
	for _, t := range c.Terms {
		made, _ := terminal.New(t.Lines)
		k.terms[t.Name] = &console{Terminal: made}
	}
	k.plan, _ = faults.New(c.Faults)
	return k, api.OK
}

// give gives a name that may be, once.
func (l names) give(name string) api.Errno {
	if !nameMayBe(name) {
		return api.ErrName
	}
	if _, ok := l[name]; ok {
		return api.ErrTwice
	}
	l[name] = struct{}{}
	return api.OK
}

func nameMayBe(name string) bool {
	if len(name) < 1 || len(name) > api.MaxName {
		return false
	}
	// By bytes, not by runes: a name is no text in any encoding.
	for i := range len(name) {
		if name[i] < lowestOfName || name[i] > highestOfName {
			return false
		}
	}
	return true
}

func flagsMayBe(flags int) bool {
	switch {
	case flags < 0 || flags >= beyondFlags:
		return false
	case flags&(reading|writing) == 0:
		return false
	case flags&(appending|truncating) != 0 && flags&writing == 0:
		return false
	case flags&exclusive != 0 && flags&creating == 0:
		return false
	}
	return true
}
