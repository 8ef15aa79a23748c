package registry

import (
	"bytes"
	"slices"

	"millrace/api"
)

// What a hook does.
const (
	puts = iota + 1
	panics
	exits
	closes
)

// What a note tells of.
const (
	ofHook = iota + 1
	ofStream
)

// Hook is what is done at the end: its Kind 1 puts Text on Stream, 2 panics, 3 asks for the end with Code, 4 closes Stream.
type Hook struct {
	Kind   int
	Stream int
	Text   []byte
	Code   int
}

// Note is what came of a hook (What 1) or of a stream (What 2) at the end.
type Note struct {
	What   int
	Number int
	Err    api.Errno
}

// AtExit adds a hook, which runs ahead of those that were added before it.
func (g *Registry) AtExit(h Hook) api.Errno {
	if e := g.refusal(); e != api.OK {
		return e
	}
	switch {
	case h.Kind < puts || h.Kind > closes:
		return api.ErrArg
	case len(h.Text) > api.MaxLine:
		return api.ErrLong
	case len(g.hooks) >= api.MaxHooks:
		return api.ErrCount
	}
	h.Text = bytes.Clone(h.Text)
	g.hooks = append(g.hooks, h)
	return api.OK
}

// Exit runs the hooks, closes all streams, and answers the code and what came of them.
func (g *Registry) Exit(code int) (int, []Note, api.Errno) {
	if e := g.refusal(); e != api.OK {
		return 0, nil, e
	}
	// From now on: a hook and a Raw may ask for the end too.
	g.ended = true
	var notes []Note
	for i, h := range slices.Backward(g.hooks) {
		notes = append(notes, Note{What: ofHook, Number: i, Err: g.run(h)})
	}
	g.hooks = nil
	for x := range g.rising {
		notes = append(notes, Note{What: ofStream, Number: x.id, Err: g.Close(x.id)})
	}
	return code, notes, api.OK
}

// run runs a hook; its panic ends that hook alone.
func (g *Registry) run(h Hook) (e api.Errno) {
	defer func() {
		if recover() != nil {
			e = api.ErrPanic
		}
	}()
	switch h.Kind {
	case puts:
		_, e = g.Put(h.Stream, h.Text)
	case panics:
		panic("a hook panics")
	case exits:
		_, _, e = g.Exit(h.Code)
	case closes:
		e = g.Close(h.Stream)
	}
	return e
}
