// Package change has machines that are changed: what the layers behind machine do to them step by step.
package change

import (
	"cmp"
	"slices"

	"pagewright/api"
	"pagewright/frames"
	"pagewright/machine"
	"pagewright/slots"
	"pagewright/table"
)

// noFile is File of a frame that is no file's page.
const noFile = -1

// Machine is a right machine that is changed. It stays right from step to step, so that what the other layers would refuse does not come up.
type Machine struct{ api.Machine }

// Spot is a page of a process.
type Spot struct{ Proc, Page int }

// Of answers a copy of m, a right machine, to be changed.
func Of(m api.Machine) *Machine { return &Machine{machine.Own(m)} }

// Entry answers the entry of s.
func (m *Machine) Entry(s Spot) api.Entry {
	return table.Get(m.Spaces[s.Proc].Table, s.Page)
}

// Holders answers all pages of processes that have frame k, or slot k, as kind tells.
func (m *Machine) Holders(kind, k int) []Spot {
	var l []Spot
	for p, s := range m.Spaces {
		for _, n := range table.Find(s.Table, kind, k) {
			l = append(l, Spot{p, n})
		}
	}
	return l
}

// Cached answers in which frame page index of file is, and whether it is in one.
func (m *Machine) Cached(file, index int) (int, bool) {
	at, ok := m.placeOf(file, index)
	if !ok {
		return 0, false
	}
	return m.Cache[at].Frame, true
}

// Drop has s have nothing any more.
func (m *Machine) Drop(s Spot) {
	m.hold(m.Entry(s), -1)
	m.enter(s, api.Entry{})
}

// Join has s, which has nothing, be in frame k, as others are.
func (m *Machine) Join(s Spot, k int) {
	e := api.Entry{Kind: api.Present, N: k}
	m.hold(e, 1)
	m.enter(s, e)
}

// Share has s, which has nothing, and lies in an area like from's, have what that has, a frame, a slot, or nothing. Neither may write there then: a copy of both would be seen to change by the other one.
func (m *Machine) Share(s, from Spot) {
	e := m.Entry(from)
	e.Write = false
	m.hold(e, 1)
	m.enter(from, e)
	m.enter(s, e)
}

// Allow has s, which is in a frame, be written there.
func (m *Machine) Allow(s Spot) {
	e := m.Entry(s)
	e.Write = true
	m.enter(s, e)
}

// Copy has all of l be in one frame that has p, a copy of their own, and answers which one; ErrFull, if no frame can be free.
func (m *Machine) Copy(p api.Page, l ...Spot) (int, api.Errno) {
	k, err := m.take(p, noFile, 0, l)
	if err != api.OK {
		return 0, err
	}
	for _, s := range l {
		m.Join(s, k)
	}
	// The frame was taken for them: it is held by nobody else.
	m.Memory, _ = frames.Hold(m.Memory, k, -1)
	return k, api.OK
}

// Fetch has page index of file, which is p, and not in the cache yet, be in a frame, and all of l with it, and answers which one; ErrFull, if no frame can be free.
func (m *Machine) Fetch(p api.Page, file, index int, l ...Spot) (int, api.Errno) {
	k, err := m.take(p, file, index, l)
	if err != api.OK {
		return 0, err
	}
	at, _ := m.placeOf(file, index)
	m.Cache = slices.Insert(m.Cache, at, api.Cached{File: file, Index: index, Frame: k})
	for _, s := range l {
		m.Join(s, k)
	}
	return k, api.OK
}

// take has all of l have nothing, and answers a frame, held once, that has p, page index of file.
func (m *Machine) take(p api.Page, file, index int, l []Spot) (int, api.Errno) {
	// What they had goes first: it may be the last slot, in which another frame's page finds its place.
	for _, s := range l {
		m.Drop(s)
	}
	if frames.Free(m.Memory) == 0 && !m.FreeFrame(l...) {
		return 0, api.ErrFull
	}
	memory, k, err := frames.Take(m.Memory, p, file, index)
	if err != api.OK {
		return 0, err
	}
	m.Memory = memory
	return k, api.OK
}

// hold has the frame, or the slot, of e be held n times more (n below 0: less).
func (m *Machine) hold(e api.Entry, n int) {
	switch e.Kind {
	case api.Present:
		m.Memory, _ = frames.Hold(m.Memory, e.N, n)
	case api.Swapped:
		m.Slots, _ = slots.Hold(m.Slots, e.N, n)
	}
}

// enter gives s the entry e.
func (m *Machine) enter(s Spot, e api.Entry) {
	space := &m.Spaces[s.Proc]
	space.Table, _ = table.Set(space.Table, s.Page, e)
}

// placeOf answers where page index of file stands in the cache, or would stand, and whether it does.
func (m *Machine) placeOf(file, index int) (int, bool) {
	return slices.BinarySearchFunc(m.Cache, api.Cached{File: file, Index: index}, func(c, d api.Cached) int {
		return cmp.Or(cmp.Compare(c.File, d.File), cmp.Compare(c.Index, d.Index))
	})
}
