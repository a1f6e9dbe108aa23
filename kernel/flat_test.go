package kernel

import (
	"maps"
	"slices"
	"testing"

	"pagewright/api"
	"pagewright/areas"
	"pagewright/machine"
)

const (
	size   = api.PageSize
	fileOf = api.MaxPages * size // how many bytes a file may have
)

// flat is memory as it would be without frames, slots and disks.
type flat struct {
	files [][]byte
	procs []process
}

// process has areas, and pages for itself: all of those that are of no file, and copies.
type process struct {
	live  bool
	areas []api.Area
	own   map[int]api.Page
}

func (p process) copied() process {
	return process{p.live, slices.Clone(p.areas), maps.Clone(p.own)}
}

// flatOf is what is told of m, a right machine.
func flatOf(t *testing.T, name string, m api.Machine) flat {
	t.Helper()
	var f flat
	for file := range m.Store.Files {
		b, err := machine.Bytes(m, file)
		if err != api.OK || len(b) != m.Store.Files[file].Size {
			t.Errorf("%s: file %d is %v, errno %d", name, file, b, err)
		}
		f.files = append(f.files, append([]byte{}, b...))
	}
	for p, s := range m.Spaces {
		own := map[int]api.Page{}
		for n := range api.Span {
			k := areas.Find(s.Areas, n)
			if k < 0 {
				continue
			}
			if x, isOwn := f.viewed(t, name, m, p, n, s.Areas[k]); isOwn {
				own[n] = x
			}
		}
		f.procs = append(f.procs, process{s.Live, append([]api.Area{}, s.Areas...), own})
	}
	return f
}

// viewed is what page n of process p, in area a, has, and whether it has that for itself; if it does not, it must be the file's page, up to the file's end.
func (f *flat) viewed(t *testing.T, name string, m api.Machine, p, n int, a api.Area) (api.Page, bool) {
	t.Helper()
	x, isCopy, err := machine.View(m, p, n)
	if a.File < 0 || isCopy {
		if err != api.OK {
			t.Errorf("%s: page %d of process %d is errno %d", name, n, p, err)
		}
		return x, true
	}
	var b []byte
	if a.File < len(f.files) {
		b = f.files[a.File]
	}
	first := (a.Base + n - a.From) * size
	switch {
	case first >= len(b) && err != api.ErrEnd:
		t.Errorf("%s: page %d of process %d lies behind the end of file %d: errno %d", name, n, p, a.File, err)
	case first < len(b) && (err != api.OK || !slices.Equal(x[:min(size, len(b)-first)], b[first:min(first+size, len(b))])):
		t.Errorf("%s: page %d of process %d is %v, errno %d, and file %d is %v", name, n, p, x, err, a.File, b)
	}
	return x, false
}

func (f flat) copied() flat {
	var l flat
	for _, b := range f.files {
		l.files = append(l.files, append([]byte{}, b...))
	}
	for _, p := range f.procs {
		l.procs = append(l.procs, p.copied())
	}
	return l
}

// equal tells whether f and g are the same.
func (f flat) equal(g flat) bool {
	return slices.EqualFunc(f.files, g.files, slices.Equal) && slices.EqualFunc(f.procs, g.procs, func(p, q process) bool {
		return p.live == q.live && slices.Equal(p.areas, q.areas) && maps.Equal(p.own, q.own)
	})
}

// do is what the chapter says of c, without ErrFull: f is changed, if nothing is wrong. Of a crash it tells nothing about files.
func (f *flat) do(c api.Call) api.Answer {
	no := func(err api.Errno) api.Answer { return api.Answer{Err: err} }
	switch {
	case c.Kind < api.CallMap || c.Kind > api.StepCrash:
		return no(api.ErrKind)
	case c.Kind <= api.CallExit:
		if c.Proc < 0 || c.Proc >= len(f.procs) || !f.procs[c.Proc].live {
			return no(api.ErrNone)
		}
		return f.ofProcess(c)
	case c.Kind == api.CallCreate:
		if len(f.files) == api.MaxFiles {
			return no(api.ErrMany)
		}
		f.files = append(f.files, []byte{})
		return api.Answer{N: len(f.files) - 1}
	case c.Kind <= api.CallSync:
		if c.File < 0 || c.File >= len(f.files) {
			return no(api.ErrNone)
		}
		return f.ofFile(c)
	case c.Kind == api.StepCrash:
		f.procs = []process{{live: true, own: map[int]api.Page{}}}
	}
	return api.Answer{}
}

func (f *flat) ofProcess(c api.Call) api.Answer {
	p := &f.procs[c.Proc]
	switch c.Kind {
	case api.CallMap:
		return f.mapped(p, c)
	case api.CallUnmap:
		l, err := areas.Unmap(p.areas, c.At, c.N)
		if err != api.OK {
			return api.Answer{Err: err}
		}
		p.areas = l
		for n := c.At; n < c.At+c.N; n++ {
			delete(p.own, n)
		}
	case api.CallProtect:
		l, err := areas.Protect(p.areas, c.At, c.N, c.Read, c.Write)
		if err != api.OK {
			return api.Answer{Err: err}
		}
		p.areas = l
	case api.CallLoad:
		b, err := f.bytesOf(p, c.At, c.N, false)
		return api.Answer{Err: err, N: len(b), Data: b}
	case api.CallStore:
		return f.stored(p, c)
	case api.CallFork:
		return f.forked(*p)
	case api.CallExit:
		*p = process{own: map[int]api.Page{}}
	}
	return api.Answer{}
}

func (f *flat) mapped(p *process, c api.Call) api.Answer {
	at := c.At
	if at < 0 {
		at = areas.Room(p.areas, c.N)
	}
	if at < 0 || at >= api.Span || c.N < 1 || c.N > api.Span || at+c.N > api.Span || c.File < -1 {
		return api.Answer{Err: api.ErrRange}
	}
	if c.File >= len(f.files) {
		return api.Answer{Err: api.ErrNone}
	}
	l, err := areas.Map(p.areas, api.Area{From: at, To: at + c.N, Read: c.Read, Write: c.Write, Shared: c.Shared, File: c.File, Base: c.Base})
	if err != api.OK {
		return api.Answer{Err: err}
	}
	p.areas = l
	for n := at; n < at+c.N && c.File < 0; n++ {
		p.own[n] = api.Page{}
	}
	return api.Answer{N: at}
}

func (f *flat) forked(p process) api.Answer {
	for n := range api.MaxProcs {
		if n == len(f.procs) {
			f.procs = append(f.procs, process{})
		}
		if !f.procs[n].live {
			f.procs[n] = p.copied()
			return api.Answer{N: n}
		}
	}
	return api.Answer{Err: api.ErrMany}
}

// bytesOf is what n bytes of p from byte at on are, which may be read, or, of write, written.
func (f *flat) bytesOf(p *process, at, n int, write bool) ([]byte, api.Errno) {
	if at < 0 || n < 0 || n > size || at%size+n > size {
		return nil, api.ErrForm
	}
	k := areas.Find(p.areas, at/size)
	if k < 0 {
		return nil, api.ErrNone
	}
	a := p.areas[k]
	if write && !a.Write || !write && !a.Read {
		return nil, api.ErrMay
	}
	if own, ok := p.own[at/size]; ok {
		return own[at%size:][:n], api.OK
	}
	var b []byte
	if a.File < len(f.files) {
		b = f.files[a.File]
	}
	first := (a.Base + at/size - a.From) * size
	if first >= len(b) {
		return nil, api.ErrEnd
	}
	if write && !a.Shared {
		// Its own copy is as long as a page is, whatever the file is.
		var x api.Page
		copy(x[:], b[first:])
		return x[at%size:][:n], api.OK
	}
	if first+at%size+n > len(b) {
		return nil, api.ErrEnd
	}
	return slices.Clone(b[first+at%size:][:n]), api.OK
}

func (f *flat) stored(p *process, c api.Call) api.Answer {
	if _, err := f.bytesOf(p, c.At, len(c.Data), true); err != api.OK {
		return api.Answer{Err: err}
	}
	n := c.At / size
	a := p.areas[areas.Find(p.areas, n)]
	first := (a.Base + n - a.From) * size
	if a.Shared {
		copy(f.files[a.File][first+c.At%size:], c.Data)
		return api.Answer{N: len(c.Data)}
	}
	x, ok := p.own[n]
	if !ok {
		copy(x[:], f.files[a.File][first:])
	}
	copy(x[c.At%size:], c.Data)
	p.own[n] = x
	return api.Answer{N: len(c.Data)}
}

func (f *flat) ofFile(c api.Call) api.Answer {
	b := f.files[c.File]
	switch c.Kind {
	case api.CallRead:
		if c.At < 0 || c.N < 0 {
			return api.Answer{Err: api.ErrRange}
		}
		var got []byte
		for at := c.At; at < len(b) && len(got) < c.N; at++ {
			got = append(got, b[at])
		}
		return api.Answer{N: len(got), Data: got}
	case api.CallWrite:
		if c.At < 0 || c.At > fileOf || c.At+len(c.Data) > fileOf {
			return api.Answer{Err: api.ErrRange}
		}
		if len(c.Data) == 0 {
			return api.Answer{}
		}
		for len(b) < c.At+len(c.Data) {
			b = append(b, 0)
		}
		copy(b[c.At:], c.Data)
		f.files[c.File] = b
		return api.Answer{N: len(c.Data)}
	case api.CallTrunc:
		if c.N < 0 || c.N > fileOf {
			return api.Answer{Err: api.ErrRange}
		}
		b = b[:min(c.N, len(b))]
		f.files[c.File] = append(b, make([]byte, c.N-len(b))...)
	}
	return api.Answer{}
}
