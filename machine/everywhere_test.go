package machine

import (
	"fmt"
	"slices"
	"testing"

	"pagewright/api"
)

// What holds everywhere.

// scrap is l with spare room behind it, full of x.
func scrap[T any](l []T, x T) []T {
	return append(slices.Clone(l), slices.Repeat([]T{x}, 5)...)[:len(l)]
}

// roomy is m with spare room behind each of its lists, in which stands what would be wrong.
func roomy(m api.Machine) api.Machine {
	m = Own(m)
	m.Memory.Frames = scrap(m.Memory.Frames, api.Frame{Refs: -1, File: 9})
	m.Slots = scrap(m.Slots, -1)
	for _, d := range []*api.Disk{&m.Swap, &m.Disk} {
		d.Blocks = scrap(d.Blocks, api.Page{99})
		d.Queue = scrap(d.Queue, api.Put{At: -1, Page: api.Page{98}})
	}
	for i, f := range m.Store.Files {
		m.Store.Files[i].Blocks = scrap(f.Blocks, -2)
	}
	m.Store.Files = scrap(m.Store.Files, api.File{Size: -1})
	m.Cache = scrap(m.Cache, api.Cached{File: -1})
	for i, s := range m.Spaces {
		m.Spaces[i].Areas = scrap(s.Areas, api.Area{From: -1})
		for k, half := range s.Table {
			m.Spaces[i].Table[k] = scrap(half, api.Entry{Kind: 7})
		}
	}
	m.Spaces = scrap(m.Spaces, api.Space{Areas: make([]api.Area, 20)})
	return m
}

// whole is m with the spare room behind each of its lists.
func whole(m api.Machine) api.Machine {
	m.Memory.Frames = m.Memory.Frames[:cap(m.Memory.Frames)]
	m.Slots = m.Slots[:cap(m.Slots)]
	for _, d := range []*api.Disk{&m.Swap, &m.Disk} {
		d.Blocks, d.Queue = d.Blocks[:cap(d.Blocks)], d.Queue[:cap(d.Queue)]
	}
	m.Cache = m.Cache[:cap(m.Cache)]
	files := slices.Clone(m.Store.Files[:cap(m.Store.Files)])
	for i, f := range files {
		files[i].Blocks = f.Blocks[:cap(f.Blocks)]
	}
	m.Store.Files = files
	spaces := slices.Clone(m.Spaces[:cap(m.Spaces)])
	for i, s := range spaces {
		spaces[i].Areas = s.Areas[:cap(s.Areas)]
		for k, half := range s.Table {
			spaces[i].Table[k] = half[:cap(half)]
		}
	}
	m.Spaces = spaces
	return m
}

// scribble changes all of m, the spare room behind its lists too.
func scribble(m api.Machine) {
	m = whole(m)
	for _, f := range m.Store.Files {
		fill(f.Blocks, 77)
	}
	for _, s := range m.Spaces {
		fill(s.Areas, api.Area{From: 77})
		for _, half := range s.Table {
			fill(half, api.Entry{Kind: 77})
		}
	}
	fill(m.Memory.Frames, api.Frame{Refs: 77})
	fill(m.Slots, 77)
	for _, d := range []api.Disk{m.Swap, m.Disk} {
		fill(d.Blocks, api.Page{77})
		fill(d.Queue, api.Put{At: 77})
	}
	fill(m.Cache, api.Cached{File: 77})
}

func fill[T any](l []T, x T) {
	for i := range l {
		l[i] = x
	}
}

func TestOnlyReads(t *testing.T) {
	for _, plain := range allMachines() {
		m := roomy(plain)
		before := show(whole(m))
		if got, want := Wrong(m), Wrong(plain); got != want {
			t.Errorf("with spare room Wrong is %d, not %d: %s", got, want, show(plain))
		}
		if !same(Own(m), plain) {
			t.Errorf("with spare room the copy of %s is %s", show(plain), show(Own(m)))
		}
		for n := -1; n < 6; n++ {
			got, err := Bytes(m, n)
			if want, wantErr := Bytes(plain, n); !slices.Equal(got, want) || err != wantErr {
				t.Errorf("with spare room Bytes of file %d is %v, errno %d", n, got, err)
			}
			if got, want := viewed(m, n, 2), viewed(plain, n, 2); got != want {
				t.Errorf("with spare room page 2 of process %d is %v, not %v", n, got, want)
			}
		}
		if show(whole(m)) != before {
			t.Errorf("what was handed in has changed: %s", show(plain))
		}
	}
}

func TestAnswersNewMemory(t *testing.T) {
	for _, plain := range allMachines() {
		m := roomy(plain)
		own := Own(m)
		scribble(m)
		if !same(own, plain) {
			t.Errorf("the copy of %s changes with it: %s", show(plain), show(own))
		}
		m = roomy(plain)
		before := show(whole(m))
		scribble(Own(m))
		if show(whole(m)) != before {
			t.Errorf("%s changes with its copy", show(plain))
		}
	}
	for file, want := range fileBytes() {
		m := roomy(sample())
		b, _ := Bytes(m, file)
		scribble(m)
		if !slices.Equal(b, want) {
			t.Errorf("file %d changes with the machine: %v", file, b)
		}
		m = roomy(sample())
		before := show(whole(m))
		b, _ = Bytes(m, file)
		fill(b[:cap(b)], 77)
		if show(whole(m)) != before {
			t.Errorf("the machine changes with file %d", file)
		}
	}
}

// grow lays one more behind each list of m in turn, and tells whether another part of m has changed by that.
func grow(m api.Machine) bool {
	before := show(m)
	_ = append(m.Memory.Frames, api.Frame{Refs: 77})
	_ = append(m.Slots, 77)
	for _, d := range []api.Disk{m.Swap, m.Disk} {
		_, _ = append(d.Blocks, api.Page{77}), append(d.Queue, api.Put{At: 77})
	}
	_, _ = append(m.Store.Files, api.File{Size: 77}), append(m.Cache, api.Cached{File: 77})
	for _, f := range m.Store.Files {
		_ = append(f.Blocks, 77)
	}
	for _, s := range m.Spaces {
		_ = append(s.Areas, api.Area{From: 77})
		for _, half := range s.Table {
			_ = append(half, api.Entry{Kind: 77})
		}
	}
	return show(m) != before
}

// TestListsAreApart: no two lists of one answer share memory, though those that were handed in did.
func TestListsAreApart(t *testing.T) {
	blocks, puts, entries := make([]api.Page, 4), make([]api.Put, 4), make([]api.Entry, 16)
	numbers := []int{0, 1, 2, 3, 4}
	entries[0], entries[8] = present(1), swapped(2)
	shared := func() api.Machine {
		m := sample()
		m.Swap, m.Disk = api.Disk{Blocks: blocks, Queue: puts}, api.Disk{Blocks: blocks, Queue: puts}
		m.Slots = numbers
		for i := range m.Store.Files {
			m.Store.Files[i].Blocks = numbers[:2]
		}
		for i := range m.Spaces {
			m.Spaces[i].Areas = m.Spaces[0].Areas
			for k := range m.Spaces[i].Table {
				m.Spaces[i].Table[k] = entries[k : k+8]
			}
		}
		return m
	}
	own := Own(shared())
	if !same(own, shared()) || grow(own) {
		t.Errorf("lists that share memory are copied as %s", show(own))
	}
	own.Swap.Blocks[0], own.Swap.Queue[0].At = api.Page{1}, 3
	own.Slots[0], own.Store.Files[0].Blocks[1] = 9, 8
	own.Spaces[0].Areas[0].From, own.Spaces[0].Table[1][0].N = 7, 6
	left := shared()
	if own.Disk.Blocks[0] != (api.Page{}) || own.Disk.Queue[0].At != 0 || own.Store.Files[1].Blocks[1] != 1 || own.Store.Files[0].Blocks[0] != 0 ||
		own.Spaces[1].Areas[0] != left.Spaces[1].Areas[0] || own.Spaces[0].Table[0][1] != left.Spaces[0].Table[0][1] || own.Spaces[1].Table[1][0] != left.Spaces[1].Table[1][0] {
		t.Errorf("lists of the copy share memory: %s", show(own))
	}
	for _, c := range []api.Config{{}, {Frames: 3, Slots: 2, Blocks: 2}, {Frames: 40, Slots: 60, Blocks: 80}} {
		m, _ := New(c)
		other, _ := New(c)
		if grow(m) {
			t.Errorf("lists of New(%+v) share memory", c)
		}
		scribble(m)
		if again, _ := New(c); !same(again, other) {
			t.Errorf("New(%+v) is %s when another one has changed", c, show(again))
		}
	}
}

func TestNilIsEmpty(t *testing.T) {
	empty := api.Machine{
		Memory: api.Memory{Frames: []api.Frame{}},
		Slots:  api.Slots{},
		Swap:   api.Disk{Blocks: []api.Page{}, Queue: []api.Put{}},
		Disk:   api.Disk{Blocks: []api.Page{}, Queue: []api.Put{}},
		Store:  api.Store{Files: []api.File{{Blocks: []int{}}}},
		Cache:  []api.Cached{},
		Spaces: []api.Space{{Areas: []api.Area{}}, {Live: true, Areas: []api.Area{}}},
	}
	for p := range empty.Spaces {
		for k := range empty.Spaces[p].Table {
			empty.Spaces[p].Table[k] = []api.Entry{}
		}
	}
	without := api.Machine{Store: api.Store{Files: make([]api.File, 1)}, Spaces: []api.Space{{}, {Live: true}}}
	for _, m := range []api.Machine{empty, without} {
		b, err := Bytes(m, 0)
		if Wrong(m) != api.OK || !same(Own(m), empty) || err != api.OK || len(b) != 0 || viewed(m, 1, 0) != (seen{err: api.ErrNone}) {
			t.Errorf("%#v: Wrong is %d, its copy %s, its file %v, errno %d", m, Wrong(m), show(Own(m)), b, err)
		}
	}
}

// rule tells numbers that look like any, one behind the other, always the same ones.
type rule int

// upTo is the next number, from 0 to below n (0, if n is).
func (r *rule) upTo(n int) int {
	*r = (*r*1103515245 + 12345) % (1 << 31)
	if n < 1 {
		return 0
	}
	return int(*r>>8) % n
}

func (r *rule) page() api.Page {
	return api.Page{byte(r.upTo(250) + 1), byte(r.upTo(9)), 0, byte(r.upTo(9))}
}

// maker makes a right machine, and keeps what is to be seen of it.
type maker struct {
	*rule
	m      api.Machine
	copies []int // frames of copies that others may have too
	files  [][]api.Page
	views  map[[2]int]seen
}

// made is a right machine of the numbers that r tells, what its files' pages have, and what is to be seen of its processes' pages.
func made(r *rule) maker {
	k := maker{rule: r, views: map[[2]int]seen{}}
	k.m, _ = New(api.Config{Frames: r.upTo(14), Slots: r.upTo(7), Blocks: r.upTo(12)})
	k.m.Memory.Hand = r.upTo(len(k.m.Memory.Frames))
	k.makeFiles()
	k.makeCache()
	k.m.Spaces = make([]api.Space, r.upTo(5))
	for p := range k.m.Spaces {
		if r.upTo(4) > 0 {
			k.m.Spaces[p].Live = true
			k.makeAreas(p)
		}
	}
	return k
}

func (k *maker) makeFiles() {
	block := 0
	for range k.upTo(6) {
		f := api.File{Size: k.upTo(34)}
		var has []api.Page
		for i := 0; i < f.Size; i += 8 {
			b, p := -1, api.Page{}
			if block < k.m.Store.Count && k.upTo(3) > 0 {
				b, p = block, k.page()
				block++
				k.m.Disk.Blocks[b] = k.page()
				k.m.Disk.Queue = append(k.m.Disk.Queue, api.Put{At: b, Page: p})
			}
			for at := range p {
				if i+at >= f.Size {
					p[at] = 0
				}
			}
			f.Blocks, has = append(f.Blocks, b), append(has, p)
		}
		k.m.Store.Files, k.files = append(k.m.Store.Files, f), append(k.files, has)
	}
}

// free is a free frame's number; -1, if there is none.
func (k *maker) free() int {
	return slices.IndexFunc(k.m.Memory.Frames, func(f api.Frame) bool { return f.Refs == 0 })
}

func (k *maker) makeCache() {
	for file, pages := range k.files {
		for index := range pages {
			frame := k.free()
			if frame < 0 || k.upTo(2) == 0 {
				continue
			}
			p := k.page()
			k.m.Memory.Frames[frame] = api.Frame{Page: p, Refs: 1, Used: k.upTo(2) == 0, Dirty: k.upTo(2) == 0, File: file, Index: index}
			k.m.Cache = append(k.m.Cache, api.Cached{File: file, Index: index, Frame: frame})
			k.files[file][index] = p
		}
	}
}

func (k *maker) makeAreas(p int) {
	for n := k.upTo(6); n < 58; n += 1 + k.upTo(20) {
		a := api.Area{From: n, To: n + 1 + k.upTo(5), Read: k.upTo(2) == 0, Write: k.upTo(3) > 0, File: k.upTo(6) - 1}
		if a.File >= 0 {
			a.Base, a.Shared = k.upTo(5), k.upTo(2) == 0
		}
		k.m.Spaces[p].Areas = append(k.m.Spaces[p].Areas, a)
		for ; n < a.To; n++ {
			k.makePage(p, n, a)
		}
	}
}

// makePage lays page n of area a somewhere: nowhere, in the file's frame, in a frame of its own, in another one's with it, or in a slot.
func (k *maker) makePage(p, n int, a api.Area) {
	index := a.Base + n - a.From
	at := slices.IndexFunc(k.m.Cache, func(c api.Cached) bool { return c.File == a.File && c.Index == index })
	frames := k.m.Memory.Frames
	frame, slot := k.free(), k.upTo(len(k.m.Slots))
	switch way := k.upTo(5); {
	case way == 1 && at >= 0:
		c := k.m.Cache[at]
		frames[c.Frame].Refs++
		put(&k.m, p, n, api.Entry{Kind: api.Present, N: c.Frame, Write: a.Write && a.Shared && k.upTo(2) == 0})
		k.views[[2]int{p, n}] = seen{frames[c.Frame].Page, false, api.OK}
	case way == 2 && frame >= 0 && !a.Shared:
		frames[frame] = api.Frame{Page: k.page(), Refs: 1, File: -1}
		e := api.Entry{Kind: api.Present, N: frame, Write: a.Write && k.upTo(2) == 0}
		if !e.Write {
			k.copies = append(k.copies, frame)
		}
		put(&k.m, p, n, e)
		k.views[[2]int{p, n}] = seen{frames[frame].Page, true, api.OK}
	case way == 3 && len(k.copies) > 0 && !a.Shared:
		frame = k.copies[k.upTo(len(k.copies))]
		frames[frame].Refs++
		put(&k.m, p, n, present(frame))
		k.views[[2]int{p, n}] = seen{frames[frame].Page, true, api.OK}
	case way == 4 && len(k.m.Slots) > 0 && !a.Shared:
		if k.m.Slots[slot] == 0 {
			k.m.Swap.Queue = append(k.m.Swap.Queue, api.Put{At: slot, Page: k.page()})
		}
		k.m.Slots[slot]++
		put(&k.m, p, n, swapped(slot))
		waits := slices.IndexFunc(k.m.Swap.Queue, func(w api.Put) bool { return w.At == slot })
		k.views[[2]int{p, n}] = seen{k.m.Swap.Queue[waits].Page, true, api.OK}
	default:
		k.views[[2]int{p, n}] = k.nowhere(a, index)
	}
}

func (k *maker) nowhere(a api.Area, index int) seen {
	if a.File < 0 {
		return seen{}
	}
	if a.File >= len(k.files) || index >= len(k.files[a.File]) {
		return seen{err: api.ErrEnd}
	}
	return seen{page: k.files[a.File][index]}
}

// TestMadeMachines: machines that were made right are, and have what was laid in them.
func TestMadeMachines(t *testing.T) {
	r := rule(8)
	for i := range 400 {
		k := made(&r)
		if err := Wrong(k.m); err != api.OK {
			t.Fatalf("machine %d is wrong: %d: %s", i, err, show(k.m))
		}
		for file, pages := range k.files {
			var want []byte
			for _, p := range pages {
				want = append(want, p[:]...)
			}
			want = want[:k.m.Store.Files[file].Size]
			if b, err := Bytes(k.m, file); err != api.OK || !slices.Equal(b, want) {
				t.Errorf("machine %d: file %d is %v, errno %d; not %v", i, file, b, err, want)
			}
		}
		for p := range 5 {
			for n := range 65 {
				want, ok := k.views[[2]int{p, n}]
				if !ok {
					want.err = api.ErrNone
				}
				if got := viewed(k.m, p, n); got != want {
					t.Errorf("machine %d: page %d of process %d is %v, not %v", i, n, p, got, want)
				}
			}
		}
	}
}

// TestChangedMachines: machines of which a number or two were changed are as wrong as the chapter, sentence by sentence, tells.
func TestChangedMachines(t *testing.T) {
	r := rule(88)
	told := map[api.Errno]int{}
	for i := range 6000 {
		m := made(&r).m
		var changes string
		for range 1 + r.upTo(2) {
			l := numbersOf(&m)
			at, by := r.upTo(len(l)), r.upTo(5)-2
			*l[at] += by
			changes += fmt.Sprint(" ", at, " by ", by)
		}
		want := tell(m)
		told[want]++
		if err := Wrong(m); err != want {
			t.Errorf("machine %d, changed at%s, is wrong: %d, not %d: %s", i, changes, err, want, show(m))
		}
	}
	for _, err := range []api.Errno{api.OK, api.ErrKind, api.ErrForm, api.ErrRange, api.ErrNone, api.ErrFit} {
		if told[err] < 10 {
			t.Errorf("of these machines %d are wrong by errno %d: too few to tell", told[err], err)
		}
	}
}
