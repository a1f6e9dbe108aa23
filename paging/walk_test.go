package paging

import (
	"fmt"
	"slices"
	"testing"

	"pagewright/api"
	"pagewright/fault"
	"pagewright/fork"
	"pagewright/machine"
)

// rule tells numbers that look like any, one behind the other, always the same ones.
type rule int

// upTo is the next number, from 0 to below n.
func (r *rule) upTo(n int) int {
	*r = (*r*1103515245 + 12345) % (1 << 31)
	return int(*r>>8) % n
}

const (
	pages = 24 // of each process: 0 to 7 of no file, 8 to 15 of file 0 for all, 16 to 23 of file 1 for all
	size  = 61 // of each file: its last page has 5 bytes
)

// flat is memory as it would be without frames, slots and disks: files, pages that each process has for itself, and of each byte of a file what it was since it was synced.
type flat struct {
	files [2][size]byte
	since [2][size][]byte
	own   [2][8]api.Page
}

func (f *flat) page(p, n int) api.Page {
	if n < 8 {
		return f.own[p][n]
	}
	var x api.Page
	copy(x[:], f.files[n/8-1][n%8*api.PageSize:])
	return x
}

func (f *flat) store(p, n, at int, b byte) {
	if n < 8 {
		f.own[p][n][at] = b
		return
	}
	file, byteAt := n/8-1, n%8*api.PageSize+at
	f.files[file][byteAt] = b
	f.since[file][byteAt] = append(f.since[file][byteAt], b)
}

// settle has what file has now be all that it may be behind a crash.
func (f *flat) settle(file int) {
	for at, b := range f.files[file] {
		f.since[file][at] = []byte{b}
	}
}

// processes gives m, in which nobody has anything, two that have all the areas.
func processes(m api.Machine) api.Machine {
	m = machine.Own(m)
	m.Spaces[0].Areas = []api.Area{
		{From: 0, To: 8, Read: true, Write: true, File: -1},
		{From: 8, To: 16, Read: true, Write: true, Shared: true, File: 0},
		{From: 16, To: 24, Read: true, Write: true, Shared: true, File: 1},
	}
	m, _, _ = fork.Fork(m, 0)
	return m
}

// walk is a machine, and the memory that it must be like.
type walk struct {
	*testing.T
	m     api.Machine
	like  flat
	r     rule
	count map[string]int
}

func (w *walk) use() {
	p, n, write, b := w.r.upTo(2), w.r.upTo(pages), w.r.upTo(3) > 0, byte(w.r.upTo(250))
	at := w.r.upTo(5)
	next, k, err := fault.Use(w.m, p, n, write)
	w.count[fmt.Sprint("use ", err)]++
	if err != api.OK {
		return
	}
	w.m = next
	if write {
		w.m.Memory.Frames[k].Page[at] = b
		w.like.store(p, n, at, b)
	}
}

func (w *walk) evict() {
	next, ok := checkEvict(w.T, "a walk", w.m)
	w.count[fmt.Sprint("evict ", ok)]++
	w.m = next
}

func (w *walk) clean() {
	next, ok := checkClean(w.T, "a walk", w.m)
	w.count[fmt.Sprint("clean ", ok)]++
	w.m = next
}

func (w *walk) sync() {
	file := w.r.upTo(2)
	next, err := checkSync(w.T, "a walk", w.m, file)
	w.count[fmt.Sprint("sync ", err)]++
	if err == api.OK {
		w.m = next
		w.like.settle(file)
	}
}

// crash: behind it each byte of a file is one that it was since it was synced; all else is gone.
func (w *walk) crash() {
	bits := w.r.upTo(1<<30)<<30 | w.r.upTo(1<<30)
	next, err := checkCrash(w.T, "a walk", w.m, bits)
	w.count[fmt.Sprint("crash ", err)]++
	w.m = processes(next)
	w.like.own = [2][8]api.Page{}
	for file := range w.like.files {
		b, _ := machine.Bytes(w.m, file)
		for at, x := range b {
			if !slices.Contains(w.like.since[file][at], x) {
				w.Fatalf("byte %d of file %d is %d behind a crash, and was %v", at, file, x, w.like.since[file][at])
			}
			if x != w.like.files[file][at] {
				w.count["lost"]++
			}
		}
		copy(w.like.files[file][:], b)
		w.like.settle(file)
	}
}

// compare holds what all processes see, and files, against what they must be.
func (w *walk) compare(step int) {
	for p := range 2 {
		for n := range pages {
			if x, _, err := machine.View(w.m, p, n); x != w.like.page(p, n) || err != api.OK {
				w.Fatalf("step %d: page %d of process %d is %v, errno %d, not %v: %s", step, n, p, x, err, w.like.page(p, n), show(w.m))
			}
		}
	}
	for file, want := range w.like.files {
		if b, err := machine.Bytes(w.m, file); err != api.OK || !slices.Equal(b, want[:]) {
			w.Fatalf("step %d: file %d is %v, errno %d, not %v", step, file, b, err, want)
		}
	}
}

// begun is a walk of a machine of so many frames, slots and blocks, with two files of noughts.
func begun(t *testing.T, c api.Config, count map[string]int) *walk {
	m, _ := machine.New(c)
	blocks := slices.Repeat([]int{-1}, 8)
	m.Store.Files = []api.File{{Size: size, Blocks: blocks}, {Size: size, Blocks: slices.Clone(blocks)}}
	w := &walk{T: t, m: processes(m), r: rule(c.Frames), count: count}
	for file := range w.like.files {
		w.like.settle(file)
	}
	return w
}

// TestAsIfMemoryWereFlat: whatever is paged, and when, processes and files are as they would be without it; and behind a crash what is synced is there.
func TestAsIfMemoryWereFlat(t *testing.T) {
	count := map[string]int{}
	for _, c := range []api.Config{{Frames: 1, Slots: 16, Blocks: 16}, {Frames: 3, Slots: 20, Blocks: 20}, {Frames: 8, Slots: 16, Blocks: 16}, {Frames: 40, Slots: 60, Blocks: 80}, {Frames: 12, Slots: 3, Blocks: 6}} {
		w := begun(t, c, count)
		for step := range 600 {
			switch k := w.r.upTo(40); {
			case k < 5:
				w.evict()
			case k < 10:
				w.clean()
			case k < 12:
				w.sync()
			case k == 12:
				w.crash()
			default:
				w.use()
			}
			w.compare(step)
			if t.Failed() {
				t.Fatalf("%+v, step %d", c, step)
			}
		}
	}
	for _, what := range []string{"use 0", "use 10", "evict true", "evict false", "clean true", "clean false", "sync 0", "sync 10", "crash 0", "lost"} {
		if count[what] < 15 {
			t.Errorf("%s: only %d times: too few to tell: %v", what, count[what], count)
		}
	}
}
