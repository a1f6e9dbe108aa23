package fork

import (
	"fmt"
	"maps"
	"testing"

	"pagewright/api"
	"pagewright/fault"
	"pagewright/machine"
)

// rule tells numbers that look like any, one behind the other, always the same ones.
type rule int

// upTo is the next number, from 0 to below n.
func (r *rule) upTo(n int) int {
	*r = (*r*1103515245 + 12345) % (1 << 31)
	return int(*r>>8) % n
}

const pages = 24 // of a process: 0 to 7 of no file, 8 to 15 of a file for all, 16 to 23 of that file for its own

// flat is memory as it would be without frames, slots and tables: files, and of each process that is there the pages that it has for itself.
type flat struct {
	file  [8]api.Page
	procs map[int]map[int]api.Page
}

func (f *flat) page(p, n int) api.Page {
	if own, ok := f.procs[p][n]; ok || n < 8 {
		return own
	}
	return f.file[n%8]
}

func (f *flat) store(p, n, at int, b byte) {
	x := f.page(p, n)
	x[at] = b
	if n >= 8 && n < 16 {
		f.file[n%8] = x
		return
	}
	f.procs[p][n] = x
}

func (f *flat) fork(p int) int {
	for child := range api.MaxProcs {
		if _, ok := f.procs[child]; !ok {
			f.procs[child] = maps.Clone(f.procs[p])
			return child
		}
	}
	return -1
}

// begun is a machine of so many frames, with one process, and a file.
func begun(count int) api.Machine {
	m, _ := machine.New(api.Config{Frames: count, Slots: 60, Blocks: 8})
	m.Store.Files = []api.File{{Size: 64, Blocks: []int{3, -1, -1, 0, -1, -1, -1, -1}}}
	m.Disk.Blocks[3], m.Disk.Blocks[0] = api.Page{1}, api.Page{2}
	m.Spaces[0].Areas = []api.Area{
		{From: 0, To: 8, Read: true, Write: true, File: -1},
		{From: 8, To: 16, Read: true, Write: true, Shared: true, File: 0},
		{From: 16, To: 24, Read: true, Write: true, File: 0},
	}
	return m
}

// walk is a machine, and the memory that it must be like.
type walk struct {
	*testing.T
	m     api.Machine
	like  flat
	r     rule
	count map[string]int
}

func (w *walk) fork(p int) {
	next, child, err := checkFork(w.T, "a walk", w.m, p)
	w.count[fmt.Sprint("fork ", err)]++
	if err != api.OK {
		return
	}
	w.m = next
	if want := w.like.fork(p); child != want {
		w.Fatalf("the child is %d, not %d", child, want)
	}
}

func (w *walk) exit(p int) {
	next, err := checkExit(w.T, "a walk", w.m, p)
	w.count[fmt.Sprint("exit ", err)]++
	if err == api.OK {
		w.m = next
		delete(w.like.procs, p)
	}
}

func (w *walk) use(p, n int) {
	write, at, b := w.r.upTo(2) == 0, w.r.upTo(api.PageSize), byte(w.r.upTo(250))
	next, k, err := fault.Use(w.m, p, n, write)
	w.count[fmt.Sprint("use ", err)]++
	if _, ok := w.like.procs[p]; !ok || err != api.OK {
		if err != api.ErrNone {
			w.Fatalf("page %d of process %d is errno %d", n, p, err)
		}
		return
	}
	w.m = next
	if write {
		w.m.Memory.Frames[k].Page[at] = b
		w.like.store(p, n, at, b)
	}
}

// compare holds what all processes see against what they must see.
func (w *walk) compare(step int) {
	for p := range api.MaxProcs {
		_, live := w.like.procs[p]
		for n := range pages {
			want, wantErr := api.Page{}, api.ErrNone
			if live {
				want, wantErr = w.like.page(p, n), api.OK
			}
			if x, _, err := machine.View(w.m, p, n); x != want || err != wantErr {
				w.Fatalf("step %d: page %d of process %d is %v, errno %d, not %v, errno %d: %s", step, n, p, x, err, want, wantErr, show(w.m))
			}
		}
	}
}

// TestAsIfMemoryWereFlat: processes that fork, go, load and store see what they would without any of this, whether there are few frames or many.
func TestAsIfMemoryWereFlat(t *testing.T) {
	count := map[string]int{}
	for _, frames := range []int{2, 3, 8, 40} {
		w := &walk{t, begun(frames), flat{procs: map[int]map[int]api.Page{0: {}}}, rule(frames), count}
		w.like.file[0], w.like.file[3] = api.Page{1}, api.Page{2}
		for step := range 500 {
			p := w.r.upTo(api.MaxProcs)
			switch w.r.upTo(10) {
			case 0:
				w.fork(p)
			case 1:
				if len(w.like.procs) > 1 {
					w.exit(p)
				}
			default:
				w.use(p, w.r.upTo(pages))
			}
			w.compare(step)
			if t.Failed() {
				t.Fatalf("%d frames, step %d", frames, step)
			}
		}
	}
	for _, what := range []string{"fork 0", "fork 4", "fork 5", "exit 0", "exit 5", "use 0", "use 5"} {
		if count[what] < 15 {
			t.Errorf("%s: only %d times: too few to tell: %v", what, count[what], count)
		}
	}
}
