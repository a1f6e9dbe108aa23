package kernel

import (
	"fmt"
	"math"
	"slices"
	"testing"

	"pagewright/api"
	"pagewright/frames"
	"pagewright/machine"
	"pagewright/slots"
	"pagewright/store"
	"pagewright/table"
)

func present(n int) api.Entry { return api.Entry{Kind: api.Present, N: n} }

func writable(n int) api.Entry { return api.Entry{Kind: api.Present, N: n, Write: true} }

func swapped(n int) api.Entry { return api.Entry{Kind: api.Swapped, N: n} }

// lay gives page n of process p the entry e.
func lay(m *api.Machine, p, n int, e api.Entry) {
	m.Spaces[p].Table, _ = table.Set(m.Spaces[p].Table, n, e)
}

// sample is a right machine with each kind of page: copies of one (frame 0, and 7, of a file's page) and of two (1), files' pages in frames (2, 3, 4, 6), copies in slots, of one and of two, files' pages in blocks alone, or waiting for them, with bytes behind their files' ends; pages behind the end, and of a file that is not there. Process 1 is not Live.
func sample() api.Machine {
	m, _ := machine.New(api.Config{Frames: 8, Slots: 6, Blocks: 7})
	m.Memory.Frames = []api.Frame{
		{Page: api.Page{50, 51}, Refs: 1, Used: true, File: -1},
		{Page: api.Page{52}, Refs: 2, File: -1},
		{Page: api.Page{60, 61, 62}, Refs: 3, Dirty: true, File: 0, Index: 1},
		{Page: api.Page{65}, Refs: 3, File: 0},
		{Page: api.Page{63, 0, 0, 64}, Refs: 1, Used: true, Dirty: true, File: 1},
		{File: -1},
		{Page: api.Page{31, 32}, Refs: 1, File: 3, Index: 1},
		{Page: api.Page{53}, Refs: 1, File: -1},
	}
	m.Memory.Hand = 3
	m.Slots[0], m.Slots[1] = 2, 1
	m.Swap.Blocks[0], m.Swap.Blocks[1] = api.Page{70, 71}, api.Page{91}
	m.Swap.Queue = []api.Put{{At: 1, Page: api.Page{93}}, {At: 1, Page: api.Page{72}}}
	m.Store.Files = []api.File{{Size: 20, Blocks: []int{2, -1, 0}}, {Size: 4, Blocks: []int{4}}, {}, {Size: 10, Blocks: []int{1, 3}}}
	copy(m.Disk.Blocks, []api.Page{{9, 9}, {35}, {1, 2, 3, 4, 5, 6, 7, 8}, {31, 32, 33, 34}, {21}})
	m.Disk.Queue = []api.Put{{At: 4, Page: api.Page{22}}, {At: 0, Page: api.Page{11, 12, 13, 14, 15, 16, 17, 18}}}
	m.Cache = []api.Cached{{File: 0, Index: 0, Frame: 3}, {File: 0, Index: 1, Frame: 2}, {File: 1, Index: 0, Frame: 4}, {File: 3, Index: 1, Frame: 6}}
	m.Spaces = []api.Space{
		{Live: true, Areas: []api.Area{
			{From: 1, To: 6, Read: true, Write: true, File: -1},
			{From: 6, To: 10, Read: true, Write: true, Shared: true, File: 0},
			{From: 10, To: 12, Read: true, File: 1},
			{From: 12, To: 13, Write: true, Shared: true, File: 1},
			{From: 16, To: 20, Read: true, Write: true, File: 0},
			{From: 30, To: 31, Read: true, Write: true, File: 4},
		}},
		{},
		{Live: true, Areas: []api.Area{
			{From: 1, To: 4, Read: true, Write: true, File: -1},
			{From: 10, To: 14, Read: true, Write: true, File: 0},
			{From: 16, To: 17, Read: true, Shared: true, File: 0, Base: 1},
			{From: 63, To: 64, Read: true, File: 3, Base: 1},
		}},
	}
	lay(&m, 0, 1, writable(0))
	lay(&m, 0, 2, present(1))
	lay(&m, 0, 3, swapped(0))
	lay(&m, 0, 4, swapped(1))
	lay(&m, 0, 7, writable(2))
	lay(&m, 0, 16, present(3))
	lay(&m, 0, 19, present(7))
	lay(&m, 2, 2, present(1))
	lay(&m, 2, 3, swapped(0))
	lay(&m, 2, 10, present(3))
	lay(&m, 2, 16, present(2))
	return m
}

func TestSample(t *testing.T) {
	if err := machine.Wrong(sample()); err != api.OK {
		t.Fatalf("sample is wrong: %d", err)
	}
}

var (
	ends   = []int{math.MinInt, math.MaxInt}
	procs  = []int{-1, 0, 1, 2, 3, 4, math.MinInt, math.MaxInt}
	files  = []int{-2, -1, 0, 1, 2, 3, 4, 5, math.MinInt, math.MaxInt}
	places = append([]int{-2, -1, 0, 1, 2, 5, 6, 10, 13, 20, 30, 31, 52, 61, 62, 63, 64, 65}, ends...)
	counts = append([]int{-1, 0, 1, 2, 3, 4, 12, 13, 31, 33, 63, 64, 65}, ends...)
)

// all checks each of l on m.
func all(t *testing.T, name string, m api.Machine, l []api.Call) {
	t.Helper()
	count := map[api.Errno]int{}
	for _, c := range l {
		_, a := check(t, name, m, c)
		count[a.Err]++
		if t.Failed() {
			t.FailNow()
		}
	}
	t.Logf("%s: of %d calls these are refused: %v", name, len(l), count)
}

// TestKinds: there are kinds 1 to 15.
func TestKinds(t *testing.T) {
	for _, kind := range append([]int{-1, 0, 16, 17, 99}, ends...) {
		for _, c := range []api.Call{{}, {N: 1}, {Proc: 9, File: 9}, {Data: []byte{1}}} {
			c.Kind = kind
			if got, a := check(t, "no such kind", sample(), c); a.Err != api.ErrKind || show(got) != show(sample()) {
				t.Errorf("kind %d is %+v: %s", kind, a, show(got))
			}
		}
	}
	for kind := 1; kind <= 15; kind++ {
		if _, a := check(t, "a kind", sample(), api.Call{Kind: kind}); a.Err == api.ErrKind {
			t.Errorf("kind %d is none", kind)
		}
	}
}

// TestWhoAndWhat: calls of processes and of files need these, others none.
func TestWhoAndWhat(t *testing.T) {
	for kind := 1; kind <= 15; kind++ {
		for _, p := range procs {
			for _, file := range files {
				// Of each kind these numbers are right.
				c := api.Call{Kind: kind, Proc: p, File: file, At: 8, N: 1, Read: true, Data: []byte{5}}
				switch kind {
				case api.CallMap:
					c.At = 40
				case api.CallUnmap, api.CallProtect:
					c.At = 1
				}
				_, a := check(t, "who and what", sample(), c)
				noProcess := kind <= api.CallExit && p != 0 && p != 2
				noFile := kind >= api.CallRead && kind <= api.CallSync && (file < 0 || file > 3)
				if want := noProcess || noFile; want && a.Err != api.ErrNone || !want && a.Err == api.ErrNone && kind != api.CallMap {
					t.Errorf("kind %d, process %d, file %d: errno %d", kind, p, file, a.Err)
				}
			}
		}
	}
}

// TestMap: pages, and where there is room.
func TestMap(t *testing.T) {
	var l []api.Call
	for _, at := range places {
		for _, n := range counts {
			l = append(l, api.Call{Kind: api.CallMap, At: at, N: n, File: -1, Read: true}, api.Call{Kind: api.CallMap, Proc: 2, At: at, N: n, File: 0, Write: true})
		}
	}
	for _, file := range files {
		for _, base := range append([]int{-1, 0, 1, 2, 10, 11, 12, 13}, ends...) {
			for _, n := range []int{0, 1, 2, 12, 13, 64} {
				for _, shared := range []bool{false, true} {
					c := api.Call{Kind: api.CallMap, At: 40, N: n, File: file, Base: base, Shared: shared, Read: true}
					l = append(l, c)
					c.At = -1
					l = append(l, c)
				}
			}
		}
	}
	all(t, "map", sample(), l)
}

// TestMapOrder: where several errors fit, the first one is told.
func TestMapOrder(t *testing.T) {
	for _, c := range []struct {
		call api.Call
		want api.Errno
	}{
		{api.Call{At: -1, N: 44, File: 9}, api.ErrRange},
		{api.Call{At: 40, N: 0, File: 9}, api.ErrRange},
		{api.Call{At: 40, N: 25, File: 9}, api.ErrRange},
		{api.Call{At: 40, N: 1, File: -2, Base: -1}, api.ErrRange},
		{api.Call{At: 40, N: 24, File: 4}, api.ErrNone},
		{api.Call{At: 40, N: 1, File: 4, Base: -1}, api.ErrNone},
		{api.Call{At: 1, N: 13, File: 5}, api.ErrNone},
		{api.Call{At: 1, N: 1, File: 0, Base: -1}, api.ErrRange},
		{api.Call{At: 1, N: 13, File: 0}, api.ErrFit},
		{api.Call{At: 1, N: 1, File: -1, Shared: true}, api.ErrFit},
		{api.Call{At: 1, N: 1, File: -1, Base: 1}, api.ErrFit},
		{api.Call{At: 1, N: 1, File: 0}, api.ErrName},
		{api.Call{At: 0, N: 2, File: -1}, api.ErrName},
		{api.Call{At: 40, N: 24, File: -1}, api.OK},
		{api.Call{At: 40, N: 12, File: 0, Shared: true}, api.OK},
		{api.Call{At: -1, N: 33, File: -1}, api.OK},
	} {
		c.call.Kind = api.CallMap
		got, a := check(t, "map", sample(), c.call)
		if a.Err != c.want {
			t.Errorf("%+v: errno %d, not %d", c.call, a.Err, c.want)
		}
		if a.Err == api.OK && frames.Free(got.Memory) != 1 {
			t.Errorf("%+v: frames are taken: %s", c.call, show(got))
		}
	}
}

// TestMapMany: a process has 16 areas, and no more; one that goes on with another one is none more.
func TestMapMany(t *testing.T) {
	m, _ := machine.New(api.Config{Frames: 2})
	for i := range api.MaxAreas {
		var a api.Answer
		if m, a = check(t, "map", m, api.Call{Kind: api.CallMap, At: 3 * i, N: 1, File: -1, Read: true}); a.Err != api.OK {
			t.Fatalf("area %d: errno %d", i, a.Err)
		}
	}
	if _, a := check(t, "one more", m, api.Call{Kind: api.CallMap, At: 60, N: 1, File: -1, Read: true}); a.Err != api.ErrMany {
		t.Errorf("area 17: errno %d", a.Err)
	}
	if got, a := check(t, "one goes on", m, api.Call{Kind: api.CallMap, At: -1, N: 2, File: -1, Read: true}); a.Err != api.OK || a.N != 1 || len(got.Spaces[0].Areas) != 15 {
		t.Errorf("it is %+v: %+v", a, got.Spaces[0].Areas)
	}
	wide, _ := check(t, "wide", m, api.Call{Kind: api.CallMap, At: 46, N: 2, File: -1, Read: true})
	for kind, want := range map[int]api.Errno{api.CallUnmap: api.ErrMany, api.CallProtect: api.ErrMany} {
		if _, a := check(t, "parts", wide, api.Call{Kind: kind, At: 46, N: 1}); a.Err != want {
			t.Errorf("kind %d: an area is parted: errno %d", kind, a.Err)
		}
	}
}

// TestUnmapAndProtect: wherever pages lie, and whatever they have.
func TestUnmapAndProtect(t *testing.T) {
	var l []api.Call
	for _, p := range []int{0, 2} {
		for at := range api.Span {
			for _, n := range []int{1, 2, 4} {
				l = append(l, api.Call{Kind: api.CallUnmap, Proc: p, At: at, N: n}, api.Call{Kind: api.CallProtect, Proc: p, At: at, N: n, Read: at%2 == 0, Write: at%3 == 0})
			}
		}
		for _, at := range places {
			for _, n := range counts {
				l = append(l, api.Call{Kind: api.CallUnmap, Proc: p, At: at, N: n}, api.Call{Kind: api.CallProtect, Proc: p, At: at, N: n, Write: true})
			}
		}
	}
	all(t, "unmap and protect", sample(), l)
}

// TestUnmapped: copies in pages that are in no area any more are gone: their frames and slots are free, and what is there next has nothing of them.
func TestUnmapped(t *testing.T) {
	m, a := check(t, "all", sample(), api.Call{Kind: api.CallUnmap, At: 0, N: 64})
	if a.Err != api.OK || len(m.Spaces[0].Areas) != 0 || len(table.Pages(m.Spaces[0].Table)) != 0 {
		t.Fatalf("process 0 is %+v, errno %d", m.Spaces[0], a.Err)
	}
	if frames.Free(m.Memory) != 3 || slots.Free(m.Slots) != 5 || len(m.Cache) != 4 {
		t.Errorf("what it had is not free: %s", show(m))
	}
	m, _ = check(t, "again", m, api.Call{Kind: api.CallMap, At: 0, N: 30, File: -1, Read: true})
	for n := range 30 {
		if _, a := check(t, "again", m, api.Call{Kind: api.CallLoad, At: n * size, N: size}); !slices.Equal(a.Data, make([]byte, size)) {
			t.Errorf("page %d is %+v", n, a)
		}
	}
	m, _ = check(t, "a copy of a file's page", sample(), api.Call{Kind: api.CallUnmap, At: 19, N: 1})
	m, _ = check(t, "and the file's page", m, api.Call{Kind: api.CallMap, At: 19, N: 1, File: 0, Base: 2, Read: true})
	if _, a := check(t, "and the file's page", m, api.Call{Kind: api.CallLoad, At: 19 * size, N: 4}); !slices.Equal(a.Data, []byte{11, 12, 13, 14}) {
		t.Errorf("it is %+v", a)
	}
}

// TestProtected: what may not be written is not, though it was before; and is again, when it may.
func TestProtected(t *testing.T) {
	for _, n := range []int{1, 2, 3, 4, 5, 6, 7, 8, 16, 18, 19} {
		c := api.Call{Kind: api.CallStore, At: n * size, Data: []byte{77}}
		m, a := check(t, "may be written", sample(), c)
		if a.Err != api.OK {
			t.Fatalf("page %d: errno %d", n, a.Err)
		}
		m, _ = check(t, "may not", m, api.Call{Kind: api.CallProtect, At: n, N: 1, Read: true})
		if _, a = check(t, "may not", m, c); a.Err != api.ErrMay {
			t.Errorf("page %d: errno %d", n, a.Err)
		}
		if _, a = check(t, "may be read", m, api.Call{Kind: api.CallLoad, At: n * size, N: 1}); !slices.Equal(a.Data, []byte{77}) {
			t.Errorf("page %d is %+v", n, a)
		}
		m, _ = check(t, "may again", m, api.Call{Kind: api.CallProtect, At: n, N: 1, Write: true})
		if _, a = check(t, "may again", m, c); a.Err != api.OK {
			t.Errorf("page %d: errno %d", n, a.Err)
		}
		if _, a = check(t, "may not be read", m, api.Call{Kind: api.CallLoad, At: n * size, N: 1}); a.Err != api.ErrMay {
			t.Errorf("page %d is read: errno %d", n, a.Err)
		}
	}
}

// TestLoadAndStore: bytes of all pages, within one and not.
func TestLoadAndStore(t *testing.T) {
	var l []api.Call
	data := []byte{201, 202, 203, 204, 205, 206, 207, 208, 209}
	for _, p := range []int{0, 2} {
		for n := range api.Span + 2 {
			if n > 20 && n != 30 && n < 62 {
				continue
			}
			for in := range size {
				for _, k := range []int{0, 1, size - in, size - in + 1} {
					l = append(l, api.Call{Kind: api.CallLoad, Proc: p, At: n*size + in, N: k}, api.Call{Kind: api.CallStore, Proc: p, At: n*size + in, Data: data[:k]})
				}
			}
		}
		for _, at := range append([]int{-1, -8}, ends...) {
			for _, k := range append([]int{-1, 0, 1, 8, 9}, ends...) {
				l = append(l, api.Call{Kind: api.CallLoad, Proc: p, At: at, N: k}, api.Call{Kind: api.CallLoad, Proc: p, At: 8, N: k})
				l = append(l, api.Call{Kind: api.CallStore, Proc: p, At: at, Data: data[:min(max(k, 0), 9)]})
			}
		}
	}
	all(t, "load and store", sample(), l)
}

// script plays l on a machine of c, and holds the answers, told in words, against want.
func script(t *testing.T, name string, c api.Config, l []api.Call, want ...string) api.Machine {
	t.Helper()
	m, err := machine.New(c)
	if err != api.OK || len(l) != len(want) {
		t.Fatalf("%s: errno %d, and %d calls have %d answers", name, err, len(l), len(want))
	}
	for i, c := range l {
		var a api.Answer
		m, a = check(t, fmt.Sprintf("%s, call %d", name, i), m, c)
		if got := fmt.Sprint(a.Err, a.N, a.Data); got != want[i] {
			t.Errorf("%s, call %d, %+v: %s, not %s", name, i, c, got, want[i])
		}
		checkTails(t, name, m)
	}
	return m
}

func mapping(p, at, n, file, base int, how string) api.Call {
	has := func(b byte) bool { return slices.Contains([]byte(how), b) }
	return api.Call{Kind: api.CallMap, Proc: p, At: at, N: n, File: file, Base: base, Read: has('r'), Write: has('w'), Shared: has('s')}
}

func load(p, at, n int) api.Call { return api.Call{Kind: api.CallLoad, Proc: p, At: at, N: n} }

func keep(p, at int, data ...byte) api.Call {
	return api.Call{Kind: api.CallStore, Proc: p, At: at, Data: data}
}

func read(file, at, n int) api.Call { return api.Call{Kind: api.CallRead, File: file, At: at, N: n} }

func write(file, at int, data ...byte) api.Call {
	return api.Call{Kind: api.CallWrite, File: file, At: at, Data: data}
}

func trunc(file, n int) api.Call { return api.Call{Kind: api.CallTrunc, File: file, N: n} }

func of(kind, p int) api.Call { return api.Call{Kind: kind, Proc: p} }

// TestExampleOfTheDocument: bytes that were stored are loaded, though their page was in a slot.
func TestExampleOfTheDocument(t *testing.T) {
	m := script(t, "a slot", api.Config{Frames: 1, Slots: 1}, []api.Call{
		mapping(0, 0, 2, -1, 0, "rw"), keep(0, 3, 7, 8), of(api.StepEvict, 0),
	}, "0 0 []", "0 2 []", "0 0 []")
	if frames.Free(m.Memory) != 1 || slots.Free(m.Slots) != 0 {
		t.Errorf("it is in no slot: %s", show(m))
	}
	if _, a := check(t, "a slot", m, load(0, 2, 4)); !same(a, api.Answer{N: 4, Data: []byte{0, 7, 8, 0}}) {
		t.Errorf("it is %+v", a)
	}
}

// TestEnds: behind a file's Size there is nothing, but in copies.
func TestEnds(t *testing.T) {
	script(t, "ends", api.Config{Frames: 4, Slots: 4, Blocks: 4}, []api.Call{
		of(api.CallCreate, 0), write(0, 0, 1, 2, 3, 4, 5, 6, 7, 8, 9, 10, 11),
		mapping(0, 0, 3, 0, 0, "rws"), mapping(0, 8, 3, 0, 0, "rw"),
		load(0, 8, 3), load(0, 8, 4), load(0, 10, 1), load(0, 11, 1), load(0, 11, 0), load(0, 16, 1), load(0, 16, 0),
		load(0, 72, 3), load(0, 72, 4), load(0, 75, 1), load(0, 80, 1),
		keep(0, 9, 20, 21), keep(0, 9, 30, 31, 32), keep(0, 11, 33), keep(0, 16, 34),
		read(0, 0, 99),
		keep(0, 75, 40, 41), load(0, 72, 8), keep(0, 80, 42), load(0, 72, 8), read(0, 8, 99),
	},
		"0 0 []", "0 11 []", "0 0 []", "0 8 []",
		"0 3 [9 10 11]", "9 0 []", "0 1 [11]", "9 0 []", "0 0 []", "9 0 []", "9 0 []",
		"0 3 [9 10 11]", "9 0 []", "9 0 []", "9 0 []",
		"0 2 []", "9 0 []", "9 0 []", "9 0 []",
		"0 11 [1 2 3 4 5 6 7 8 9 20 21]",
		"0 2 []", "0 8 [9 20 21 40 41 0 0 0]", "9 0 []", "0 8 [9 20 21 40 41 0 0 0]", "0 3 [9 20 21]",
	)
}

// TestForkAndExit: the child sees what the parent sees, and then each goes its own way, but where they share.
func TestForkAndExit(t *testing.T) {
	script(t, "fork", api.Config{Frames: 3, Slots: 9, Blocks: 3}, []api.Call{
		of(api.CallCreate, 0), write(0, 0, 1, 2, 3, 4),
		mapping(0, 0, 1, -1, 0, "rw"), mapping(0, 1, 1, 0, 0, "rws"), mapping(0, 2, 1, 0, 0, "rw"),
		keep(0, 0, 11), keep(0, 16, 12), of(api.CallFork, 0), of(api.CallFork, 1),
		keep(1, 0, 21), keep(2, 16, 22), keep(1, 9, 23),
		load(0, 0, 1), load(1, 0, 1), load(2, 0, 1), load(0, 16, 4), load(1, 16, 4), load(2, 16, 4), load(2, 8, 4),
		of(api.CallExit, 0), of(api.CallExit, 0), load(0, 0, 1), of(api.CallFork, 0), load(1, 16, 4), read(0, 0, 9),
		of(api.CallFork, 2), load(0, 16, 4), of(api.CallFork, 0), of(api.CallFork, 3), of(api.CallExit, 3), of(api.CallFork, 1), load(3, 0, 1),
	},
		"0 0 []", "0 4 []", "0 0 []", "0 1 []", "0 2 []", "0 1 []", "0 1 []", "0 1 []", "0 2 []",
		"0 1 []", "0 1 []", "0 1 []",
		"0 1 [11]", "0 1 [21]", "0 1 [11]", "0 4 [12 2 3 4]", "0 4 [12 2 3 4]", "0 4 [22 2 3 4]", "0 4 [1 23 3 4]",
		"0 0 []", "5 0 []", "5 0 []", "5 0 []", "0 4 [12 2 3 4]", "0 4 [1 23 3 4]",
		"0 0 []", "0 4 [22 2 3 4]", "0 3 []", "4 0 []", "0 0 []", "0 3 []", "0 1 [21]",
	)
	var l []api.Call
	for _, p := range procs {
		l = append(l, of(api.CallFork, p), of(api.CallExit, p))
	}
	all(t, "fork and exit", sample(), l)
}

// TestCreate: there are five files.
func TestCreate(t *testing.T) {
	m, _ := machine.New(api.Config{})
	for n := range 7 {
		next, a := check(t, "create", m, api.Call{Kind: api.CallCreate, Proc: 9, File: 9, At: -1, N: -1})
		want := api.Answer{N: n}
		if n >= 5 {
			want = api.Answer{Err: api.ErrMany}
		}
		if !same(a, want) {
			t.Errorf("file %d: %+v", n, a)
		}
		m = next
	}
	check(t, "of a file that was not there", sample(), of(api.CallCreate, 0))
}

// TestReadWriteTrunc: bytes of all files, at their bounds.
func TestReadWriteTrunc(t *testing.T) {
	var l []api.Call
	data := make([]byte, 100)
	for i := range data {
		data[i] = byte(100 + i)
	}
	bounds := append([]int{-1, 0, 1, 3, 4, 5, 7, 8, 9, 10, 11, 16, 19, 20, 21, 24, 80, 95, 96, 97}, ends...)
	for file := range 4 {
		for _, at := range bounds {
			for _, n := range bounds {
				l = append(l, read(file, at, n))
			}
			for _, n := range []int{0, 1, 2, 8, 9, 16, 17, 76, 95, 96, 97} {
				l = append(l, write(file, at, data[:n]...))
			}
			l = append(l, trunc(file, at))
		}
	}
	all(t, "read, write and trunc", sample(), l)
}

// TestReadTakesNoFrame: and leaves all as it was.
func TestReadTakesNoFrame(t *testing.T) {
	for file := range 4 {
		if got, a := check(t, "read", sample(), read(file, 0, 99)); show(got) != show(sample()) || a.Err != api.OK {
			t.Errorf("file %d: it is %+v and %s", file, a, show(got))
		}
	}
}

// TestWriteNothing: without Data nothing is done, wherever that would be; but it must be where bytes may be.
func TestWriteNothing(t *testing.T) {
	for file := range 4 {
		for at, want := range map[int]api.Errno{-1: api.ErrRange, 0: api.OK, 21: api.OK, 96: api.OK, 97: api.ErrRange, math.MaxInt: api.ErrRange, math.MinInt: api.ErrRange} {
			if got, a := check(t, "nothing", sample(), write(file, at)); show(got) != show(sample()) || !same(a, api.Answer{Err: want}) {
				t.Errorf("file %d, at %d: it is %+v and %s", file, at, a, show(got))
			}
		}
	}
}

// TestLonger: a file that gets longer has noughts there, whatever its frames and blocks had behind its end.
func TestLonger(t *testing.T) {
	m := sample()
	m.Memory.Frames[4].Page[6] = 99 // behind byte 4 of file 1
	for file, was := range []int{20, 4, 0, 10} {
		for _, c := range []api.Call{trunc(file, was+1), trunc(file, 24), trunc(file, 96), write(file, was+1, 5), write(file, 23, 5), write(file, 95, 5)} {
			got, a := check(t, "longer", m, c)
			if a.Err != api.OK {
				t.Fatalf("%+v: errno %d", c, a.Err)
			}
			b, _ := machine.Bytes(got, file)
			for at := was; at < len(b); at++ {
				if b[at] != 0 && (c.Kind == api.CallTrunc || at != len(b)-1) {
					t.Errorf("%+v: byte %d of file %d is %d", c, at, file, b[at])
				}
			}
			for _, bits := range []int{0, 1, 2, 3, -1} {
				left, _ := check(t, "longer, and lost", got, api.Call{Kind: api.StepCrash, N: bits})
				b, _ := machine.Bytes(left, file)
				for at := was; at < len(b); at++ {
					if b[at] != 0 && (c.Kind == api.CallTrunc || at != len(b)-1) {
						t.Errorf("%+v: byte %d of file %d is %d behind a crash of %d", c, at, file, b[at], bits)
					}
				}
			}
		}
	}
}

// TestShorter: pages behind a file's end are in no process any more, but for copies; blocks are free, and frames.
func TestShorter(t *testing.T) {
	for n := range 21 {
		m, a := check(t, "shorter", sample(), trunc(0, n))
		if a.Err != api.OK {
			t.Fatalf("%d bytes: errno %d", n, a.Err)
		}
		count := (n + size - 1) / size
		for _, c := range m.Cache {
			if c.File == 0 && c.Index >= count {
				t.Errorf("%d bytes: page %d is in frame %d", n, c.Index, c.Frame)
			}
		}
		if want := []int{4, 3, 3, 2}[count]; store.Left(m.Store) != want {
			t.Errorf("%d bytes: %d blocks are left, not %d", n, store.Left(m.Store), want)
		}
		if want := []int{3, 2, 1, 1}[count]; frames.Free(m.Memory) != want {
			t.Errorf("%d bytes: %d frames are free, not %d", n, frames.Free(m.Memory), want)
		}
		if x, isCopy, err := machine.View(m, 0, 19); x != (api.Page{53}) || !isCopy || err != api.OK {
			t.Errorf("%d bytes: the copy is %v, %t, errno %d", n, x, isCopy, err)
		}
		for i, n := range []int{6, 7, 8} {
			want := api.OK
			if i >= count {
				want = api.ErrEnd
			}
			if _, _, err := machine.View(m, 0, n); err != want {
				t.Errorf("page %d: errno %d, not %d", n, err, want)
			}
		}
		longer, _ := check(t, "longer again", m, trunc(0, 24))
		b, _ := machine.Bytes(longer, 0)
		if !slices.Equal(b[n:], make([]byte, 24-n)) {
			t.Errorf("%d bytes, and longer again: it is %v", n, b)
		}
	}
}

// TestBlocksAreUsedAgain: a block that a page had is another page's, and has nothing of the first one, though what waited were written.
func TestBlocksAreUsedAgain(t *testing.T) {
	for bits := range 8 {
		script(t, fmt.Sprint("bits ", bits), api.Config{Frames: 1, Blocks: 1}, []api.Call{
			of(api.CallCreate, 0), of(api.CallCreate, 0), write(0, 0, 1, 2, 3, 4), of(api.StepClean, 0),
			write(0, 1, 5), of(api.StepClean, 0), trunc(0, 0), trunc(1, 8), of(api.CallSync, 0),
			mapping(0, 0, 1, 1, 0, "rws"), keep(0, 4, 6), of(api.StepEvict, 0), read(1, 0, 9), trunc(1, 4),
			{Kind: api.StepCrash, N: bits}, read(0, 0, 9), read(1, 0, 9),
		},
			"0 0 []", "0 1 []", "0 4 []", "0 0 []", "0 1 []", "0 0 []", "0 0 []", "0 0 []", "0 0 []",
			"0 0 []", "0 1 []", "0 0 []", "0 8 [0 0 0 0 6 0 0 0]", "0 0 []",
			"0 0 []", "0 0 []", "0 4 [0 0 0 0]",
		)
	}
}

// TestCutOffIsGone: bytes that a file was cut off do not come back when it gets longer, though the power fails between, or after.
func TestCutOffIsGone(t *testing.T) {
	for bits := range 16 {
		crash := api.Call{Kind: api.StepCrash, N: bits}
		script(t, fmt.Sprint("bits ", bits), api.Config{Frames: 2, Blocks: 2}, []api.Call{
			of(api.CallCreate, 0), write(0, 0, 1, 2, 3, 4, 5, 6, 7, 8), of(api.CallSync, 0),
			trunc(0, 3), crash, read(0, 0, 9), trunc(0, 8), read(0, 0, 9), crash, read(0, 0, 9),
			write(0, 6, 9), of(api.CallSync, 0), trunc(0, 5), of(api.CallSync, 0), write(0, 7, 10), crash, read(0, 0, 7),
		},
			"0 0 []", "0 8 []", "0 0 []",
			"0 0 []", "0 0 []", "0 3 [1 2 3]", "0 0 []", "0 8 [1 2 3 0 0 0 0 0]", "0 0 []", "0 8 [1 2 3 0 0 0 0 0]",
			"0 1 []", "0 0 []", "0 0 []", "0 0 []", "0 1 []", "0 0 []", "0 7 [1 2 3 0 0 0 0]",
		)
	}
}

// TestSynced: what is synced is there when the power fails, whatever was written since, and wherever it is.
func TestSynced(t *testing.T) {
	for bits := range 8 {
		m := script(t, fmt.Sprint("bits ", bits), api.Config{Frames: 2, Slots: 2, Blocks: 9}, []api.Call{
			of(api.CallCreate, 0), of(api.CallCreate, 0), write(0, 0, 1, 2, 3, 4, 5, 6, 7, 8, 9, 10, 11, 12, 13, 14, 15, 16, 17, 18), write(1, 0, 21),
			mapping(0, 0, 3, 0, 0, "rws"), keep(0, 0, 31), keep(0, 8, 32), {Kind: api.CallSync, File: 0},
			keep(0, 1, 33), of(api.StepClean, 0), keep(0, 2, 34), of(api.StepEvict, 0), write(0, 17, 35, 36), of(api.StepEvict, 0),
			{Kind: api.StepCrash, N: bits}, read(0, 0, 1), read(0, 3, 14),
		},
			"0 0 []", "0 1 []", "0 18 []", "0 1 []",
			"0 0 []", "0 1 []", "0 1 []", "0 0 []",
			"0 1 []", "0 0 []", "0 1 []", "0 0 []", "0 2 []", "0 0 []",
			"0 0 []", "0 1 [31]", "0 14 [4 5 6 7 8 32 10 11 12 13 14 15 16 17]",
		)
		b, _ := machine.Bytes(m, 0)
		for at, may := range map[int][]byte{1: {2, 33}, 2: {3, 34}, 17: {18, 35}, 18: {0, 36}} {
			if !slices.Contains(may, b[at]) {
				t.Errorf("bits %d: byte %d is %d, not one of %v", bits, at, b[at], may)
			}
		}
	}
}

// TestSteps: they are those of package paging, of any machine, and answer nothing.
func TestSteps(t *testing.T) {
	none, _ := machine.New(api.Config{})
	empty, _ := machine.New(api.Config{Frames: 2, Slots: 2, Blocks: 2})
	for i, m := range []api.Machine{sample(), none, empty, {}} {
		var l []api.Call
		for _, n := range append([]int{-1, 0, 1, 2, 3}, ends...) {
			l = append(l, api.Call{Kind: api.StepEvict, N: n, Proc: 9, File: 9}, api.Call{Kind: api.StepClean, N: n}, api.Call{Kind: api.StepCrash, N: n, Proc: -1})
		}
		for _, file := range files {
			l = append(l, api.Call{Kind: api.CallSync, File: file, N: 3, At: -1})
		}
		all(t, fmt.Sprint("machine ", i), m, l)
		for _, kind := range []int{api.StepEvict, api.StepClean, api.StepCrash} {
			if _, a := check(t, "step", m, api.Call{Kind: kind, N: 7}); !same(a, api.Answer{}) {
				t.Errorf("machine %d, kind %d: it is %+v", i, kind, a)
			}
		}
	}
}

// TestFull: without room calls are refused, and change nothing, not in part either; calls that need none are not.
func TestFull(t *testing.T) {
	long := make([]byte, 24)
	for i := range long {
		long[i] = byte(i + 1)
	}
	l := []api.Call{of(api.CallCreate, 0), mapping(0, 0, 4, -1, 0, "rw"), mapping(0, 8, 3, 0, 0, "rws"), of(api.CallFork, 0)}
	ok := []string{"0 0 []", "0 0 []", "0 8 []", "0 1 []"}
	script(t, "nothing", api.Config{}, append(slices.Clone(l), load(0, 0, 1), keep(0, 0, 1), write(0, 0, 1), trunc(0, 17), read(0, 0, 3), load(0, 64, 1), of(api.CallSync, 0), trunc(0, 96), of(api.CallExit, 1)),
		append(slices.Clone(ok), "10 0 []", "10 0 []", "10 0 []", "0 0 []", "0 3 [0 0 0]", "10 0 []", "0 0 []", "0 0 []", "0 0 []")...)
	script(t, "two frames", api.Config{Frames: 2}, append(slices.Clone(l), write(0, 0, long...), read(0, 0, 9), write(0, 8, long[:16]...), read(0, 0, 99), of(api.CallSync, 0), load(0, 0, 1), load(0, 72, 1), trunc(0, 9), load(0, 0, 1), load(0, 8, 1), trunc(0, 8), load(0, 8, 1)),
		append(slices.Clone(ok), "10 0 []", "0 0 []", "0 16 []", fmt.Sprint("0 24 ", append(make([]byte, 8), long[:16]...)), "10 0 []", "10 0 []", "0 1 [1]", "0 0 []", "0 1 [0]", "10 0 []", "0 0 []", "0 1 [0]")...)
	script(t, "two blocks", api.Config{Blocks: 2}, append(slices.Clone(l), write(0, 0, long...), read(0, 0, 9), write(0, 8, long[:16]...), read(0, 0, 99), of(api.CallSync, 0), load(0, 72, 1), write(0, 0, 1)),
		append(slices.Clone(ok), "10 0 []", "0 0 []", "0 16 []", fmt.Sprint("0 24 ", append(make([]byte, 8), long[:16]...)), "0 0 []", "10 0 []", "10 0 []")...)
	script(t, "a frame and two blocks", api.Config{Frames: 1, Blocks: 2}, append(slices.Clone(l), write(0, 0, long...), read(0, 0, 99), of(api.CallSync, 0), write(0, 24, 9)),
		append(slices.Clone(ok), "0 24 []", fmt.Sprint("0 24 ", long), "10 0 []", "10 0 []")...)
	script(t, "two slots", api.Config{Frames: 1, Slots: 2}, append(slices.Clone(l), keep(0, 0, 1), keep(1, 0, 2), keep(1, 8, 3), keep(0, 8, 4), load(0, 0, 1), load(1, 0, 1), load(1, 8, 1), load(0, 8, 1), of(api.CallExit, 1), keep(0, 8, 4), load(0, 0, 1)),
		append(slices.Clone(ok), "0 1 []", "0 1 []", "0 1 []", "10 0 []", "0 1 [1]", "0 1 [2]", "0 1 [3]", "10 0 []", "0 0 []", "0 1 []", "0 1 [1]")...)
}

// TestWrongMachines: what is wrong with the machine is told ahead of all else, and there is nothing beside it.
func TestWrongMachines(t *testing.T) {
	for _, c := range []struct {
		name string
		do   func(m *api.Machine)
		want api.Errno
	}{
		{"41 frames", func(m *api.Machine) { m.Memory.Frames = make([]api.Frame, 41) }, api.ErrMany},
		{"Hand 8", func(m *api.Machine) { m.Memory.Hand = 8 }, api.ErrRange},
		{"slot -1", func(m *api.Machine) { m.Slots[0] = -1 }, api.ErrRange},
		{"a swap disk of a block more", func(m *api.Machine) { m.Swap.Blocks = append(m.Swap.Blocks, api.Page{}) }, api.ErrFit},
		{"a write to a block that no page has", func(m *api.Machine) { m.Disk.Queue[0].At = 6 }, api.ErrFit},
		{"a page more than bytes", func(m *api.Machine) { m.Store.Files[2].Blocks = []int{-1} }, api.ErrForm},
		{"five processes", func(m *api.Machine) { m.Spaces = append(m.Spaces, api.Space{}, api.Space{}) }, api.ErrMany},
		{"an entry of kind 3", func(m *api.Machine) { m.Spaces[0].Table[0][5].Kind = 3 }, api.ErrKind},
		{"an entry in no area", func(m *api.Machine) { m.Spaces[0].Table[0][0] = present(1) }, api.ErrNone},
		{"a frame held once more", func(m *api.Machine) { m.Memory.Frames[1].Refs++ }, api.ErrFit},
	} {
		for kind := -1; kind <= 16; kind++ {
			m := sample()
			c.do(&m)
			for _, call := range []api.Call{{}, {Proc: 1, File: 9}, {At: 8, N: 1, Data: []byte{1}}} {
				call.Kind = kind
				if _, a := check(t, c.name, m, call); a.Err != c.want {
					t.Errorf("%s, kind %d: errno %d, not %d", c.name, kind, a.Err, c.want)
				}
			}
		}
	}
}

// TestPlay: call by call, as Do answers, up to 80 of them.
func TestPlay(t *testing.T) {
	conf, r := api.Config{Frames: 3, Slots: 6, Blocks: 6}, rule(5)
	m, _ := machine.New(conf)
	l := []api.Call{of(api.CallCreate, 0)}
	for len(l) <= api.MaxCalls {
		got, answers, err := Play(conf, l)
		var a api.Answer
		m, a = check(t, "play", m, l[len(l)-1])
		if err != api.OK || show(got) != show(m) || len(answers) != len(l) || !same(answers[len(l)-1], a) {
			t.Fatalf("%d calls: errno %d, %+v and %s, not %+v and %s", len(l), err, answers, show(got), a, show(m))
		}
		l = append(l, r.call(m))
	}
	for n := api.MaxCalls + 1; n < api.MaxCalls+4; n++ {
		if got, answers, err := Play(conf, make([]api.Call, n)); err != api.ErrMany || !isNothing(got) || len(answers) != 0 {
			t.Errorf("%d calls: errno %d, %+v and %s", n, err, answers, show(got))
		}
	}
	if got, answers, err := Play(conf, nil); err != api.OK || len(answers) != 0 || len(got.Memory.Frames) != 3 || !got.Spaces[0].Live {
		t.Errorf("no calls: errno %d, %+v and %s", err, answers, show(got))
	}
	if _, answers, err := Play(api.Config{}, make([]api.Call, 80)); err != api.OK || len(answers) != 80 || answers[79].Err != api.ErrKind {
		t.Errorf("80 calls of no kind: errno %d, %+v", err, answers)
	}
}

// TestPlayConfig: of too few, or too many, there is no machine, whatever is called.
func TestPlayConfig(t *testing.T) {
	for _, c := range []struct {
		conf api.Config
		want api.Errno
	}{
		{api.Config{}, api.OK},
		{api.Config{Frames: 40, Slots: 60, Blocks: 80}, api.OK},
		{api.Config{Frames: 41}, api.ErrMany},
		{api.Config{Slots: 61}, api.ErrMany},
		{api.Config{Blocks: 81}, api.ErrMany},
		{api.Config{Frames: -1}, api.ErrMany},
		{api.Config{Slots: -1}, api.ErrMany},
		{api.Config{Blocks: -1}, api.ErrMany},
		{api.Config{Frames: math.MaxInt, Slots: math.MinInt}, api.ErrMany},
	} {
		for _, n := range []int{0, 1, 80} {
			got, answers, err := Play(c.conf, make([]api.Call, n))
			if err != c.want || err != api.OK && (!isNothing(got) || len(answers) != 0) || err == api.OK && len(answers) != n {
				t.Errorf("%+v, %d calls: errno %d, not %d; %+v and %s", c.conf, n, err, c.want, answers, show(got))
			}
		}
	}
}
