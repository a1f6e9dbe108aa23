package disk

import (
	"math"
	"slices"
	"testing"

	"pagewright/api"
)

// numbered is a page that no other n below 65536 has.
func numbered(n int) api.Page { return api.Page{byte(n), byte(n >> 8), 1} }

// waiting is a disk of n blocks, block i of numbered(1000 + i), for which puts wait: numbered(0), numbered(1) and so on.
func waiting(n int, puts ...int) api.Disk {
	var d api.Disk
	for i := range n {
		d.Blocks = append(d.Blocks, numbered(1000+i))
	}
	for i, at := range puts {
		d.Queue = append(d.Queue, api.Put{At: at, Page: numbered(i)})
	}
	return d
}

// full is a disk of n blocks for which as many pages wait as may, round and round.
func full(n int) api.Disk {
	puts := make([]int, api.MaxQueue)
	for i := range puts {
		puts[i] = i % n
	}
	return waiting(n, puts...)
}

func same(a, b api.Disk) bool {
	return slices.Equal(a.Blocks, b.Blocks) && slices.Equal(a.Queue, b.Queue)
}

// isNothing tells whether d is what stands beside an error.
func isNothing(d api.Disk) bool { return d.Blocks == nil && d.Queue == nil }

// wrongDisks are disks that all but Own refuse, and with which errno.
func wrongDisks() []struct {
	name string
	d    api.Disk
	want api.Errno
} {
	return []struct {
		name string
		d    api.Disk
		want api.Errno
	}{
		{"81 blocks", waiting(81), api.ErrMany},
		{"401 wait", api.Disk{Blocks: make([]api.Page, 1), Queue: make([]api.Put, 401)}, api.ErrMany},
		{"81 blocks, and one waits for none", waiting(81, 81), api.ErrMany},
		{"401 wait for no block", api.Disk{Queue: make([]api.Put, 401)}, api.ErrMany},
		{"one waits, and there is no block", waiting(0, 0), api.ErrRange},
		{"one waits for block -1", waiting(3, -1), api.ErrRange},
		{"the first one waits for block 3 of 3", waiting(3, 3, 1, 1), api.ErrRange},
		{"the last one waits for block 3 of 3", waiting(3, 0, 1, 3), api.ErrRange},
		{"one waits for the lowest number", waiting(3, math.MinInt), api.ErrRange},
		{"one waits for the highest number", waiting(3, math.MaxInt), api.ErrRange},
	}
}

func TestNew(t *testing.T) {
	for _, c := range []struct {
		n    int
		want api.Errno
	}{
		{0, api.OK}, {1, api.OK}, {3, api.OK}, {79, api.OK}, {80, api.OK},
		{-1, api.ErrMany}, {81, api.ErrMany}, {math.MinInt, api.ErrMany}, {math.MaxInt, api.ErrMany},
	} {
		d, err := New(c.n)
		if err != c.want {
			t.Errorf("New(%d) answers errno %d, not %d", c.n, err, c.want)
		}
		if err != api.OK {
			if !isNothing(d) {
				t.Errorf("New(%d) answers %v beside errno %d", c.n, d, err)
			}
			continue
		}
		if !same(d, api.Disk{Blocks: make([]api.Page, c.n)}) {
			t.Errorf("New(%d) is %v", c.n, d)
		}
		if err := Wrong(d); err != api.OK {
			t.Errorf("New(%d) is wrong: %d", c.n, err)
		}
	}
}

func TestWrong(t *testing.T) {
	for _, d := range []api.Disk{{}, waiting(0), waiting(80), waiting(3, 0, 2, 1, 2), full(1), full(80)} {
		if err := Wrong(d); err != api.OK {
			t.Errorf("Wrong of %d blocks, for which %d wait, is %d", len(d.Blocks), len(d.Queue), err)
		}
	}
	for _, c := range wrongDisks() {
		if err := Wrong(c.d); err != c.want {
			t.Errorf("%s: Wrong is %d, not %d", c.name, err, c.want)
		}
	}
}

// everyCall is each call that answers errors, with a block number where it takes one.
func everyCall() map[string]func(d api.Disk, at int) (api.Disk, api.Errno) {
	return map[string]func(d api.Disk, at int) (api.Disk, api.Errno){
		"Read": func(d api.Disk, at int) (api.Disk, api.Errno) {
			p, err := Read(d, at)
			if p != (api.Page{}) {
				return api.Disk{Blocks: []api.Page{p}}, err
			}
			return api.Disk{}, err
		},
		"Write": func(d api.Disk, at int) (api.Disk, api.Errno) { return Write(d, at, numbered(7)) },
		"Trim":  Trim,
		"Flush": func(d api.Disk, at int) (api.Disk, api.Errno) { return Flush(d) },
		"Crash": func(d api.Disk, at int) (api.Disk, api.Errno) { return Crash(d, -1) },
	}
}

func TestWrongDisksAreRefused(t *testing.T) {
	for _, c := range wrongDisks() {
		for name, call := range everyCall() {
			// The disk's error comes ahead of the number's.
			for _, at := range []int{0, -1, 81} {
				if x, err := call(c.d, at); err != c.want || !isNothing(x) {
					t.Errorf("%s: %s at %d answers %v and errno %d, not %d", c.name, name, at, x, err, c.want)
				}
			}
		}
	}
}

func TestNoBlock(t *testing.T) {
	for _, d := range []api.Disk{{}, waiting(3, 0, 2), waiting(80), full(5)} {
		for _, at := range []int{-1, len(d.Blocks), len(d.Blocks) + 1, math.MinInt, math.MaxInt} {
			for _, name := range []string{"Read", "Write", "Trim"} {
				if x, err := everyCall()[name](d, at); err != api.ErrRange || !isNothing(x) {
					t.Errorf("%s of block %d of %d answers %v and errno %d", name, at, len(d.Blocks), x, err)
				}
			}
		}
	}
}

func TestRead(t *testing.T) {
	d := waiting(5, 2, 0, 2, 4, 0)
	for at, want := range []api.Page{numbered(4), numbered(1001), numbered(2), numbered(1003), numbered(3)} {
		if got, err := Read(d, at); got != want || err != api.OK {
			t.Errorf("block %d is read as %v, errno %d; not %v", at, got, err, want)
		}
	}
}

func TestWrite(t *testing.T) {
	d := waiting(3, 1)
	want := waiting(3, 1)
	want.Queue = append(want.Queue, api.Put{At: 2, Page: numbered(50)}, api.Put{At: 1, Page: numbered(51)})
	d, _ = Write(d, 2, numbered(50))
	d, err := Write(d, 1, numbered(51))
	if err != api.OK || !same(d, want) {
		t.Errorf("%v comes, errno %d; not %v", d, err, want)
	}
	if p, _ := Read(d, 1); p != numbered(51) {
		t.Errorf("what was written last is read as %v", p)
	}
	last, err := Write(waiting(80), 79, numbered(9))
	if p, _ := Read(last, 79); err != api.OK || p != numbered(9) {
		t.Errorf("block 79 is read as %v, errno %d", p, err)
	}
}

func TestWriteToFullQueue(t *testing.T) {
	d := full(7)
	short := api.Disk{Blocks: d.Blocks, Queue: d.Queue[:api.MaxQueue-1]}
	x, err := Write(short, 3, numbered(5000))
	if err != api.OK || len(x.Queue) != api.MaxQueue || !slices.Equal(x.Blocks, d.Blocks) {
		t.Errorf("page number MaxQueue does not just wait: %d wait, errno %d", len(x.Queue), err)
	}
	x, err = Write(d, 3, numbered(5000))
	want := Own(d)
	want.Blocks[0] = numbered(0)
	want.Queue = append(want.Queue[1:], api.Put{At: 3, Page: numbered(5000)})
	if err != api.OK || !same(x, want) {
		t.Errorf("a full queue: %v comes, errno %d; not %v", x, err, want)
	}
	// The first one's block may be that of the new one.
	x, err = Write(d, 0, numbered(5001))
	if p, _ := Read(x, 0); err != api.OK || x.Blocks[0] != numbered(0) || p != numbered(5001) {
		t.Errorf("a full queue, to the first one's block: %v for good, %v read, errno %d", x.Blocks[0], p, err)
	}
}

func TestTrim(t *testing.T) {
	d := waiting(3, 1, 0, 1, 2, 1)
	for at, left := range [][]int{{0, 2, 3, 4}, {1, 3}, {0, 1, 2, 4}} {
		want := waiting(3)
		want.Blocks[at] = api.Page{}
		for _, i := range left {
			want.Queue = append(want.Queue, d.Queue[i])
		}
		x, err := Trim(d, at)
		if err != api.OK || !same(x, want) {
			t.Errorf("Trim of block %d is %v, errno %d; not %v", at, x, err, want)
		}
		if p, _ := Read(x, at); p != (api.Page{}) {
			t.Errorf("block %d, trimmed, is read as %v", at, p)
		}
		if y, _ := Crash(x, -1); y.Blocks[at] != (api.Page{}) {
			t.Errorf("block %d, trimmed, is %v behind a crash", at, y.Blocks[at])
		}
	}
}

func TestFlush(t *testing.T) {
	for _, d := range []api.Disk{{}, waiting(0), waiting(3), waiting(3, 1), waiting(3, 2, 0), waiting(5, 2, 0, 2, 4, 0), full(1), full(7), full(80)} {
		x, err := Flush(d)
		if err != api.OK || len(x.Queue) != 0 || len(x.Blocks) != len(d.Blocks) {
			t.Errorf("Flush answers %d blocks of %d, %d waiting, errno %d", len(x.Blocks), len(d.Blocks), len(x.Queue), err)
			continue
		}
		for at := range d.Blocks {
			if want, _ := Read(d, at); x.Blocks[at] != want {
				t.Errorf("block %d, flushed, is %v, not %v", at, x.Blocks[at], want)
			}
		}
		for _, bits := range []int{0, -1, 5} {
			if y, err := Crash(x, bits); err != api.OK || !same(x, y) {
				t.Errorf("flushed, something is lost: %v, not %v, errno %d", y, x, err)
			}
		}
	}
}

func TestCrash(t *testing.T) {
	d := waiting(3, 0, 1, 0, 1)
	old := func(i int) api.Page { return numbered(1000 + i) }
	for _, c := range []struct {
		bits      int
		one, next api.Page
	}{
		{0, old(0), old(1)}, {1, numbered(0), old(1)}, {2, old(0), numbered(1)}, {4, numbered(2), old(1)},
		{5, numbered(2), old(1)}, {3, numbered(0), numbered(1)}, {10, old(0), numbered(3)}, {15, numbered(2), numbered(3)},
		{16, old(0), old(1)}, {-16, old(0), old(1)}, {-1, numbered(2), numbered(3)}, {-2, numbered(2), numbered(3)},
		{math.MinInt, old(0), old(1)}, {math.MinInt + 1, numbered(0), old(1)}, {math.MaxInt, numbered(2), numbered(3)},
	} {
		x, err := Crash(d, c.bits)
		if want := (api.Disk{Blocks: []api.Page{c.one, c.next, old(2)}}); err != api.OK || !same(x, want) {
			t.Errorf("Crash of %d is %v, errno %d; not %v", c.bits, x, err, want)
		}
	}
}

// TestCrashBitByBit has a block for each number that a bit is for, and asks for each bit alone.
func TestCrashBitByBit(t *testing.T) {
	puts := make([]int, api.MaxQueue)
	for i := range puts {
		puts[i] = i % 80
	}
	d := waiting(80, puts...)
	for bit := range 64 {
		want := waiting(80)
		for number, w := range d.Queue {
			for number >= 60 {
				number -= 60
			}
			if number == bit {
				want.Blocks[w.At] = w.Page
			}
		}
		x, err := Crash(d, 1<<bit)
		if err != api.OK || !same(x, want) {
			t.Errorf("bit %d: errno %d, or other blocks than those of its numbers", bit, err)
		}
	}
}

func TestExampleOfTheDocument(t *testing.T) {
	d, _ := New(2)
	d, _ = Write(d, 1, numbered(3))
	d, err := Crash(d, 0)
	if p, _ := Read(d, 1); err != api.OK || p != (api.Page{}) {
		t.Errorf("a block that was written, and lost in a crash, is %v, errno %d", p, err)
	}
}

// roomy is d with spare room behind its lists, and that room whole.
func roomy(d api.Disk) (api.Disk, api.Disk) {
	all := Own(d)
	for i := range 3 {
		all.Blocks = append(all.Blocks, numbered(2000+i))
		all.Queue = append(all.Queue, api.Put{At: 0, Page: numbered(3000 + i)})
	}
	return api.Disk{Blocks: all.Blocks[:len(d.Blocks)], Queue: all.Queue[:len(d.Queue)]}, all
}

// scribble writes over all of d, its spare room too.
func scribble(d api.Disk) {
	for i := range d.Blocks[:cap(d.Blocks)] {
		d.Blocks[:cap(d.Blocks)][i] = numbered(9999)
	}
	for i := range d.Queue[:cap(d.Queue)] {
		d.Queue[:cap(d.Queue)][i] = api.Put{At: -5}
	}
}

func TestOnlyReadsAndAnswersNewMemory(t *testing.T) {
	calls := everyCall()
	calls["Own"] = func(d api.Disk, at int) (api.Disk, api.Errno) { return Own(d), api.OK }
	for name, call := range calls {
		for _, start := range []api.Disk{{}, waiting(1), waiting(3, 0, 1, 0), full(4)} {
			d, all := roomy(start)
			before := Own(all)
			plain, _ := call(start, 0)
			x, _ := call(d, 0)
			if !same(x, plain) {
				t.Errorf("%s looks at spare room: %v comes, not %v", name, x, plain)
			}
			if !same(all, before) {
				t.Errorf("%s changes what it was handed, or the room behind it", name)
			}
			kept := Own(x)
			scribble(d)
			if !same(x, kept) {
				t.Errorf("%s keeps what it was handed", name)
			}
			d, all = roomy(start)
			x, _ = call(d, 0)
			scribble(x)
			if !same(all, before) {
				t.Errorf("%s answers memory that it was handed", name)
			}
		}
	}
}

// TestOwnCopiesAll: Own asks nothing of what it copies.
func TestOwnCopiesAll(t *testing.T) {
	for _, c := range wrongDisks() {
		if x := Own(c.d); !same(x, c.d) {
			t.Errorf("%s: the copy is %v", c.name, x)
		}
	}
	if x := Own(full(80)); !same(x, full(80)) {
		t.Errorf("the copy of a full disk is %v", x)
	}
}

func TestNilIsEmpty(t *testing.T) {
	for name, call := range everyCall() {
		for _, at := range []int{0, -1} {
			a, errA := call(api.Disk{}, at)
			b, errB := call(api.Disk{Blocks: []api.Page{}, Queue: []api.Put{}}, at)
			if errA != errB || !same(a, b) {
				t.Errorf("%s tells nil from empty: %v, %d; %v, %d", name, a, errA, b, errB)
			}
		}
	}
}

// TestAsIfWrittenAtOnce holds a disk against one that keeps its whole history, over steps that a short rule makes.
func TestAsIfWrittenAtOnce(t *testing.T) {
	const blocks = 9
	d, _ := New(blocks)
	var seen [blocks]api.Page
	rule := 12345
	for step := range 3000 {
		rule = (rule*1103515245 + 12345) % (1 << 31)
		at := (rule >> 8) % blocks
		var err api.Errno
		switch kind := (rule >> 16) % 50; {
		case kind == 0:
			d, err = Trim(d, at)
			seen[at] = api.Page{}
		case kind == 1 && step%7 == 0:
			d, err = Flush(d)
		default:
			d, err = Write(d, at, numbered(step))
			seen[at] = numbered(step)
		}
		if err != api.OK || Wrong(d) != api.OK {
			t.Fatalf("step %d: errno %d", step, err)
		}
		for i, want := range seen {
			if got, _ := Read(d, i); got != want {
				t.Fatalf("step %d: block %d is read as %v, not %v", step, i, got, want)
			}
		}
	}
}
