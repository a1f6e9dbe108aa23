package frames

import (
	"math"
	"slices"
	"testing"

	"pagewright/api"
)

var free = api.Frame{File: -1}

// held is a frame of no file that refs hold; page tells it from others.
func held(refs int, page byte, used bool) api.Frame {
	return api.Frame{Page: api.Page{page}, Refs: refs, Used: used, File: -1}
}

func memory(hand int, f ...api.Frame) api.Memory { return api.Memory{Frames: f, Hand: hand} }

// many is a memory of n frames, all of them f.
func many(n int, f api.Frame) api.Memory {
	var m api.Memory
	for range n {
		m.Frames = append(m.Frames, f)
	}
	return m
}

func same(a, b api.Memory) bool { return a.Hand == b.Hand && slices.Equal(a.Frames, b.Frames) }

// isNothing tells whether m is what stands beside an error.
func isNothing(m api.Memory) bool { return m.Frames == nil && m.Hand == 0 }

type wrongCase struct {
	name string
	m    api.Memory
	want api.Errno
}

// wrongFrames are frames that no memory may have, and with which errno.
func wrongFrames() []struct {
	name string
	f    api.Frame
	want api.Errno
} {
	return []struct {
		name string
		f    api.Frame
		want api.Errno
	}{
		{"Refs -1", api.Frame{Refs: -1, File: -1}, api.ErrRange},
		{"Refs 1001", held(1001, 1, false), api.ErrRange},
		{"least Refs", held(math.MinInt, 1, false), api.ErrRange},
		{"greatest Refs", held(math.MaxInt, 1, false), api.ErrRange},
		{"File -2", api.Frame{Refs: 1, File: -2}, api.ErrRange},
		{"File MaxFiles", api.Frame{Refs: 1, File: 5}, api.ErrRange},
		{"least File", api.Frame{Refs: 1, File: math.MinInt}, api.ErrRange},
		{"greatest File", api.Frame{Refs: 1, File: math.MaxInt}, api.ErrRange},
		{"Index -1", api.Frame{Refs: 1, Index: -1}, api.ErrRange},
		{"Index MaxPages", api.Frame{Refs: 1, Index: 12}, api.ErrRange},
		{"least Index", api.Frame{Refs: 1, Index: math.MinInt}, api.ErrRange},
		{"greatest Index", api.Frame{Refs: 1, Index: math.MaxInt}, api.ErrRange},
		{"no file, Index 1", api.Frame{Refs: 1, File: -1, Index: 1}, api.ErrFit},
		{"no file, Index 11", api.Frame{Refs: 1000, File: -1, Index: 11}, api.ErrFit},
		{"nobody's, of file 0", api.Frame{}, api.ErrFit},
		{"nobody's, of file 4, Index 3", api.Frame{File: 4, Index: 3}, api.ErrFit},
		{"nobody's, Index 1", api.Frame{File: -1, Index: 1}, api.ErrFit},
		{"nobody's, Used", api.Frame{File: -1, Used: true}, api.ErrFit},
		{"nobody's, Dirty", api.Frame{File: -1, Dirty: true}, api.ErrFit},
		{"nobody's, its first byte 1", api.Frame{File: -1, Page: api.Page{1}}, api.ErrFit},
		{"nobody's, its last byte 1", api.Frame{File: -1, Page: api.Page{7: 1}}, api.ErrFit},
		// What is out of range is told ahead of what does not fit.
		{"nobody's, Used, File -2", api.Frame{File: -2, Used: true}, api.ErrRange},
		{"nobody's, File 5", api.Frame{File: 5}, api.ErrRange},
		{"no file, Index 12", api.Frame{Refs: 1, File: -1, Index: 12}, api.ErrRange},
	}
}

// wrongMemories are memories that all but Own and Free refuse, and with which errno.
func wrongMemories() []wrongCase {
	fit, far := held(1, 1, true), held(1001, 1, false)
	fit.Index = 1
	l := []wrongCase{
		{"41 free frames", many(41, free), api.ErrMany},
		{"41 held frames", many(41, held(1, 1, true)), api.ErrMany},
		{"41 wrong frames, and no such hand", api.Memory{Frames: make([]api.Frame, 41), Hand: -1}, api.ErrMany},
		{"no frame, hand 1", memory(1), api.ErrRange},
		{"no frame, hand -1", memory(-1), api.ErrRange},
		{"two frames, hand 2", memory(2, free, held(1, 1, true)), api.ErrRange},
		{"two frames, hand -1", memory(-1, free, held(1, 1, true)), api.ErrRange},
		{"least hand", memory(math.MinInt, free), api.ErrRange},
		{"greatest hand", memory(math.MaxInt, held(1, 1, false)), api.ErrRange},
		// Frame by frame, and the hand behind them all.
		{"one that does not fit, ahead of one out of range", memory(0, fit, far), api.ErrFit},
		{"one out of range, ahead of one that does not fit", memory(0, far, fit), api.ErrRange},
		{"one that does not fit, and no such hand", memory(2, free, fit), api.ErrFit},
	}
	for _, c := range wrongFrames() {
		last := many(api.MaxFrames-1, free)
		last.Frames = append(last.Frames, c.f)
		l = append(l, wrongCase{c.name + ", first of two", memory(1, c.f, free), c.want}, wrongCase{c.name + ", last of 40", last, c.want})
	}
	return l
}

func rightMemories() []api.Memory {
	return []api.Memory{
		{}, memory(0, free), memory(1, free, free), many(40, free), many(40, held(1000, 9, true)),
		memory(2, held(1, 1, false), free, held(1000, 2, true)),
		memory(0, api.Frame{Refs: 1, Dirty: true, File: 4, Index: 11}, api.Frame{Refs: 2, Used: true, File: 0, Index: 0}),
		memory(1, api.Frame{Refs: 1, Dirty: true, File: -1}, api.Frame{Refs: 7, Page: api.Page{7: 1}, File: 3, Index: 1}),
		{Frames: many(40, free).Frames, Hand: 39},
	}
}

// Promise C1.

func TestNew(t *testing.T) {
	for _, n := range []int{0, 1, 2, 3, 39, 40} {
		m, err := New(n)
		if err != api.OK || !same(m, many(n, free)) {
			t.Errorf("New(%d) is %v, errno %d", n, m, err)
		}
		if err := Wrong(m); err != api.OK {
			t.Errorf("New(%d) is wrong: %d", n, err)
		}
	}
	for _, n := range []int{-1, 41, 80, math.MinInt, math.MaxInt} {
		if m, err := New(n); err != api.ErrMany || !isNothing(m) {
			t.Errorf("New(%d) is %v, errno %d", n, m, err)
		}
	}
}

func TestWrong(t *testing.T) {
	for _, m := range rightMemories() {
		if err := Wrong(m); err != api.OK {
			t.Errorf("Wrong of %v is %d", m, err)
		}
	}
	for _, c := range wrongMemories() {
		if err := Wrong(c.m); err != c.want {
			t.Errorf("%s: Wrong is %d, not %d", c.name, err, c.want)
		}
	}
}

func TestWrongOfEveryFileAndIndex(t *testing.T) {
	for file := -3; file <= 7; file++ {
		for index := -2; index <= 14; index++ {
			want := api.OK
			switch {
			case file < -1 || file > 4 || index < 0 || index > 11:
				want = api.ErrRange
			case file == -1 && index > 0:
				want = api.ErrFit
			}
			if err := Wrong(memory(0, api.Frame{Refs: 1, File: file, Index: index})); err != want {
				t.Errorf("File %d, Index %d: Wrong is %d, not %d", file, index, err, want)
			}
		}
	}
}

// TestOwn: Own asks nothing of what it copies.
func TestOwn(t *testing.T) {
	l := rightMemories()
	for _, c := range wrongMemories() {
		l = append(l, c.m)
	}
	for _, m := range l {
		if x := Own(m); !same(x, m) {
			t.Errorf("the copy of %v is %v", m, x)
		}
	}
}

func TestFree(t *testing.T) {
	for _, c := range []struct {
		m    api.Memory
		want int
	}{
		{api.Memory{}, 0}, {memory(0, free), 1}, {memory(0, held(1, 1, true)), 0},
		{memory(0, free, held(1, 1, false), free, held(1000, 1, true)), 2},
		{many(40, free), 40}, {many(40, held(1, 1, false)), 0},
		// Free answers no error: of wrong memories too it counts Refs of 0, whatever stands beside them.
		{many(41, free), 41}, {memory(-7, api.Frame{Used: true, File: 9}, held(-1, 1, true), held(1001, 1, true)), 1},
	} {
		if got := Free(c.m); got != c.want {
			t.Errorf("of %v %d are free, not %d", c.m, got, c.want)
		}
	}
}

// Promise C2.

// everyCall is each call that Wrong stands ahead of, with numbers where it takes some.
func everyCall() map[string]func(m api.Memory, a, b int) (api.Memory, int, api.Errno) {
	return map[string]func(m api.Memory, a, b int) (api.Memory, int, api.Errno){
		"Take": func(m api.Memory, a, b int) (api.Memory, int, api.Errno) { return Take(m, api.Page{77}, a, b) },
		"Hold": func(m api.Memory, a, b int) (api.Memory, int, api.Errno) {
			x, err := Hold(m, a, b)
			return x, 0, err
		},
		"Next": func(m api.Memory, a, b int) (api.Memory, int, api.Errno) { return Next(m) },
	}
}

func TestWrongMemoriesAreRefused(t *testing.T) {
	for _, c := range wrongMemories() {
		for name, call := range everyCall() {
			// The memory's error comes ahead of the numbers'.
			for _, n := range [][2]int{{0, 0}, {0, 1}, {-1, 1}, {-2, 0}, {41, 12}, {math.MinInt, math.MaxInt}} {
				if x, k, err := call(c.m, n[0], n[1]); err != c.want || k != 0 || !isNothing(x) {
					t.Errorf("%s: %s of %v answers %v, %d and errno %d, not %d", c.name, name, n, x, k, err, c.want)
				}
			}
		}
	}
}

func TestTake(t *testing.T) {
	p := api.Page{1, 2, 3, 4, 5, 6, 7, 8}
	for _, c := range []struct {
		m           api.Memory
		file, index int
		k           int
	}{
		{memory(0, free, free), -1, 0, 0},
		{memory(1, free, free), 0, 0, 0},
		{memory(1, held(1, 1, true), free, free), 4, 11, 1},
		{memory(2, held(1, 1, false), held(2, 1, true), held(3, 1, true), free), 2, 5, 3},
		{memory(0, held(1, 1, true), free, held(1, 1, true)), 0, 11, 1},
		{many(40, free), 3, 0, 0},
	} {
		want := Own(c.m)
		want.Frames[c.k] = api.Frame{Page: p, Refs: 1, Used: true, File: c.file, Index: c.index}
		x, k, err := Take(c.m, p, c.file, c.index)
		if err != api.OK || k != c.k || !same(x, want) {
			t.Errorf("Take for page %d of file %d is frame %d of %v, errno %d; not %d of %v", c.index, c.file, k, x, err, c.k, want)
		}
		if err := Wrong(x); err != api.OK {
			t.Errorf("%v, with one taken, is wrong: %d", c.m, err)
		}
	}
}

func TestTakeRefuses(t *testing.T) {
	full := many(40, held(1, 1, false))
	for _, c := range []struct {
		name        string
		m           api.Memory
		file, index int
		want        api.Errno
	}{
		{"File -2", memory(0, free), -2, 0, api.ErrRange},
		{"File 5", memory(0, free), 5, 0, api.ErrRange},
		{"Index -1", memory(0, free), 0, -1, api.ErrRange},
		{"Index 12", memory(0, free), 0, 12, api.ErrRange},
		{"no file, Index 12", memory(0, free), -1, 12, api.ErrRange},
		{"no file, Index 1", memory(0, free), -1, 1, api.ErrFit},
		{"least numbers", memory(0, free), math.MinInt, math.MinInt, api.ErrRange},
		{"greatest numbers", memory(0, free), math.MaxInt, math.MaxInt, api.ErrRange},
		{"no frame", api.Memory{}, 0, 0, api.ErrFull},
		{"no free frame", memory(1, held(1, 1, true), held(1, 2, false)), 0, 0, api.ErrFull},
		{"no free frame of 40", full, -1, 0, api.ErrFull},
		{"File 5, no free frame", full, 5, 0, api.ErrRange},
		{"no file, Index 1, no frame", api.Memory{}, -1, 1, api.ErrFit},
	} {
		if x, k, err := Take(c.m, api.Page{1}, c.file, c.index); err != c.want || k != 0 || !isNothing(x) {
			t.Errorf("%s: Take is %v, %d, errno %d; not %d", c.name, x, k, err, c.want)
		}
	}
}

func TestHold(t *testing.T) {
	one := api.Frame{Page: api.Page{5, 7: 6}, Refs: 400, Used: true, Dirty: true, File: 2, Index: 7}
	m := memory(2, held(1, 1, false), one, free)
	for _, n := range []int{0, 1, -1, 2, 599, 600, -399} {
		want := Own(m)
		want.Frames[1].Refs = 400 + n
		if x, err := Hold(m, 1, n); err != api.OK || !same(x, want) {
			t.Errorf("Hold of %d more is %v, errno %d; not %v", n, x, err, want)
		}
	}
	want := Own(m)
	want.Frames[1] = free
	x, err := Hold(m, 1, -400)
	if err != api.OK || !same(x, want) {
		t.Errorf("a frame, held as often less, is %v, errno %d; not %v", x, err, want)
	}
	if Wrong(x) != api.OK || Free(x) != 2 {
		t.Errorf("of %v %d are free; Wrong is %d", x, Free(x), Wrong(x))
	}
}

func TestHoldRefuses(t *testing.T) {
	m := memory(0, held(1, 1, false), free, held(1000, 2, true))
	for _, c := range []struct {
		k, n int
		want api.Errno
	}{
		{-1, 1, api.ErrNone}, {3, 1, api.ErrNone}, {math.MinInt, 0, api.ErrNone}, {math.MaxInt, 0, api.ErrNone},
		{1, 1, api.ErrNone}, {1, 0, api.ErrNone}, {1, -1, api.ErrNone}, {1, math.MaxInt, api.ErrNone}, {3, 1001, api.ErrNone},
		{0, 1000, api.ErrRange}, {0, -2, api.ErrRange}, {2, 1, api.ErrRange}, {2, -1001, api.ErrRange},
		{0, math.MaxInt, api.ErrRange}, {0, math.MinInt, api.ErrRange}, {2, math.MaxInt, api.ErrRange}, {2, math.MinInt, api.ErrRange},
	} {
		if x, err := Hold(m, c.k, c.n); err != c.want || !isNothing(x) {
			t.Errorf("Hold(m, %d, %d) is %v, errno %d; not %d", c.k, c.n, x, err, c.want)
		}
	}
	if x, err := Hold(api.Memory{}, 0, 1); err != api.ErrNone || !isNothing(x) {
		t.Errorf("Hold of nothing is %v, errno %d", x, err)
	}
}

func TestNext(t *testing.T) {
	idle, used := held(1, 1, false), held(1, 1, true)
	for _, c := range []struct {
		name    string
		m, want api.Memory
		k       int
	}{
		{"no frame", memory(0), memory(0), -1},
		{"all free", memory(1, free, free, free), memory(1, free, free, free), -1},
		{"all free, hand at the last one", memory(2, free, free, free), memory(2, free, free, free), -1},
		{"one idle", memory(0, idle), memory(0, idle), 0},
		{"one used", memory(0, used), memory(0, idle), 0},
		{"the hand's is idle", memory(1, idle, idle, idle), memory(2, idle, idle, idle), 1},
		{"the last one is idle", memory(2, used, used, idle), memory(0, used, used, idle), 2},
		{"used ones on the way", memory(1, idle, used, used), memory(1, idle, idle, idle), 0},
		{"used ones not on the way", memory(1, used, free, idle, used), memory(3, used, free, idle, used), 2},
		{"all used", memory(1, used, used, used), memory(2, idle, idle, idle), 1},
		{"all used, hand at the last one", memory(2, used, used, used), memory(0, idle, idle, idle), 2},
		{"one used, the others free", memory(0, free, free, used), memory(0, free, free, idle), 2},
		{"one used behind the hand", memory(2, free, used, free), memory(2, free, idle, free), 1},
		{"one idle behind the hand", memory(2, free, idle, free), memory(2, free, idle, free), 1},
	} {
		x, k, err := Next(c.m)
		if err != api.OK || k != c.k || !same(x, c.want) {
			t.Errorf("%s: Next is %d, %v, errno %d; not %d, %v", c.name, k, x, err, c.k, c.want)
		}
	}
}

func TestNextLeavesTheRest(t *testing.T) {
	f := api.Frame{Page: api.Page{1, 7: 2}, Refs: 6, Used: true, Dirty: true, File: 3, Index: 9}
	m := many(40, f)
	m.Hand = 39
	want := many(40, f)
	for i := range want.Frames {
		want.Frames[i].Used = false
	}
	if x, k, err := Next(m); err != api.OK || k != 39 || !same(x, want) {
		t.Errorf("Next of 40 used ones is %d, %v, errno %d", k, x, err)
	}
}

// TestNextByTheWords holds Next against the promise's own words, for every memory of three frames that are free, idle or used, and every hand.
func TestNextByTheWords(t *testing.T) {
	kinds := []api.Frame{free, held(1, 1, false), held(2, 2, true)}
	for i := range 81 {
		m := memory(i/27, kinds[i%3], kinds[i/3%3], kinds[i/9%3])
		want, wantK := Own(m), -1
		for wantK < 0 && Free(m) < 3 {
			at := want.Hand
			want.Hand++
			if want.Hand == 3 {
				want.Hand = 0
			}
			if want.Frames[at].Refs != 0 && !want.Frames[at].Used {
				wantK = at
			} else {
				want.Frames[at].Used = false
			}
		}
		if x, k, err := Next(m); err != api.OK || k != wantK || !same(x, want) {
			t.Errorf("Next of %v is %d, %v, errno %d; not %d, %v", m, k, x, err, wantK, want)
		}
	}
}

func TestTheHandComesBy(t *testing.T) {
	m, _ := New(5)
	for range 4 {
		m, _, _ = Take(m, api.Page{1}, -1, 0)
	}
	for round := range 3 {
		for want := range 4 {
			var k int
			if m, k, _ = Next(m); k != want {
				t.Errorf("round %d: the hand comes by frame %d, not %d", round, k, want)
			}
		}
	}
}

func TestExampleOfTheDocument(t *testing.T) {
	m, _ := New(2)
	for want := range 2 {
		x, k, err := Take(m, api.Page{9}, -1, 0)
		if k != want || err != api.OK {
			t.Errorf("frame %d is taken, errno %d; not %d", k, err, want)
		}
		m = x
	}
	if _, _, err := Take(m, api.Page{9}, -1, 0); err != api.ErrFull {
		t.Errorf("a third one of two is taken, errno %d", err)
	}
	m, _ = Hold(m, 0, -1)
	if _, k, err := Take(m, api.Page{9}, -1, 0); k != 0 || err != api.OK {
		t.Errorf("frame 0, free again, is not taken again: %d, errno %d", k, err)
	}
}

// What holds everywhere.

// roomy is m with spare room behind its frames, and that room whole.
func roomy(m api.Memory) (api.Memory, api.Memory) {
	all := Own(m)
	all.Frames = append(all.Frames, free, held(1, 88, false), held(2, 89, true))
	return api.Memory{Frames: all.Frames[:len(m.Frames)], Hand: m.Hand}, all
}

// scribble writes over all of m, its spare room too.
func scribble(m api.Memory) {
	room := m.Frames[:cap(m.Frames)]
	for i := range room {
		room[i] = api.Frame{Refs: -9, File: 99}
	}
}

func TestOnlyReadsAndAnswersNewMemory(t *testing.T) {
	calls := everyCall()
	calls["Own"] = func(m api.Memory, a, b int) (api.Memory, int, api.Errno) { return Own(m), 0, api.OK }
	calls["Free"] = func(m api.Memory, a, b int) (api.Memory, int, api.Errno) { return api.Memory{}, Free(m), api.OK }
	for name, call := range calls {
		for _, start := range append(rightMemories(), memory(1, held(1, 1, true), held(1, 2, true)), memory(0, held(1, 3, true), free)) {
			m, all := roomy(start)
			before := Own(all)
			plain, plainK, plainErr := call(start, 0, 0)
			x, k, err := call(m, 0, 0)
			if !same(x, plain) || k != plainK || err != plainErr {
				t.Errorf("%s looks at spare room: %v, %d, %d; not %v, %d, %d", name, x, k, err, plain, plainK, plainErr)
			}
			if !same(all, before) {
				t.Errorf("%s changes what it was handed, or the room behind it", name)
			}
			kept := Own(x)
			scribble(m)
			if !same(x, kept) {
				t.Errorf("%s keeps what it was handed", name)
			}
			m, all = roomy(start)
			x, _, _ = call(m, 0, 0)
			scribble(x)
			if !same(all, before) {
				t.Errorf("%s answers memory that it was handed", name)
			}
		}
	}
}

func TestNilIsEmpty(t *testing.T) {
	for name, call := range everyCall() {
		for _, hand := range []int{0, 1} {
			a, ka, errA := call(api.Memory{Hand: hand}, 0, 0)
			b, kb, errB := call(api.Memory{Frames: []api.Frame{}, Hand: hand}, 0, 0)
			if errA != errB || ka != kb || !same(a, b) {
				t.Errorf("%s tells nil from empty: %v, %d, %d; %v, %d, %d", name, a, ka, errA, b, kb, errB)
			}
		}
	}
}

// TestStaysRight goes many steps that a short rule makes, and holds the frames' counts against a list of its own.
func TestStaysRight(t *testing.T) {
	m, _ := New(7)
	var refs [7]int
	rule := 4711
	for step := range 5000 {
		rule = (rule*1103515245 + 12345) % (1 << 31)
		a, b := (rule>>8)%9-1, (rule>>12)%7-3
		var x api.Memory
		var k int
		var err api.Errno
		switch (rule >> 18) % 3 {
		case 0:
			if x, k, err = Take(m, api.Page{byte(step)}, a%5, max(b, 0)); err == api.OK {
				refs[k]++
			}
		case 1:
			if x, err = Hold(m, a, b); err == api.OK {
				refs[a] += b
			}
		default:
			x, _, err = Next(m)
		}
		if err == api.OK {
			m = x
		}
		if wrong := Wrong(m); wrong != api.OK {
			t.Fatalf("step %d: %v is wrong: %d", step, m, wrong)
		}
		for i, f := range m.Frames {
			if f.Refs != refs[i] {
				t.Fatalf("step %d: frame %d is held %d times, not %d", step, i, f.Refs, refs[i])
			}
		}
	}
}
