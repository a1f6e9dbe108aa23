package store

import (
	"math"
	"slices"
	"testing"

	"pagewright/api"
)

const allBytes = 96 // of MaxPages pages

func file(size int, blocks ...int) api.File { return api.File{Size: size, Blocks: blocks} }

func store(count int, files ...api.File) api.Store { return api.Store{Files: files, Count: count} }

// whole is a file of MaxPages pages, of blocks first, first + 1 and so on.
func whole(first int) api.File {
	f := file(allBytes)
	for i := range api.MaxPages {
		f.Blocks = append(f.Blocks, first+i)
	}
	return f
}

// bare is a file of so many pages, none of which has a block.
func bare(pages int) api.File {
	f := file(pages * api.PageSize)
	for range pages {
		f.Blocks = append(f.Blocks, -1)
	}
	return f
}

func same(a, b api.Store) bool {
	return a.Count == b.Count && slices.EqualFunc(a.Files, b.Files, func(f, g api.File) bool {
		return f.Size == g.Size && slices.Equal(f.Blocks, g.Blocks)
	})
}

// isNothing tells whether s is what stands beside an error.
func isNothing(s api.Store) bool { return s.Files == nil && s.Count == 0 }

type wrongCase struct {
	name string
	s    api.Store
	want api.Errno
}

// wrongFiles are files that no store of four blocks may have, and with which errno.
func wrongFiles() []struct {
	name string
	f    api.File
	want api.Errno
} {
	return []struct {
		name string
		f    api.File
		want api.Errno
	}{
		{"Size -1", file(-1), api.ErrRange},
		{"Size 97", file(97, slices.Repeat([]int{-1}, 13)...), api.ErrRange},
		{"least Size", file(math.MinInt), api.ErrRange},
		{"greatest Size", file(math.MaxInt), api.ErrRange},
		{"no byte, a page", file(0, -1), api.ErrForm},
		{"a byte, no page", file(1), api.ErrForm},
		{"8 bytes, two pages", file(8, -1, -1), api.ErrForm},
		{"9 bytes, a page", file(9, -1), api.ErrForm},
		{"16 bytes, three pages", file(16, -1, -1, -1), api.ErrForm},
		{"96 bytes, 11 pages", file(96, bare(11).Blocks...), api.ErrForm},
		{"96 bytes, 13 pages", file(96, bare(13).Blocks...), api.ErrForm},
		{"block -2", file(1, -2), api.ErrRange},
		{"block Count", file(1, 4), api.ErrRange},
		{"least block", file(1, math.MinInt), api.ErrRange},
		{"greatest block", file(1, math.MaxInt), api.ErrRange},
		{"block 4, behind right ones", file(17, -1, 3, 4), api.ErrRange},
		{"a block twice", file(9, 2, 2), api.ErrFit},
		{"block 0 twice, others between them", file(25, 0, 1, -1, 0), api.ErrFit},
		// The size is told ahead of the pages, and those ahead of the blocks.
		{"Size -1, a page", file(-1, -1), api.ErrRange},
		{"Size 97, no page, a block twice", file(97, 2, 2), api.ErrRange},
		{"9 bytes, block 4 alone", file(9, 4), api.ErrForm},
		{"8 bytes, a block twice", file(8, 1, 1), api.ErrForm},
		// Block by block.
		{"a block twice, then block 4", file(17, 2, 2, 4), api.ErrFit},
		{"block 4, then a block twice", file(17, 4, 2, 2), api.ErrRange},
		{"block 4 twice", file(16, 4, 4), api.ErrRange},
		{"block -2 twice", file(16, -2, -2), api.ErrRange},
	}
}

// wrongStores are stores that all but Own and Left refuse, and with which errno.
func wrongStores() []wrongCase {
	l := []wrongCase{
		{"six files", store(4, make([]api.File, 6)...), api.ErrMany},
		{"600 files", store(4, make([]api.File, 600)...), api.ErrMany},
		{"Count -1", store(-1), api.ErrMany},
		{"Count 81", store(81), api.ErrMany},
		{"least Count", store(math.MinInt), api.ErrMany},
		{"greatest Count", store(math.MaxInt, file(0)), api.ErrMany},
		{"no block, and block 0", store(0, file(1, 0)), api.ErrRange},
		{"80 blocks, and block 80", store(80, file(1, 80)), api.ErrRange},
		// How many there are is told ahead of the files.
		{"six wrong files", store(4, slices.Repeat([]api.File{file(-1)}, 6)...), api.ErrMany},
		{"Count -1, a wrong file", store(-1, file(9, 0)), api.ErrMany},
		{"Count 81, a block twice", store(81, file(9, 0, 0)), api.ErrMany},
		// A block ahead, of any file.
		{"a block in two files", store(4, file(1, 3), file(1, 3)), api.ErrFit},
		{"a block in two files, others between them", store(4, file(9, 3, 0), file(0), bare(12), file(8, 1), file(17, 2, -1, 3)), api.ErrFit},
		{"the last block of 80 twice", store(80, file(8, 79), file(8, 79)), api.ErrFit},
		// File by file.
		{"a block twice, ahead of Size -1", store(4, file(9, 0, 0), file(-1)), api.ErrFit},
		{"Size -1, ahead of a block twice", store(4, file(-1), file(9, 0, 0)), api.ErrRange},
		{"no page, ahead of block 4", store(4, file(1), file(1, 4)), api.ErrForm},
		{"block 4, ahead of no page", store(4, file(1, 4), file(1)), api.ErrRange},
		{"a block in two files, ahead of no page", store(4, file(1, 0), file(1, 0), file(1)), api.ErrFit},
	}
	for _, c := range wrongFiles() {
		l = append(l,
			wrongCase{c.name + ", first of two", store(4, c.f, file(3, -1)), c.want},
			wrongCase{c.name + ", last of five", store(4, file(0), bare(2), bare(12), file(7, -1), c.f), c.want})
	}
	return l
}

func rightStores() []api.Store {
	return []api.Store{
		{}, store(80), store(0, file(0)), store(0, make([]api.File, 5)...), store(0, bare(12), bare(12), bare(12), bare(12), bare(12)),
		store(1, file(1, 0)), store(2, file(9, -1, -1), file(1, 1)), store(3, file(16, 2, 0), file(8, 1)), store(5, file(17, 4, -1, 0), file(0), file(3, 2)),
		store(12, whole(0)), store(80, whole(68)), store(60, whole(0), whole(12), whole(24), whole(36), whole(48)), store(80, whole(0), whole(12), whole(24), whole(36), whole(68)),
	}
}

// Promise E1.

func TestNew(t *testing.T) {
	for _, n := range []int{0, 1, 4, 79, 80} {
		s, err := New(n)
		if err != api.OK || len(s.Files) != 0 || s.Count != n {
			t.Errorf("New(%d) is %v, errno %d", n, s, err)
		}
		if Wrong(s) != api.OK || Left(s) != n {
			t.Errorf("of New(%d) %d blocks are left; Wrong is %d", n, Left(s), Wrong(s))
		}
	}
	for _, n := range []int{-1, 81, 1000, math.MinInt, math.MaxInt} {
		if s, err := New(n); err != api.ErrMany || !isNothing(s) {
			t.Errorf("New(%d) is %v, errno %d", n, s, err)
		}
	}
}

func TestWrong(t *testing.T) {
	for _, s := range rightStores() {
		if err := Wrong(s); err != api.OK {
			t.Errorf("Wrong of %v is %d", s, err)
		}
	}
	for _, c := range wrongStores() {
		if err := Wrong(c.s); err != c.want {
			t.Errorf("%s: Wrong is %d, not %d", c.name, err, c.want)
		}
	}
}

func TestWrongOfEverySizeAndPages(t *testing.T) {
	for size := -9; size <= 120; size++ {
		for pages := range 16 {
			want := api.OK
			if size < 0 || size > 96 {
				want = api.ErrRange
			} else if pages*8 < size || pages*8 >= size+8 {
				want = api.ErrForm
			}
			f := bare(pages)
			f.Size = size
			if err := Wrong(store(0, f)); err != want {
				t.Errorf("%d bytes, %d pages: Wrong is %d, not %d", size, pages, err, want)
			}
		}
	}
}

// TestOwn: Own asks nothing of what it copies.
func TestOwn(t *testing.T) {
	l := rightStores()
	for _, c := range wrongStores() {
		l = append(l, c.s)
	}
	for _, s := range l {
		if x := Own(s); !same(x, s) {
			t.Errorf("the copy of %v is %v", s, x)
		}
	}
}

func TestLeft(t *testing.T) {
	for _, c := range []struct {
		s    api.Store
		want int
	}{
		{api.Store{}, 0}, {store(80), 80}, {store(1, file(1, 0)), 0}, {store(1, file(1, -1)), 1}, {store(7, bare(12), bare(3)), 7},
		{store(3, file(16, 2, 0)), 1}, {store(5, file(17, 4, -1, 0), file(0), file(3, 2)), 2},
		{store(80, whole(68)), 68}, {store(60, whole(0), whole(12), whole(24), whole(36), whole(48)), 0}, {store(12, whole(0), bare(4)), 0},
	} {
		if got := Left(c.s); got != c.want {
			t.Errorf("of %v %d blocks are left, not %d", c.s, got, c.want)
		}
	}
	// Of a wrong one nothing is promised but that the call ends.
	for _, c := range wrongStores() {
		if got := Left(c.s); got != 0 {
			t.Errorf("%s: %d blocks are left", c.name, got)
		}
	}
}

// Promise E2.

// everyCall is each call that Wrong stands ahead of, with numbers where it takes some.
func everyCall() map[string]func(s api.Store, a, b int) (api.Store, int, api.Errno) {
	return map[string]func(s api.Store, a, b int) (api.Store, int, api.Errno){
		"Create": func(s api.Store, a, b int) (api.Store, int, api.Errno) { return Create(s) },
		"Size": func(s api.Store, a, b int) (api.Store, int, api.Errno) {
			x, err := Size(s, a, b)
			return x, 0, err
		},
		"Block": Block,
	}
}

func TestWrongStoresAreRefused(t *testing.T) {
	for _, c := range wrongStores() {
		for name, call := range everyCall() {
			// The store's error comes ahead of the numbers'.
			for _, n := range [][2]int{{0, 0}, {0, 1}, {1, 0}, {-1, 1}, {6, -1}, {0, 97}, {math.MinInt, math.MaxInt}} {
				if x, k, err := call(c.s, n[0], n[1]); err != c.want || k != 0 || !isNothing(x) {
					t.Errorf("%s: %s of %v answers %v, %d and errno %d, not %d", c.name, name, n, x, k, err, c.want)
				}
			}
		}
	}
}

func TestCreate(t *testing.T) {
	for _, s := range rightStores() {
		x, k, err := Create(s)
		if len(s.Files) == 5 {
			if err != api.ErrMany || k != 0 || !isNothing(x) {
				t.Errorf("Create beside five files is %v, %d, errno %d", x, k, err)
			}
			continue
		}
		want := Own(s)
		want.Files = append(want.Files, file(0))
		if err != api.OK || k != len(s.Files) || !same(x, want) {
			t.Errorf("Create beside %v is %v, file %d, errno %d", s, x, k, err)
		}
		if Wrong(x) != api.OK || Left(x) != Left(s) {
			t.Errorf("of %v %d blocks are left; Wrong is %d", x, Left(x), Wrong(x))
		}
	}
}

func TestSize(t *testing.T) {
	for _, c := range []struct {
		f    api.File
		n    int
		want api.File
	}{
		{file(0), 0, file(0)},
		{file(0), 1, file(1, -1)},
		{file(0), 8, file(8, -1)},
		{file(0), 9, file(9, -1, -1)},
		{file(0), 96, bare(12)},
		{file(1, 3), 8, file(8, 3)},
		{file(8, 3), 1, file(1, 3)},
		{file(8, 3), 9, file(9, 3, -1)},
		{file(17, 4, -1, 0), 17, file(17, 4, -1, 0)},
		{file(17, 4, -1, 0), 24, file(24, 4, -1, 0)},
		{file(17, 4, -1, 0), 25, file(25, 4, -1, 0, -1)},
		{file(17, 4, -1, 0), 16, file(16, 4, -1)},
		{file(17, 4, -1, 0), 8, file(8, 4)},
		{file(17, 4, -1, 0), 0, file(0)},
		{file(90, 0, 1, 2, 3, 4, -1, -1, -1, -1, -1, -1, 5), 95, file(95, 0, 1, 2, 3, 4, -1, -1, -1, -1, -1, -1, 5)},
		{bare(12), 0, file(0)},
	} {
		others := []api.File{file(9, -1, 6), file(0), file(3, 7)}
		for at := range 4 {
			s, want := store(8, slices.Insert(slices.Clone(others), at, c.f)...), store(8, slices.Insert(slices.Clone(others), at, c.want)...)
			x, err := Size(s, at, c.n)
			if err != api.OK || !same(x, want) {
				t.Errorf("Size(%v, %d, %d) is %v, errno %d; not %v", s, at, c.n, x, err, want)
			}
			if err := Wrong(x); err != api.OK {
				t.Errorf("%v is wrong: %d", x, err)
			}
		}
	}
}

// TestSizeDown: a block whose page is gone is left, and the page, when it is there again, has none.
func TestSizeDown(t *testing.T) {
	s := store(3, file(24, 2, 0, 1))
	s, _ = Size(s, 0, 9)
	if got := Left(s); got != 1 {
		t.Errorf("of %v %d blocks are left", s, got)
	}
	s, _ = Size(s, 0, 24)
	if want := store(3, file(24, 2, 0, -1)); !same(s, want) {
		t.Errorf("cut, and long again, it is %v, not %v", s, want)
	}
}

func TestSizeRefuses(t *testing.T) {
	s := store(4, file(9, -1, 2), file(0))
	for _, c := range []struct {
		file, n int
		want    api.Errno
	}{
		{-1, 1, api.ErrNone}, {2, 1, api.ErrNone}, {5, 0, api.ErrNone}, {math.MinInt, 1, api.ErrNone}, {math.MaxInt, 1, api.ErrNone},
		{0, -1, api.ErrRange}, {0, 97, api.ErrRange}, {1, -1, api.ErrRange}, {1, 97, api.ErrRange}, {0, math.MinInt, api.ErrRange}, {0, math.MaxInt, api.ErrRange},
		// That there is none comes ahead of the number.
		{-1, -1, api.ErrNone}, {2, 97, api.ErrNone}, {math.MaxInt, math.MinInt, api.ErrNone},
	} {
		if x, err := Size(s, c.file, c.n); err != c.want || !isNothing(x) {
			t.Errorf("Size(%v, %d, %d) is %v, errno %d; not %d", s, c.file, c.n, x, err, c.want)
		}
	}
	if x, err := Size(api.Store{}, 0, 0); err != api.ErrNone || !isNothing(x) {
		t.Errorf("Size without files is %v, errno %d", x, err)
	}
}

func TestBlock(t *testing.T) {
	for _, c := range []struct {
		s           api.Store
		file, index int
		block       int
	}{
		{store(1, file(1, -1)), 0, 0, 0},
		{store(2, file(9, -1, -1)), 0, 1, 0},
		{store(4, file(9, 0, -1)), 0, 1, 1},
		{store(4, file(9, 1, -1)), 0, 1, 0},
		{store(4, file(9, 0, -1), file(17, 2, -1, 1)), 0, 1, 3},
		{store(4, file(9, 0, -1), file(17, 2, -1, 1)), 1, 1, 3},
		{store(9, file(9, 8, -1), file(17, 0, 3, 1), file(0), file(8, 2)), 0, 1, 4},
		{store(80, whole(0), whole(12), whole(24), whole(36), bare(12)), 4, 11, 48},
		{store(49, whole(0), whole(12), whole(24), whole(36), bare(12)), 4, 0, 48},
		// A page that has a block keeps it, whatever is left.
		{store(4, file(9, 3, -1)), 0, 0, 3},
		{store(1, file(1, 0)), 0, 0, 0},
		{store(2, file(9, 1, 0), file(1, -1)), 0, 1, 0},
		{store(12, whole(0), bare(1)), 0, 11, 11},
	} {
		want := Own(c.s)
		want.Files[c.file].Blocks[c.index] = c.block
		x, b, err := Block(c.s, c.file, c.index)
		if err != api.OK || b != c.block || !same(x, want) {
			t.Errorf("Block(%v, %d, %d) is %v, block %d, errno %d; not %v, block %d", c.s, c.file, c.index, x, b, err, want, c.block)
		}
		if err := Wrong(x); err != api.OK {
			t.Errorf("%v is wrong: %d", x, err)
		}
		if again, b, err := Block(x, c.file, c.index); err != api.OK || b != c.block || !same(again, x) {
			t.Errorf("Block, asked for again, is %v, block %d, errno %d", again, b, err)
		}
	}
}

func TestBlockRefuses(t *testing.T) {
	some := store(3, file(9, -1, 2), file(0), file(1, -1))
	full := store(2, file(9, -1, 1), file(8, 0))
	for _, c := range []struct {
		s           api.Store
		file, index int
		want        api.Errno
	}{
		{some, -1, 0, api.ErrNone}, {some, 3, 0, api.ErrNone}, {some, 5, 0, api.ErrNone}, {some, math.MinInt, 0, api.ErrNone}, {some, math.MaxInt, 0, api.ErrNone},
		{api.Store{}, 0, 0, api.ErrNone},
		{some, 0, -1, api.ErrEnd}, {some, 0, 2, api.ErrEnd}, {some, 1, 0, api.ErrEnd}, {some, 2, 1, api.ErrEnd}, {some, 0, math.MinInt, api.ErrEnd}, {some, 0, math.MaxInt, api.ErrEnd},
		{store(4, bare(12)), 0, 12, api.ErrEnd},
		{full, 0, 0, api.ErrFull}, {store(0, file(1, -1)), 0, 0, api.ErrFull}, {store(12, whole(0), bare(12)), 1, 11, api.ErrFull},
		// That there is none comes ahead of the page, and that ahead of there being no room.
		{some, 3, -1, api.ErrNone}, {some, -1, 99, api.ErrNone}, {full, 2, 0, api.ErrNone}, {full, 0, 2, api.ErrEnd}, {full, 1, -1, api.ErrEnd},
	} {
		if x, b, err := Block(c.s, c.file, c.index); err != c.want || b != 0 || !isNothing(x) {
			t.Errorf("Block(%v, %d, %d) is %v, block %d, errno %d; not %d", c.s, c.file, c.index, x, b, err, c.want)
		}
	}
}

func TestExampleOfTheDocument(t *testing.T) {
	s, _ := New(4)
	s, k, _ := Create(s)
	s, err := Size(s, k, 9)
	if err != api.OK || len(s.Files[k].Blocks) != 2 {
		t.Errorf("a file of 9 bytes is %v, errno %d", s.Files[k], err)
	}
	s, b, err := Block(s, k, 1)
	if err != api.OK || b != 0 || !same(s, store(4, file(9, -1, 0))) {
		t.Errorf("its second page gets block %d, errno %d: %v", b, err, s)
	}
}

// What holds everywhere.

// roomy is s with spare room behind its files and their blocks, and that room whole.
func roomy(s api.Store) (api.Store, api.Store) {
	all, cut := Own(s), Own(s)
	for i, f := range all.Files {
		all.Files[i].Blocks = append(f.Blocks, 0, 7, -1)
	}
	all.Files = append(all.Files, file(8, 1), file(-1, 2))
	cut.Files = slices.Clone(all.Files)
	for i, f := range s.Files {
		cut.Files[i].Blocks = cut.Files[i].Blocks[:len(f.Blocks)]
	}
	cut.Files = cut.Files[:len(s.Files)]
	return cut, all
}

// scribble writes over all of s, its spare room too.
func scribble(s api.Store) {
	files := s.Files[:cap(s.Files)]
	for i := range files {
		blocks := files[i].Blocks[:cap(files[i].Blocks)]
		for j := range blocks {
			blocks[j] = -9
		}
		files[i] = file(-9, -9)
	}
}

func TestOnlyReadsAndAnswersNewMemory(t *testing.T) {
	calls := everyCall()
	calls["Own"] = func(s api.Store, a, b int) (api.Store, int, api.Errno) { return Own(s), 0, api.OK }
	calls["Wrong"] = func(s api.Store, a, b int) (api.Store, int, api.Errno) { return api.Store{}, 0, Wrong(s) }
	calls["Left"] = func(s api.Store, a, b int) (api.Store, int, api.Errno) { return api.Store{}, Left(s), api.OK }
	for name, call := range calls {
		for _, start := range rightStores() {
			for _, n := range [][2]int{{0, 0}, {0, 1}, {0, 17}, {1, 0}, {1, 96}} {
				s, all := roomy(start)
				files, before := slices.Clone(s.Files[:cap(s.Files)]), Own(all)
				plain, plainK, plainErr := call(start, n[0], n[1])
				x, k, err := call(s, n[0], n[1])
				if !same(x, plain) || k != plainK || err != plainErr {
					t.Errorf("%s looks at spare room: %v, %d, %d; not %v, %d, %d", name, x, k, err, plain, plainK, plainErr)
				}
				if !same(all, before) || !same(store(0, s.Files[:cap(s.Files)]...), store(0, files...)) {
					t.Errorf("%s changes what it was handed, or the room behind it", name)
				}
				kept := Own(x)
				scribble(s)
				if !same(x, kept) {
					t.Errorf("%s keeps what it was handed", name)
				}
				s, all = roomy(start)
				x, _, _ = call(s, n[0], n[1])
				scribble(x)
				if !same(all, before) || !same(s, start) {
					t.Errorf("%s answers memory that it was handed", name)
				}
			}
		}
	}
}

// TestListsAreApart: though two files were handed in with one list of blocks, what is answered has one for each.
func TestListsAreApart(t *testing.T) {
	blocks := []int{-1, -1}
	s := store(3, file(9, blocks...), file(9, blocks...))
	s.Files[1].Blocks = s.Files[0].Blocks
	if x, b, err := Block(s, 0, 1); err != api.OK || b != 0 || !same(x, store(3, file(9, -1, 0), file(9, -1, -1))) {
		t.Errorf("Block is %v, block %d, errno %d", x, b, err)
	}
	x := Own(s)
	x.Files[0].Blocks[0] = 2
	if x.Files[1].Blocks[0] != -1 {
		t.Errorf("the copy's files have one list of blocks")
	}
}

func TestNilIsEmpty(t *testing.T) {
	none, empty := store(3, api.File{}), store(3, api.File{Blocks: []int{}})
	if Wrong(none) != api.OK || Wrong(empty) != api.OK || Left(none) != 3 || Left(empty) != 3 {
		t.Errorf("Wrong or Left tells nil from empty")
	}
	for name, call := range everyCall() {
		for n := -1; n <= 1; n++ {
			for _, pair := range [][2]api.Store{{none, empty}, {{Count: 2}, {Files: []api.File{}, Count: 2}}} {
				a, ka, errA := call(pair[0], 0, n)
				b, kb, errB := call(pair[1], 0, n)
				if errA != errB || ka != kb || !same(a, b) {
					t.Errorf("%s tells nil from empty: %v, %d, %d; %v, %d, %d", name, a, ka, errA, b, kb, errB)
				}
			}
		}
	}
}

// TestStaysRight goes many steps that a short rule makes, and holds the files against lists of its own: each block has the file and the page that it is of.
func TestStaysRight(t *testing.T) {
	const count = 9
	s, _ := New(count)
	var sizes []int
	of := map[[2]int]int{} // file and page: block
	first := func() int {
		for b := range count {
			taken := false
			for _, has := range of {
				taken = taken || has == b
			}
			if !taken {
				return b
			}
		}
		return -1
	}
	rule := 4711
	for step := range 5000 {
		rule = (rule*1103515245 + 12345) % (1 << 31)
		a, b := (rule>>8)%8-1, (rule>>12)%110-5
		there := a >= 0 && a < len(sizes)
		switch (rule >> 20) % 7 {
		case 0:
			if x, k, err := Create(s); err == api.OK && k == len(sizes) {
				s, sizes = x, append(sizes, 0)
			} else if err != api.ErrMany || len(sizes) != 5 {
				t.Fatalf("step %d: Create is file %d, errno %d", step, k, err)
			}
		case 1, 2:
			x, err := Size(s, a, b)
			if (err == api.OK) != (there && b >= 0 && b <= 96) {
				t.Fatalf("step %d: Size(%v, %d, %d) is errno %d", step, s, a, b, err)
			}
			if err == api.OK {
				s, sizes[a] = x, b
				for p := range 12 {
					if p*8 >= b {
						delete(of, [2]int{a, p})
					}
				}
			}
		default:
			index := b%14 - 1
			x, k, err := Block(s, a, index)
			want, has := of[[2]int{a, index}]
			if !has {
				want = first()
			}
			if (err == api.OK) != (there && index >= 0 && index*8 < sizes[a] && want >= 0) || err == api.OK && k != want {
				t.Fatalf("step %d: Block(%v, %d, %d) is block %d, errno %d; not %d", step, s, a, index, k, err, want)
			}
			if err == api.OK {
				s, of[[2]int{a, index}] = x, k
			}
		}
		if Wrong(s) != api.OK || Left(s) != count-len(of) || len(s.Files) != len(sizes) {
			t.Fatalf("step %d: of %v %d blocks are left; Wrong is %d", step, s, Left(s), Wrong(s))
		}
		for i, f := range s.Files {
			want := bare((sizes[i] + 7) / 8)
			want.Size = sizes[i]
			for p := range want.Blocks {
				if b, has := of[[2]int{i, p}]; has {
					want.Blocks[p] = b
				}
			}
			if !same(store(0, f), store(0, want)) {
				t.Fatalf("step %d: file %d is %v, not %v", step, i, f, want)
			}
		}
	}
}
