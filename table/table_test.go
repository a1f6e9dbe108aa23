package table

import (
	"math"
	"slices"
	"testing"

	"pagewright/api"
)

func present(n int) api.Entry { return api.Entry{Kind: api.Present, N: n} }

func writable(n int) api.Entry { return api.Entry{Kind: api.Present, N: n, Write: true} }

func swapped(n int) api.Entry { return api.Entry{Kind: api.Swapped, N: n} }

// half is Fan entries: l, and None behind them.
func half(l ...api.Entry) []api.Entry {
	return append(slices.Clone(l), make([]api.Entry, api.Fan-len(l))...)
}

// at is Fan entries: e at number k, and None beside it.
func at(k int, e api.Entry) []api.Entry {
	h := half()
	h[k] = e
	return h
}

// laid is a table of these entries, laid page by page.
func laid(of map[int]api.Entry) api.Table {
	var t api.Table
	for n, e := range of {
		if len(t[n/8]) == 0 {
			t[n/8] = half()
		}
		t[n/8][n%8] = e
	}
	return t
}

// full is a table all of whose entries are e.
func full(e api.Entry) api.Table {
	var t api.Table
	for i := range t {
		t[i] = slices.Repeat([]api.Entry{e}, 8)
	}
	return t
}

func same(a, b api.Table) bool {
	for i := range a {
		if !slices.Equal(a[i], b[i]) {
			return false
		}
	}
	return true
}

// isNothing tells whether t is what stands beside an error.
func isNothing(t api.Table) bool {
	return !slices.ContainsFunc(t[:], func(h []api.Entry) bool { return h != nil })
}

// rightEntries are entries, not None, that a page may have.
func rightEntries() []api.Entry {
	return []api.Entry{present(0), present(1), present(39), writable(0), writable(5), writable(39), swapped(0), swapped(39), swapped(40), swapped(59)}
}

type wrongCase struct {
	name string
	e    api.Entry
	want api.Errno
}

// wrongEntries are entries that no page may have, and with which errno.
func wrongEntries() []wrongCase {
	e := func(kind, n int, write bool) api.Entry { return api.Entry{Kind: kind, N: n, Write: write} }
	return []wrongCase{
		{"kind 3", e(3, 0, false), api.ErrKind},
		{"kind -1", e(-1, 0, false), api.ErrKind},
		{"least kind", e(math.MinInt, 0, false), api.ErrKind},
		{"greatest kind", e(math.MaxInt, 0, true), api.ErrKind},
		{"frame -1", present(-1), api.ErrRange},
		{"frame 40", present(40), api.ErrRange},
		{"frame 40, Write", writable(40), api.ErrRange},
		{"frame 59", present(59), api.ErrRange},
		{"frame 60", present(60), api.ErrRange},
		{"least frame", present(math.MinInt), api.ErrRange},
		{"greatest frame", writable(math.MaxInt), api.ErrRange},
		{"slot -1", swapped(-1), api.ErrRange},
		{"slot 60", swapped(60), api.ErrRange},
		{"least slot", swapped(math.MinInt), api.ErrRange},
		{"greatest slot", swapped(math.MaxInt), api.ErrRange},
		{"None with -1", e(0, -1, false), api.ErrRange},
		{"None with 60", e(0, 60, false), api.ErrRange},
		{"None with 1", e(0, 1, false), api.ErrFit},
		{"None with 40", e(0, 40, false), api.ErrFit},
		{"None with 59", e(0, 59, false), api.ErrFit},
		{"None, Write", e(0, 0, true), api.ErrFit},
		{"None with 1, Write", e(0, 1, true), api.ErrFit},
		{"slot 0, Write", e(2, 0, true), api.ErrFit},
		{"slot 59, Write", e(2, 59, true), api.ErrFit},
		// The kind is told ahead of the number, and that ahead of what does not fit.
		{"kind 3 with -1", e(3, -1, true), api.ErrKind},
		{"kind -1 with 60", e(-1, 60, false), api.ErrKind},
		{"None with -1, Write", e(0, -1, true), api.ErrRange},
		{"None with 60, Write", e(0, 60, true), api.ErrRange},
		{"slot -1, Write", e(2, -1, true), api.ErrRange},
		{"slot 60, Write", e(2, 60, true), api.ErrRange},
	}
}

// wrongTables are tables that Set refuses, and with which errno.
func wrongTables() map[string]struct {
	t    api.Table
	want api.Errno
} {
	type pair = struct {
		t    api.Table
		want api.Errno
	}
	kind, frame, write := api.Entry{Kind: 3}, present(40), api.Entry{Kind: api.Swapped, Write: true}
	l := map[string]pair{
		"one entry":              {api.Table{0: {present(1)}}, api.ErrForm},
		"seven entries":          {api.Table{3: half(present(1))[:7]}, api.ErrForm},
		"nine entries":           {api.Table{7: append(half(present(1)), present(2))}, api.ErrForm},
		"16 entries":             {api.Table{7: slices.Repeat([]api.Entry{present(1)}, 16)}, api.ErrForm},
		"6400 entries":           {api.Table{2: make([]api.Entry, 6400)}, api.ErrForm},
		"all None":               {api.Table{0: half()}, api.ErrForm},
		"all None, the last one": {api.Table{0: half(present(1)), 7: half()}, api.ErrForm},
		// How many there are is told ahead of the entries.
		"seven entries, kind 3":  {api.Table{0: half(kind)[:7]}, api.ErrForm},
		"nine entries, frame 40": {api.Table{0: append(half(frame), frame)}, api.ErrForm},
		// That all are None is told behind the entries.
		"None but for one that has a number": {api.Table{0: at(7, api.Entry{N: 1})}, api.ErrFit},
		"None but for one that is Write":     {api.Table{0: at(0, api.Entry{Write: true})}, api.ErrFit},
		"None but for one with -1":           {api.Table{0: at(4, api.Entry{N: -1})}, api.ErrRange},
		// Entry by entry.
		"kind 3, then frame 40":      {api.Table{1: half(kind, frame)}, api.ErrKind},
		"frame 40, then kind 3":      {api.Table{1: half(frame, kind)}, api.ErrRange},
		"slot's Write, then kind 3":  {api.Table{1: half(write, kind)}, api.ErrFit},
		"slot's Write, then a frame": {api.Table{1: half(write, frame)}, api.ErrFit},
		// Half by half.
		"all None, ahead of kind 3":      {api.Table{0: half(), 1: half(kind)}, api.ErrForm},
		"kind 3, ahead of all None":      {api.Table{0: at(7, kind), 1: half()}, api.ErrKind},
		"slot's Write, ahead of 7":       {api.Table{2: at(7, write), 5: make([]api.Entry, 7)}, api.ErrFit},
		"7 entries, ahead of slot Write": {api.Table{2: make([]api.Entry, 7), 5: half(write)}, api.ErrForm},
		"frame 40, ahead of kind 3":      {api.Table{6: at(7, frame), 7: half(kind)}, api.ErrRange},
	}
	for _, c := range wrongEntries() {
		l[c.name+", first of all"] = pair{api.Table{0: half(c.e, present(1))}, c.want}
		l[c.name+", amid others"] = pair{api.Table{1: half(present(3)), 4: half(present(1), swapped(2), c.e, writable(4))}, c.want}
		l[c.name+", last of all"] = pair{api.Table{0: half(swapped(3)), 7: at(7, c.e)}, c.want}
	}
	return l
}

func rightTables() []api.Table {
	l := []api.Table{
		{}, full(present(39)), full(writable(0)), full(swapped(59)),
		laid(map[int]api.Entry{0: writable(3), 9: present(3), 63: swapped(3)}),
		laid(map[int]api.Entry{7: swapped(0), 8: present(0), 15: writable(0), 16: writable(39), 55: swapped(59), 56: present(1)}),
		laid(map[int]api.Entry{20: present(5), 21: present(5), 23: writable(5), 24: swapped(5), 31: present(4)}),
	}
	for _, e := range rightEntries() {
		l = append(l, laid(map[int]api.Entry{0: e}), laid(map[int]api.Entry{36: e}), laid(map[int]api.Entry{63: e}))
	}
	return l
}

// Promise F1.

func TestWrong(t *testing.T) {
	for _, tb := range rightTables() {
		if err := Wrong(tb); err != api.OK {
			t.Errorf("Wrong of %v is %d", tb, err)
		}
	}
	for name, c := range wrongTables() {
		if err := Wrong(c.t); err != c.want {
			t.Errorf("%s: Wrong is %d, not %d", name, err, c.want)
		}
	}
}

func TestWrongOfEveryLength(t *testing.T) {
	for k := range 8 {
		for n := range 20 {
			var tb api.Table
			tb[k] = slices.Repeat([]api.Entry{present(1)}, n)
			want := api.ErrForm
			if n == 0 || n == 8 {
				want = api.OK
			}
			if err := Wrong(tb); err != want {
				t.Errorf("half %d of %d entries: Wrong is %d, not %d", k, n, err, want)
			}
		}
	}
}

// TestWrongOfEveryEntry holds Wrong, and Set, against the chapter's words for each kind, number and Write near the edges.
func TestWrongOfEveryEntry(t *testing.T) {
	for kind := -2; kind <= 5; kind++ {
		for n := -3; n <= 70; n++ {
			for _, write := range []bool{false, true} {
				e := api.Entry{Kind: kind, N: n, Write: write}
				want := api.OK
				switch {
				case kind < 0 || kind > 2:
					want = api.ErrKind
				case n < 0 || n >= 60 || kind == 1 && n >= 40:
					want = api.ErrRange
				case kind == 0 && (n != 0 || write) || kind == 2 && write:
					want = api.ErrFit
				}
				if err := Wrong(api.Table{5: half(present(2), e)}); err != want {
					t.Errorf("Wrong of %v is %d, not %d", e, err, want)
				}
				if _, err := Set(api.Table{}, 41, e); err != want {
					t.Errorf("Set of %v is %d, not %d", e, err, want)
				}
			}
		}
	}
}

// TestOwn: Own asks nothing of what it copies.
func TestOwn(t *testing.T) {
	l := rightTables()
	for _, c := range wrongTables() {
		l = append(l, c.t)
	}
	for _, tb := range l {
		if x := Own(tb); !same(x, tb) {
			t.Errorf("the copy of %v is %v", tb, x)
		}
	}
}

func TestGet(t *testing.T) {
	for _, tb := range rightTables() {
		for n := range 64 {
			var want api.Entry
			if len(tb[n/8]) > 0 {
				want = tb[n/8][n%8]
			}
			if e := Get(tb, n); e != want {
				t.Errorf("page %d of %v is %v, not %v", n, tb, e, want)
			}
		}
		for _, n := range []int{-1, -8, -64, 64, 65, 72, 1000, math.MinInt, math.MaxInt} {
			if e := Get(tb, n); e != (api.Entry{}) {
				t.Errorf("page %d, which there is not, is %v", n, e)
			}
		}
	}
}

func TestSet(t *testing.T) {
	for _, tb := range rightTables() {
		for _, n := range []int{0, 7, 8, 9, 20, 36, 55, 56, 63} {
			for _, e := range append(rightEntries(), api.Entry{}) {
				x, err := Set(tb, n, e)
				if err != api.OK || Wrong(x) != api.OK {
					t.Errorf("Set(%v, %d, %v) is %v, errno %d; Wrong is %d", tb, n, e, x, err, Wrong(x))
				}
				for k := range 64 {
					want := Get(tb, k)
					if k == n {
						want = e
					}
					if got := Get(x, k); got != want {
						t.Errorf("page %d set to %v: page %d of %v is %v, not %v", n, e, k, tb, got, want)
					}
				}
			}
		}
	}
}

// TestSetNone: a half has no entries any more when the last one that was not None is gone, and no other half changes.
func TestSetNone(t *testing.T) {
	tb := laid(map[int]api.Entry{8: present(1), 15: swapped(2), 16: writable(3)})
	x, err := Set(tb, 8, api.Entry{})
	if want := laid(map[int]api.Entry{15: swapped(2), 16: writable(3)}); err != api.OK || !same(x, want) {
		t.Errorf("without page 8 it is %v, errno %d", x, err)
	}
	x, err = Set(x, 15, api.Entry{})
	if err != api.OK || len(x[1]) != 0 || !same(x, laid(map[int]api.Entry{16: writable(3)})) {
		t.Errorf("without page 15 it is %v, errno %d", x, err)
	}
	// None, set where there is nothing, stays nothing.
	x, err = Set(x, 15, api.Entry{})
	if err != api.OK || len(x[1]) != 0 || !same(x, laid(map[int]api.Entry{16: writable(3)})) {
		t.Errorf("without page 15 once more it is %v, errno %d", x, err)
	}
	x, err = Set(x, 16, api.Entry{})
	if err != api.OK || !same(x, api.Table{}) {
		t.Errorf("without all of them it is %v, errno %d", x, err)
	}
}

func TestSetRefuses(t *testing.T) {
	none := []int{-1, -8, 64, 65, 1000, math.MinInt, math.MaxInt}
	for _, tb := range []api.Table{{}, full(present(3)), laid(map[int]api.Entry{9: swapped(1)})} {
		for _, n := range none {
			for _, e := range append(rightEntries(), api.Entry{}) {
				if x, err := Set(tb, n, e); err != api.ErrRange || !isNothing(x) {
					t.Errorf("Set(%v, %d, %v) is %v, errno %d", tb, n, e, x, err)
				}
			}
		}
		for _, c := range wrongEntries() {
			for _, n := range []int{0, 9, 63} {
				if x, err := Set(tb, n, c.e); err != c.want || !isNothing(x) {
					t.Errorf("%s: Set(%v, %d, %v) is %v, errno %d; not %d", c.name, tb, n, c.e, x, err, c.want)
				}
			}
			// That there is no such page comes ahead of the entry.
			for _, n := range none {
				if x, err := Set(tb, n, c.e); err != api.ErrRange || !isNothing(x) {
					t.Errorf("%s: Set(%v, %d, %v) is %v, errno %d", c.name, tb, n, c.e, x, err)
				}
			}
		}
	}
}

// TestSetRefusesWrongTables: the table's error comes ahead of the page's and the entry's, wherever it is.
func TestSetRefusesWrongTables(t *testing.T) {
	for name, c := range wrongTables() {
		for _, n := range []int{0, 9, 32, 63, -1, 64, math.MinInt, math.MaxInt} {
			for _, e := range []api.Entry{{}, present(1), swapped(60), {Kind: 3}, {N: 1}} {
				if x, err := Set(c.t, n, e); err != c.want || !isNothing(x) {
					t.Errorf("%s: Set of page %d to %v is %v, errno %d; not %d", name, n, e, x, err, c.want)
				}
			}
		}
	}
}

func TestPages(t *testing.T) {
	for _, c := range []struct {
		t    api.Table
		want []int
	}{
		{api.Table{}, nil},
		{laid(map[int]api.Entry{0: present(0)}), []int{0}},
		{laid(map[int]api.Entry{63: swapped(0)}), []int{63}},
		{laid(map[int]api.Entry{63: swapped(0), 0: writable(1), 31: present(1), 32: swapped(4)}), []int{0, 31, 32, 63}},
		{api.Table{2: slices.Repeat([]api.Entry{present(4)}, 8)}, []int{16, 17, 18, 19, 20, 21, 22, 23}},
	} {
		if got := Pages(c.t); !slices.Equal(got, c.want) {
			t.Errorf("the pages of %v are %v, not %v", c.t, got, c.want)
		}
	}
	got := Pages(full(swapped(9)))
	if len(got) != 64 || got[0] != 0 || got[63] != 63 || !slices.IsSorted(got) {
		t.Errorf("the pages of a full table are %v", got)
	}
}

func TestFind(t *testing.T) {
	tb := laid(map[int]api.Entry{2: swapped(5), 7: present(5), 8: writable(5), 9: swapped(4), 30: present(4), 41: present(0), 42: swapped(0), 63: present(5)})
	for _, c := range []struct {
		kind, k int
		want    []int
	}{
		{api.Present, 5, []int{7, 8, 63}}, {api.Present, 4, []int{30}}, {api.Present, 0, []int{41}}, {api.Present, 6, nil},
		{api.Swapped, 5, []int{2}}, {api.Swapped, 4, []int{9}}, {api.Swapped, 0, []int{42}}, {api.Swapped, 59, nil},
		// Pages that have None are not among them.
		{api.None, 0, nil}, {api.None, 5, nil},
		{3, 5, nil}, {-1, 0, nil}, {api.Present, -1, nil}, {api.Present, 40, nil}, {api.Swapped, 60, nil},
		{math.MinInt, math.MaxInt, nil}, {math.MaxInt, 5, nil}, {api.Present, math.MinInt, nil}, {api.Swapped, math.MaxInt, nil},
	} {
		if got := Find(tb, c.kind, c.k); !slices.Equal(got, c.want) {
			t.Errorf("Find(%d, %d) is %v, not %v", c.kind, c.k, got, c.want)
		}
		if got := Find(api.Table{}, c.kind, c.k); len(got) != 0 {
			t.Errorf("Find(%d, %d) of nothing is %v", c.kind, c.k, got)
		}
	}
	if got := Find(full(writable(39)), api.Present, 39); len(got) != 64 || !slices.IsSorted(got) {
		t.Errorf("Find in a full table is %v", got)
	}
}

func TestGuard(t *testing.T) {
	for _, tb := range rightTables() {
		x := Guard(tb)
		if err := Wrong(x); err != api.OK {
			t.Errorf("Guard of %v is %v, which is wrong: %d", tb, x, err)
		}
		for n := range 64 {
			want := Get(tb, n)
			want.Write = false
			if got := Get(x, n); got != want {
				t.Errorf("page %d of Guard of %v is %v, not %v", n, tb, got, want)
			}
		}
	}
}

// TestWrongTablesDoNotPanic: of them nothing else is promised.
func TestWrongTablesDoNotPanic(t *testing.T) {
	for _, c := range wrongTables() {
		for n := -1; n <= 64; n++ {
			Get(c.t, n)
		}
		Pages(c.t)
		Find(c.t, 3, 0)
		Guard(c.t)
	}
}

func TestExampleOfTheDocument(t *testing.T) {
	tb, err := Set(api.Table{}, 9, present(4))
	if err != api.OK || !same(tb, api.Table{1: at(1, present(4))}) {
		t.Errorf("page 9 is not entry 1 of half 1: %v, errno %d", tb, err)
	}
	if e := Get(api.Table{1: at(1, swapped(7))}, 9); e != swapped(7) {
		t.Errorf("page 9 is %v, not entry 1 of half 1", e)
	}
}

// What holds everywhere.

// roomy is t with spare room behind its halves, the empty ones too, and that room whole.
func roomy(t api.Table) (api.Table, api.Table) {
	var cut, all api.Table
	for i, h := range t {
		all[i] = append(slices.Clone(h), slices.Repeat([]api.Entry{writable(6)}, 9)...)
		cut[i] = all[i][:len(h)]
	}
	return cut, all
}

// scribble writes over all of t, its spare room too.
func scribble(t api.Table) {
	for _, h := range t {
		h = h[:cap(h)]
		for i := range h {
			h[i] = api.Entry{Kind: -9, N: -9}
		}
	}
}

// everyCall is each call, with what it answers.
func everyCall() map[string]func(t api.Table, n int, e api.Entry) (api.Table, []int, api.Entry, api.Errno) {
	type (
		tab = api.Table
		ent = api.Entry
	)
	return map[string]func(t tab, n int, e ent) (tab, []int, ent, api.Errno){
		"Wrong": func(t tab, n int, e ent) (tab, []int, ent, api.Errno) { return tab{}, nil, ent{}, Wrong(t) },
		"Own":   func(t tab, n int, e ent) (tab, []int, ent, api.Errno) { return Own(t), nil, ent{}, api.OK },
		"Get":   func(t tab, n int, e ent) (tab, []int, ent, api.Errno) { return tab{}, nil, Get(t, n), api.OK },
		"Set": func(t tab, n int, e ent) (tab, []int, ent, api.Errno) {
			x, err := Set(t, n, e)
			return x, nil, ent{}, err
		},
		"Pages": func(t tab, n int, e ent) (tab, []int, ent, api.Errno) { return tab{}, Pages(t), ent{}, api.OK },
		"Find": func(t tab, n int, e ent) (tab, []int, ent, api.Errno) {
			return tab{}, Find(t, e.Kind, e.N), ent{}, api.OK
		},
		"Guard": func(t tab, n int, e ent) (tab, []int, ent, api.Errno) { return Guard(t), nil, ent{}, api.OK },
	}
}

func TestOnlyReadsAndAnswersNewMemory(t *testing.T) {
	for name, call := range everyCall() {
		for _, start := range rightTables() {
			for _, n := range []int{0, 9, 36, 63, 64} {
				for _, e := range []api.Entry{{}, present(3), writable(39), swapped(3)} {
					tb, all := roomy(start)
					before := Own(all)
					plain, plainPages, plainEntry, plainErr := call(start, n, e)
					x, pages, entry, err := call(tb, n, e)
					if !same(x, plain) || !slices.Equal(pages, plainPages) || entry != plainEntry || err != plainErr {
						t.Errorf("%s looks at spare room: %v, %v, %v, %d", name, x, pages, entry, err)
					}
					if !same(all, before) {
						t.Errorf("%s changes what it was handed, or the room behind it", name)
					}
					kept := Own(x)
					scribble(tb)
					if !same(x, kept) {
						t.Errorf("%s keeps what it was handed", name)
					}
					tb, all = roomy(start)
					x, _, _, _ = call(tb, n, e)
					scribble(x)
					if !same(all, before) {
						t.Errorf("%s answers memory that it was handed", name)
					}
				}
			}
		}
	}
}

// TestHalvesAreApart: though two halves were handed in as one list, what is answered has one for each.
func TestHalvesAreApart(t *testing.T) {
	one := half(writable(1), swapped(2))
	tb := api.Table{0: one, 1: one}
	set, _ := Set(tb, 0, present(5))
	if want := (api.Table{0: half(present(5), swapped(2)), 1: one}); !same(set, want) {
		t.Errorf("Set is %v, not %v", set, want)
	}
	for name, x := range map[string]api.Table{"Own": Own(tb), "Guard": Guard(tb), "Set": set} {
		was := x[1][1]
		x[0][1] = present(9)
		if x[1][1] != was {
			t.Errorf("%s answers two halves that are one list", name)
		}
	}
}

func TestNilIsEmpty(t *testing.T) {
	none := laid(map[int]api.Entry{9: swapped(3), 20: writable(1)})
	empty := Own(none)
	for i, h := range empty {
		if len(h) == 0 {
			empty[i] = []api.Entry{}
		}
	}
	for name, call := range everyCall() {
		for n := -1; n <= 64; n++ {
			for _, e := range []api.Entry{{}, present(1), swapped(3), {Kind: 3}} {
				x, pages, entry, err := call(none, n, e)
				y, others, other, errno := call(empty, n, e)
				if !same(x, y) || !slices.Equal(pages, others) || entry != other || err != errno {
					t.Errorf("%s tells nil from empty", name)
				}
			}
		}
	}
}

// TestStaysRight goes many steps that a short rule makes, and holds the table against a list of its own.
func TestStaysRight(t *testing.T) {
	var tb api.Table
	of := map[int]api.Entry{}
	rule := 4711
	for step := range 5000 {
		rule = (rule*1103515245 + 12345) % (1 << 31)
		n := (rule>>8)%68 - 2
		e := api.Entry{Kind: (rule >> 15) % 3, N: (rule >> 17) % 4, Write: (rule>>20)%3 == 0}
		// Many are None, so that halves come and go.
		if (rule>>22)%3 == 0 {
			e = api.Entry{}
		}
		if (rule>>24)%29 == 0 {
			tb = Guard(tb)
			for n, e := range of {
				of[n] = api.Entry{Kind: e.Kind, N: e.N}
			}
		}
		fits := e.Kind == 1 || e.Kind == 2 && !e.Write || e == api.Entry{}
		x, err := Set(tb, n, e)
		if (err == api.OK) != (n >= 0 && n < 64 && fits) {
			t.Fatalf("step %d: Set of page %d to %v is errno %d", step, n, e, err)
		}
		if err == api.OK {
			tb, of[n] = x, e
			if e.Kind == api.None {
				delete(of, n)
			}
		}
		var pages, found []int
		for n := range 64 {
			has, is := of[n]
			if is {
				pages = append(pages, n)
			}
			if is && has.Kind == e.Kind && has.N == e.N {
				found = append(found, n)
			}
		}
		if Wrong(tb) != api.OK || !same(tb, laid(of)) || !slices.Equal(Pages(tb), pages) || !slices.Equal(Find(tb, e.Kind, e.N), found) {
			t.Fatalf("step %d: it is %v, with pages %v, of which %v have %v; not %v, %v and %v; Wrong is %d", step, tb, Pages(tb), Find(tb, e.Kind, e.N), e, laid(of), pages, found, Wrong(tb))
		}
	}
}
