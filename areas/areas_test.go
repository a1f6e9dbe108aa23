package areas

import (
	"math"
	"slices"
	"testing"

	"pagewright/api"
)

// plain is an area of no file that may be read and written.
func plain(from, to int) api.Area {
	return api.Area{From: from, To: to, Read: true, Write: true, File: -1}
}

// reads is an area of no file that may be read alone.
func reads(from, to int) api.Area { return api.Area{From: from, To: to, Read: true, File: -1} }

// filed is an area of a file, from its page base on, that may be read.
func filed(from, to, file, base int) api.Area {
	return api.Area{From: from, To: to, Read: true, File: file, Base: base}
}

// shared is an area of a file that is Shared, and may be read and written.
func shared(from, to, file, base int) api.Area {
	return api.Area{From: from, To: to, Read: true, Write: true, Shared: true, File: file, Base: base}
}

func list(l ...api.Area) []api.Area { return l }

// sparse are n areas of a page each, every other page from page 0 on.
func sparse(n int) []api.Area {
	var l []api.Area
	for i := range n {
		l = append(l, plain(2*i, 2*i+1))
	}
	return l
}

// striped are n areas of a page each, one behind the other, of which none goes on with another one.
func striped(n int) []api.Area {
	var l []api.Area
	for i := range n {
		a := plain(i, i+1)
		a.Write = i%2 == 0
		l = append(l, a)
	}
	return l
}

func rightAreas() []api.Area {
	return []api.Area{
		plain(0, 1), plain(0, 64), plain(63, 64), reads(5, 9), {From: 3, To: 4, File: -1}, {From: 3, To: 4, Write: true, File: -1},
		filed(0, 1, 0, 0), filed(0, 12, 4, 0), filed(52, 64, 0, 0), filed(63, 64, 4, 11), filed(20, 24, 2, 8), filed(20, 31, 2, 1),
		shared(0, 12, 0, 0), shared(63, 64, 4, 11), shared(7, 9, 1, 10), {From: 9, To: 10, Shared: true}, {From: 9, To: 10},
	}
}

type wrongCase struct {
	name string
	a    api.Area
	want api.Errno
}

// wrongAreas are areas that nobody may have, and with which errno.
func wrongAreas() []wrongCase {
	sharedNothing, basedNothing := plain(3, 5), plain(3, 5)
	sharedNothing.Shared, basedNothing.Base = true, 1
	both := sharedNothing
	both.Base = 7
	based := func(from, to, base int) api.Area { return api.Area{From: from, To: to, File: -1, Base: base} }
	return []wrongCase{
		{"From -1", plain(-1, 3), api.ErrRange},
		{"all below 0", plain(-3, -1), api.ErrRange},
		{"least From", plain(math.MinInt, 3), api.ErrRange},
		{"no page", plain(5, 5), api.ErrRange},
		{"no page at 0", plain(0, 0), api.ErrRange},
		{"no page at Span", plain(64, 64), api.ErrRange},
		{"ends ahead", plain(5, 4), api.ErrRange},
		{"least To", plain(5, math.MinInt), api.ErrRange},
		{"To 65", plain(60, 65), api.ErrRange},
		{"From 64", plain(64, 65), api.ErrRange},
		{"greatest To", plain(0, math.MaxInt), api.ErrRange},
		{"all there are", plain(math.MinInt, math.MaxInt), api.ErrRange},
		{"the other way round", plain(math.MaxInt, math.MinInt), api.ErrRange},
		{"File -2", filed(3, 5, -2, 0), api.ErrRange},
		{"File 5", filed(3, 5, 5, 0), api.ErrRange},
		{"least File", filed(3, 5, math.MinInt, 0), api.ErrRange},
		{"greatest File", filed(3, 5, math.MaxInt, 0), api.ErrRange},
		{"Base -1", filed(3, 5, 0, -1), api.ErrRange},
		{"least Base", filed(3, 5, 0, math.MinInt), api.ErrRange},
		{"Base -1 of no file", based(3, 5, -1), api.ErrRange},
		{"least Base of no file", based(3, 5, math.MinInt), api.ErrRange},
		{"no file, Shared", sharedNothing, api.ErrFit},
		{"no file, Base 1", basedNothing, api.ErrFit},
		{"no file, Base 7 and Shared", both, api.ErrFit},
		{"no file, greatest Base", based(3, 5, math.MaxInt), api.ErrFit},
		{"a page of file page 12", filed(3, 4, 0, 12), api.ErrFit},
		{"two pages from file page 11 on", filed(3, 5, 4, 11), api.ErrFit},
		{"13 pages of a file", filed(3, 16, 0, 0), api.ErrFit},
		{"12 pages from file page 1 on", shared(3, 15, 0, 1), api.ErrFit},
		{"64 pages of a file", filed(0, 64, 0, 0), api.ErrFit},
		{"greatest Base", filed(3, 5, 0, math.MaxInt), api.ErrFit},
		{"greatest Base, all pages", shared(0, 64, 0, math.MaxInt), api.ErrFit},
		// What is out of range is told ahead of what does not fit.
		{"File 5, Base 12", filed(3, 5, 5, 12), api.ErrRange},
		{"File -2, Base 1", filed(3, 5, -2, 1), api.ErrRange},
		{"no page of no file, Shared", api.Area{From: 5, To: 5, Shared: true, File: -1}, api.ErrRange},
		{"To 65 of no file, Base 1", based(60, 65, 1), api.ErrRange},
		{"Base -1 of no file, Shared", api.Area{From: 3, To: 5, Shared: true, File: -1, Base: -1}, api.ErrRange},
		{"To 65, 65 pages of a file", filed(0, 65, 0, 0), api.ErrRange},
	}
}

func rightLists() [][]api.Area {
	l := [][]api.Area{
		nil, sparse(16), striped(16), sparse(15),
		list(plain(2, 4), plain(5, 8)),
		list(plain(0, 32), reads(32, 64)),
		list(reads(2, 4), plain(4, 10), shared(18, 26, 0, 0), shared(26, 28, 0, 9), filed(40, 44, 4, 8)),
		list(filed(0, 4, 1, 0), filed(4, 8, 2, 4), filed(8, 12, 2, 0), plain(60, 63), reads(63, 64)),
		list(plain(10, 20), filed(20, 24, 0, 0), shared(24, 28, 0, 4), filed(28, 30, 0, 8)),
	}
	for _, a := range rightAreas() {
		l = append(l, list(a))
	}
	return l
}

// wrongLists are lists that Map, Unmap and Protect refuse, and what is wrong with them.
func wrongLists() map[string]struct {
	l    []api.Area
	want api.Fault
} {
	type pair = struct {
		l    []api.Area
		want api.Fault
	}
	at := func(err api.Errno, n int) api.Fault { return api.Fault{Err: err, At: n} }
	l := map[string]pair{
		"17 areas":          {sparse(17), at(api.ErrMany, 0)},
		"1700 areas":        {slices.Repeat(list(plain(3, 4)), 1700), at(api.ErrMany, 0)},
		"twice the same":    {list(plain(1, 3), plain(1, 3)), at(api.ErrForm, 1)},
		"the last page":     {list(plain(1, 3), reads(2, 5)), at(api.ErrForm, 1)},
		"inside":            {list(plain(0, 10), filed(4, 5, 0, 0)), at(api.ErrForm, 1)},
		"around":            {list(plain(4, 5), filed(3, 9, 0, 0)), at(api.ErrForm, 1)},
		"falling":           {list(plain(5, 6), reads(1, 3)), at(api.ErrForm, 1)},
		"falling to meet":   {list(plain(5, 6), plain(3, 5)), at(api.ErrForm, 1)},
		"falling at last":   {list(plain(1, 2), plain(7, 9), plain(4, 6)), at(api.ErrForm, 2)},
		"goes on":           {list(plain(1, 3), plain(3, 4)), at(api.ErrForm, 1)},
		"goes on at last":   {list(reads(0, 1), plain(1, 3), plain(3, 4)), at(api.ErrForm, 2)},
		"goes on in a file": {list(filed(1, 3, 0, 5), filed(3, 8, 0, 7)), at(api.ErrForm, 1)},
		"goes on, Shared":   {list(shared(1, 3, 4, 0), shared(3, 4, 4, 2)), at(api.ErrForm, 1)},
		"goes on, 16th":     {append(sparse(15), plain(29, 30)), at(api.ErrForm, 15)},
		// How many there are is told ahead of the areas.
		"17 wrong ones": {make([]api.Area, 17), at(api.ErrMany, 0)},
		// What is wrong with an area is told ahead of where it begins.
		"no page, and falling":     {list(plain(5, 6), plain(3, 3)), at(api.ErrRange, 1)},
		"does not fit, falling":    {list(plain(5, 6), filed(3, 4, 0, 12)), at(api.ErrFit, 1)},
		"goes on beyond the file":  {list(filed(1, 13, 0, 0), filed(13, 14, 0, 12)), at(api.ErrFit, 1)},
		"goes on beyond Span":      {list(plain(60, 64), plain(64, 65)), at(api.ErrRange, 1)},
		"goes on without a page":   {list(plain(1, 3), plain(3, 3)), at(api.ErrRange, 1)},
		"the wrong one goes ahead": {list(plain(9, 8), plain(8, 9)), at(api.ErrRange, 0)},
		// Area by area.
		"goes on, then no page":       {list(plain(1, 3), plain(3, 4), plain(9, 9)), at(api.ErrForm, 1)},
		"no page, then goes on":       {list(plain(1, 3), plain(9, 9), plain(9, 10)), at(api.ErrRange, 1)},
		"falling, then does not fit":  {list(plain(5, 6), plain(1, 2), filed(9, 10, 0, 12)), at(api.ErrForm, 1)},
		"does not fit, then To 65":    {list(filed(0, 1, 0, 12), plain(60, 65)), at(api.ErrFit, 0)},
		"To 65, then does not fit":    {list(plain(60, 65), filed(0, 1, 0, 12)), at(api.ErrRange, 0)},
		"falling once, then to there": {list(plain(9, 12), plain(1, 2), reads(10, 12)), at(api.ErrForm, 1)},
	}
	for _, c := range wrongAreas() {
		l[c.name+", alone"] = pair{list(c.a), at(c.want, 0)}
		l[c.name+", first of two"] = pair{list(c.a, plain(50, 51)), at(c.want, 0)}
		l[c.name+", third of four"] = pair{list(reads(0, 1), plain(1, 2), c.a, plain(63, 64)), at(c.want, 2)}
		l[c.name+", last of 16"] = pair{append(striped(15), c.a), at(c.want, 15)}
	}
	return l
}

// Promise G1.

func TestWrong(t *testing.T) {
	for _, l := range rightLists() {
		if f := Wrong(l); f != (api.Fault{}) {
			t.Errorf("Wrong of %v is %v", l, f)
		}
	}
	for name, c := range wrongLists() {
		if f := Wrong(c.l); f != c.want {
			t.Errorf("%s: Wrong is %v, not %v", name, f, c.want)
		}
	}
}

// TestWrongOfEveryArea holds Wrong, and Map, against the chapter's words for each From, To, File, Base and Shared near the edges.
func TestWrongOfEveryArea(t *testing.T) {
	for _, from := range []int{-2, -1, 0, 1, 5, 51, 52, 53, 62, 63, 64, 65} {
		for to := -2; to <= 66; to++ {
			for file := -3; file <= 6; file++ {
				for base := -2; base <= 14; base++ {
					for _, shared := range []bool{false, true} {
						a := api.Area{From: from, To: to, Shared: shared, File: file, Base: base}
						want := wanted(a)
						if f := Wrong(list(a)); f != (api.Fault{Err: want}) {
							t.Fatalf("Wrong of %v is %v, not %d", a, f, want)
						}
						l, err := Map(nil, a)
						if err != want || want == api.OK && !slices.Equal(l, list(a)) || want != api.OK && l != nil {
							t.Fatalf("Map of %v is %v, errno %d, not %d", a, l, err, want)
						}
					}
				}
			}
		}
	}
}

// wanted is what is wrong with a, whose numbers are small.
func wanted(a api.Area) api.Errno {
	switch {
	case !(0 <= a.From && a.From < a.To && a.To <= 64), !(-1 <= a.File && a.File < 5), a.Base < 0:
		return api.ErrRange
	case a.File == -1 && (a.Base != 0 || a.Shared), a.File != -1 && a.Base+(a.To-a.From) > 12:
		return api.ErrFit
	}
	return api.OK
}

// TestWrongOfNeighbours: an area goes on with the one ahead just if all fits.
func TestWrongOfNeighbours(t *testing.T) {
	nothing, file := reads(4, 7), shared(4, 7, 2, 3)
	for _, c := range []struct {
		name   string
		a, b   api.Area
		goesOn bool
	}{
		{"of nothing", nothing, reads(7, 8), true},
		{"a page between", nothing, reads(8, 9), false},
		{"Write", nothing, plain(7, 8), false},
		{"not Read", nothing, api.Area{From: 7, To: 8, File: -1}, false},
		{"of a file, behind nothing", nothing, filed(7, 8, 0, 0), false},
		{"of file 0, behind nothing, with Base 3", nothing, filed(7, 8, 0, 3), false},
		{"of a file", file, shared(7, 8, 2, 6), true},
		{"of a file, up to its end", file, shared(7, 13, 2, 6), true},
		{"of a file, a page between", file, shared(8, 9, 2, 6), false},
		{"of a file, a page of both between", file, shared(8, 9, 2, 7), false},
		{"of a file, with the same Base", file, shared(7, 8, 2, 3), false},
		{"of a file, a page too soon", file, shared(7, 8, 2, 5), false},
		{"of a file, a page too late", file, shared(7, 8, 2, 7), false},
		{"of another file", file, shared(7, 8, 1, 6), false},
		{"of a file, not Shared", file, api.Area{From: 7, To: 8, Read: true, Write: true, File: 2, Base: 6}, false},
		{"of a file, not Write", file, api.Area{From: 7, To: 8, Read: true, Shared: true, File: 2, Base: 6}, false},
		{"of a file, not Read", file, api.Area{From: 7, To: 8, Write: true, Shared: true, File: 2, Base: 6}, false},
		{"of nothing, behind a file", file, plain(7, 8), false},
	} {
		want := api.Fault{}
		one := list(c.a, c.b)
		if c.goesOn {
			want = api.Fault{Err: api.ErrForm, At: 1}
			one = list(c.a)
			one[0].To = c.b.To
		}
		if f := Wrong(list(c.a, c.b)); f != want {
			t.Errorf("%s: Wrong is %v, not %v", c.name, f, want)
		}
		// Mapped, in whatever order, those that go on with each other are one.
		for _, l := range [][]api.Area{list(c.a, c.b), list(c.b, c.a)} {
			x, err := Map(l[:1], l[1])
			if err != api.OK || !slices.Equal(x, one) {
				t.Errorf("%s: %v with %v is %v, errno %d; not %v", c.name, l[0], l[1], x, err, one)
			}
		}
	}
}

// Promise G2.

func TestFind(t *testing.T) {
	l := list(reads(2, 4), plain(4, 10), shared(18, 26, 0, 0), plain(63, 64))
	for n := -3; n <= 70; n++ {
		want := -1
		switch {
		case n == 2 || n == 3:
			want = 0
		case n >= 4 && n <= 9:
			want = 1
		case n >= 18 && n <= 25:
			want = 2
		case n == 63:
			want = 3
		}
		if got := Find(l, n); got != want {
			t.Errorf("page %d lies in area %d, not %d", n, got, want)
		}
		if got := Find(nil, n); got != -1 {
			t.Errorf("page %d of nothing lies in area %d", n, got)
		}
	}
	for _, l := range rightLists() {
		for _, n := range []int{-1, 64, math.MinInt, math.MaxInt} {
			if got := Find(l, n); got != -1 {
				t.Errorf("page %d, which there is not, lies in area %d of %v", n, got, l)
			}
		}
	}
}

func TestRoom(t *testing.T) {
	none := []int{0, -1, -64, 65, 66, 1000, math.MinInt, math.MaxInt}
	for _, l := range rightLists() {
		for _, n := range none {
			if got := Room(l, n); got != -1 {
				t.Errorf("room of %v for %d pages is at %d", l, n, got)
			}
		}
		for n := 1; n <= 64; n++ {
			if got, want := Room(l, n), roomOf(l, n); got != want {
				t.Errorf("room of %v for %d pages is at %d, not %d", l, n, got, want)
			}
		}
	}
	for _, c := range []struct {
		l       []api.Area
		n, want int
	}{
		{nil, 1, 0}, {nil, 64, 0}, {list(plain(0, 64)), 1, -1}, {list(plain(0, 63)), 1, 63}, {list(plain(0, 63)), 2, -1},
		{list(plain(1, 64)), 1, 0}, {list(plain(2, 4), plain(7, 9)), 2, 0}, {list(plain(2, 4), plain(7, 9)), 3, 4}, {list(plain(2, 4), plain(7, 9)), 4, 9},
		{list(plain(2, 4), plain(7, 9)), 55, 9}, {list(plain(2, 4), plain(7, 9)), 56, -1}, {sparse(16), 1, 1}, {sparse(16), 2, 31}, {sparse(16), 33, 31}, {sparse(16), 34, -1},
		{list(plain(0, 3), reads(3, 6)), 1, 6},
	} {
		if got := Room(c.l, c.n); got != c.want {
			t.Errorf("room of %v for %d pages is at %d, not %d", c.l, c.n, got, c.want)
		}
	}
}

// roomOf is where n pages of l, which is right, are free: at 0, or where an area ends.
func roomOf(l []api.Area, n int) int {
	end := 0
	for _, a := range append(slices.Clone(l), plain(64, 65)) {
		if a.From-end >= n {
			return end
		}
		end = a.To
	}
	return -1
}

// TestWrongListsHaveNoRoom: of them nothing is promised, but that the calls end.
func TestWrongListsHaveNoRoom(t *testing.T) {
	for name, c := range wrongLists() {
		for _, n := range []int{0, 1, 5, 64, 65, math.MinInt, math.MaxInt} {
			if got := Room(c.l, n); got != -1 {
				t.Errorf("%s: room for %d pages is at %d", name, n, got)
			}
			Find(c.l, n)
		}
	}
}

func TestMap(t *testing.T) {
	for _, c := range []struct {
		name string
		l    []api.Area
		a    api.Area
		want []api.Area
	}{
		{"the first one", nil, plain(4, 8), list(plain(4, 8))},
		{"all pages", nil, plain(0, 64), list(plain(0, 64))},
		{"ahead of others", list(plain(4, 8), plain(10, 12)), plain(0, 2), list(plain(0, 2), plain(4, 8), plain(10, 12))},
		{"between others", list(plain(4, 8), plain(12, 14)), plain(9, 11), list(plain(4, 8), plain(9, 11), plain(12, 14))},
		{"behind others", list(plain(4, 8), plain(10, 12)), plain(60, 64), list(plain(4, 8), plain(10, 12), plain(60, 64))},
		{"goes on with one", list(plain(4, 8)), plain(8, 10), list(plain(4, 10))},
		{"one goes on with it", list(plain(4, 8)), plain(2, 4), list(plain(2, 8))},
		{"both", list(plain(4, 8), plain(10, 12)), plain(8, 10), list(plain(4, 12))},
		{"meets both, and is neither's", list(plain(4, 8), plain(10, 12)), reads(8, 10), list(plain(4, 8), reads(8, 10), plain(10, 12))},
		{"goes on with the one ahead alone", list(plain(4, 8), reads(10, 12)), plain(8, 10), list(plain(4, 10), reads(10, 12))},
		{"the one behind alone", list(reads(4, 8), plain(10, 12)), plain(8, 10), list(reads(4, 8), plain(8, 12))},
		{"of a file, goes on", list(shared(20, 24, 0, 2)), shared(24, 26, 0, 6), list(shared(20, 26, 0, 2))},
		{"of a file, with another Base", list(shared(20, 26, 0, 2)), shared(26, 28, 0, 9), list(shared(20, 26, 0, 2), shared(26, 28, 0, 9))},
		{"of a file, ahead", list(shared(20, 26, 0, 2)), shared(18, 20, 0, 0), list(shared(18, 26, 0, 0))},
		{"of a file, ahead, with another Base", list(shared(20, 26, 0, 2)), shared(19, 20, 0, 0), list(shared(19, 20, 0, 0), shared(20, 26, 0, 2))},
		{"of a file, both", list(filed(0, 4, 3, 0), filed(8, 12, 3, 8)), filed(4, 8, 3, 4), list(filed(0, 12, 3, 0))},
		{"of another file, between", list(filed(0, 4, 3, 0), filed(8, 12, 3, 8)), filed(4, 8, 2, 4), list(filed(0, 4, 3, 0), filed(4, 8, 2, 4), filed(8, 12, 3, 8))},
		{"the 16th", sparse(15), plain(40, 41), append(sparse(15), plain(40, 41))},
		{"16, and goes on with one", sparse(16), plain(31, 64), append(sparse(15), plain(30, 64))},
		{"16, and goes on with two", sparse(16), plain(1, 2), append(list(plain(0, 3)), sparse(16)[2:]...)},
	} {
		x, err := Map(c.l, c.a)
		if err != api.OK || !slices.Equal(x, c.want) || Wrong(x).Err != api.OK {
			t.Errorf("%s: it is %v, errno %d; not %v", c.name, x, err, c.want)
		}
	}
}

func TestMapRefuses(t *testing.T) {
	one := list(plain(10, 14), shared(20, 22, 0, 0))
	for _, c := range []struct {
		name string
		l    []api.Area
		a    api.Area
		want api.Errno
	}{
		{"the same", one, plain(10, 14), api.ErrName},
		{"its first page", one, reads(8, 11), api.ErrName},
		{"its last page", one, reads(13, 15), api.ErrName},
		{"inside", one, filed(11, 12, 0, 0), api.ErrName},
		{"around", one, plain(0, 64), api.ErrName},
		{"the second one's", one, plain(21, 30), api.ErrName},
		{"of the same pages of the file", one, shared(20, 22, 0, 0), api.ErrName},
		{"the 17th", sparse(16), plain(40, 41), api.ErrMany},
		{"the 17th, that meets one", sparse(16), reads(31, 32), api.ErrMany},
		{"the 17th, at the end", striped(16), plain(63, 64), api.ErrMany},
		// That its pages are taken comes ahead of how many there are.
		{"the 17th, where there is one", sparse(16), plain(30, 34), api.ErrName},
	} {
		if x, err := Map(c.l, c.a); err != c.want || x != nil {
			t.Errorf("%s: it is %v, errno %d; not %d", c.name, x, err, c.want)
		}
	}
	// What is wrong with an area comes ahead of where it lies.
	for _, c := range wrongAreas() {
		for _, l := range [][]api.Area{nil, one, list(plain(0, 64)), sparse(16)} {
			if x, err := Map(l, c.a); err != c.want || x != nil {
				t.Errorf("%s: it is %v, errno %d; not %d", c.name, x, err, c.want)
			}
		}
	}
}

func TestUnmap(t *testing.T) {
	for _, c := range []struct {
		name  string
		l     []api.Area
		at, n int
		want  []api.Area
	}{
		{"of nothing", nil, 0, 64, nil},
		{"where there is none", list(plain(4, 8)), 8, 56, list(plain(4, 8))},
		{"ahead of all", list(plain(4, 8)), 0, 4, list(plain(4, 8))},
		{"all of it", list(plain(4, 8)), 4, 4, nil},
		{"all pages", sparse(16), 0, 64, nil},
		{"the first page", list(plain(4, 8)), 4, 1, list(plain(5, 8))},
		{"the last page", list(plain(4, 8)), 7, 1, list(plain(4, 7))},
		{"amid", list(plain(4, 8)), 5, 2, list(plain(4, 5), plain(7, 8))},
		{"the very first page", list(plain(0, 64)), 0, 1, list(plain(1, 64))},
		{"the very last page", list(plain(0, 64)), 63, 1, list(plain(0, 63))},
		{"parts of several", list(plain(4, 8), reads(8, 10), shared(12, 16, 1, 4)), 6, 8, list(plain(4, 6), shared(14, 16, 1, 6))},
		{"of a file, the first page", list(filed(4, 8, 2, 3)), 4, 1, list(filed(5, 8, 2, 4))},
		{"of a file, the last page", list(filed(4, 8, 2, 3)), 7, 1, list(filed(4, 7, 2, 3))},
		{"of a file, amid", list(shared(4, 16, 2, 0)), 7, 4, list(shared(4, 7, 2, 0), shared(11, 16, 2, 7))},
		{"16, and one goes", sparse(16), 30, 1, sparse(15)},
		{"15, and one is parted", append(sparse(14), plain(30, 33)), 31, 1, append(sparse(14), plain(30, 31), plain(32, 33))},
		{"16, and one is smaller", append(sparse(15), plain(30, 33)), 32, 9, append(sparse(15), plain(30, 32))},
	} {
		x, err := Unmap(c.l, c.at, c.n)
		if err != api.OK || !slices.Equal(x, c.want) || Wrong(x).Err != api.OK {
			t.Errorf("%s: it is %v, errno %d; not %v", c.name, x, err, c.want)
		}
	}
	many := append(sparse(15), plain(30, 33))
	if x, err := Unmap(many, 31, 1); err != api.ErrMany || x != nil {
		t.Errorf("parted, 16 areas are %v, errno %d", x, err)
	}
}

func TestProtect(t *testing.T) {
	nothing := func(from, to int) api.Area { return api.Area{From: from, To: to, File: -1} }
	for _, c := range []struct {
		name        string
		l           []api.Area
		at, n       int
		read, write bool
		want        []api.Area
	}{
		{"all of it", list(plain(4, 8)), 4, 4, true, false, list(reads(4, 8))},
		{"as it is", list(plain(4, 8)), 5, 2, true, true, list(plain(4, 8))},
		{"neither", list(plain(4, 8)), 4, 4, false, false, list(nothing(4, 8))},
		{"Write alone", list(plain(4, 8)), 4, 4, false, true, list(api.Area{From: 4, To: 8, Write: true, File: -1})},
		{"the first page", list(plain(4, 8)), 4, 1, true, false, list(reads(4, 5), plain(5, 8))},
		{"the last page", list(plain(4, 8)), 7, 1, true, false, list(plain(4, 7), reads(7, 8))},
		{"amid", list(plain(4, 8)), 5, 2, true, false, list(plain(4, 5), reads(5, 7), plain(7, 8))},
		{"all pages", list(plain(0, 32), reads(32, 64)), 0, 64, true, false, list(reads(0, 64))},
		{"the very last page", list(plain(0, 64)), 63, 1, true, false, list(plain(0, 63), reads(63, 64))},
		{"goes on ahead", list(reads(2, 4), plain(4, 8)), 4, 2, true, false, list(reads(2, 6), plain(6, 8))},
		{"goes on behind", list(plain(4, 8), reads(8, 10)), 6, 2, true, false, list(plain(4, 6), reads(6, 10))},
		{"goes on at both ends", list(reads(2, 4), plain(4, 8), reads(8, 10)), 4, 4, true, false, list(reads(2, 10))},
		{"of a file", list(filed(4, 12, 2, 3)), 6, 2, false, true, list(filed(4, 6, 2, 3), api.Area{From: 6, To: 8, Write: true, File: 2, Base: 5}, filed(8, 12, 2, 7))},
		{"of two that stay two", list(filed(4, 8, 2, 3), shared(8, 10, 2, 7)), 4, 6, true, true, list(api.Area{From: 4, To: 8, Read: true, Write: true, File: 2, Base: 3}, shared(8, 10, 2, 7))},
		{"of a file and of nothing", list(plain(4, 8), filed(8, 10, 0, 0)), 6, 3, true, false, list(plain(4, 6), reads(6, 8), filed(8, 10, 0, 0))},
		{"whole again", list(filed(4, 6, 2, 3), api.Area{From: 6, To: 8, File: 2, Base: 5}, filed(8, 12, 2, 7)), 6, 2, true, false, list(filed(4, 12, 2, 3))},
		{"16, and one changes", sparse(16), 30, 1, true, false, append(sparse(15), reads(30, 31))},
		{"16, and they are one", striped(16), 0, 16, true, false, list(reads(0, 16))},
		{"15, and one is two", append(sparse(14), plain(30, 33)), 30, 1, true, false, append(sparse(14), reads(30, 31), plain(31, 33))},
		{"14, and one is three", append(sparse(13), plain(30, 33)), 31, 1, true, false, append(sparse(13), plain(30, 31), reads(31, 32), plain(32, 33))},
	} {
		x, err := Protect(c.l, c.at, c.n, c.read, c.write)
		if err != api.OK || !slices.Equal(x, c.want) || Wrong(x).Err != api.OK {
			t.Errorf("%s: it is %v, errno %d; not %v", c.name, x, err, c.want)
		}
	}
}

func TestProtectRefuses(t *testing.T) {
	l := list(plain(4, 8), reads(8, 10), plain(12, 14))
	for _, c := range []struct {
		name  string
		l     []api.Area
		at, n int
		want  api.Errno
	}{
		{"of nothing", nil, 0, 1, api.ErrNone},
		{"all pages of nothing", nil, 0, 64, api.ErrNone},
		{"a page ahead", l, 3, 2, api.ErrNone},
		{"a page behind", l, 13, 2, api.ErrNone},
		{"pages between", l, 8, 6, api.ErrNone},
		{"none at all", l, 20, 4, api.ErrNone},
		{"all pages but one", list(plain(0, 63)), 0, 64, api.ErrNone},
		{"the last page", list(plain(0, 63)), 63, 1, api.ErrNone},
		{"15, and one is three", append(sparse(14), plain(30, 33)), 31, 1, api.ErrMany},
		{"16, and one is two", append(sparse(15), plain(30, 33)), 30, 1, api.ErrMany},
		{"16, and one is three", append(sparse(15), plain(30, 33)), 31, 1, api.ErrMany},
		// That there is none comes ahead of how many there are.
		{"16, and none behind", append(sparse(15), plain(30, 33)), 32, 2, api.ErrNone},
	} {
		if x, err := Protect(c.l, c.at, c.n, false, false); err != c.want || x != nil {
			t.Errorf("%s: it is %v, errno %d; not %d", c.name, x, err, c.want)
		}
	}
}

// TestPagesThereAreNot: Unmap and Protect refuse them, ahead of all but the list's error.
func TestPagesThereAreNot(t *testing.T) {
	for _, l := range rightLists() {
		for _, c := range [][2]int{
			{-1, 1}, {-1, 2}, {-64, 64}, {0, 0}, {0, -1}, {5, 0}, {63, 0}, {64, 0}, {65, 0}, {0, 65}, {1, 64}, {32, 33}, {63, 2}, {64, 1}, {64, -1}, {65, -2},
			{math.MinInt, 1}, {math.MinInt, math.MinInt}, {math.MinInt, math.MaxInt}, {0, math.MinInt}, {0, math.MaxInt}, {1, math.MaxInt}, {63, math.MaxInt},
			{math.MaxInt, 1}, {math.MaxInt, math.MinInt}, {math.MaxInt, math.MaxInt}, {math.MaxInt - 1, 3},
		} {
			if x, err := Unmap(l, c[0], c[1]); err != api.ErrRange || x != nil {
				t.Errorf("Unmap(%v, %d, %d) is %v, errno %d", l, c[0], c[1], x, err)
			}
			if x, err := Protect(l, c[0], c[1], true, true); err != api.ErrRange || x != nil {
				t.Errorf("Protect(%v, %d, %d) is %v, errno %d", l, c[0], c[1], x, err)
			}
		}
	}
}

func TestWrongListsAreRefused(t *testing.T) {
	for name, c := range wrongLists() {
		for _, n := range []int{0, 5, 63, -1, 64, math.MinInt, math.MaxInt} {
			// Wrong or right, what stands beside the list is not asked.
			for _, a := range list(plain(30, 31), plain(0, 64), plain(5, 5), filed(3, 5, 0, 12), plain(n, n)) {
				if x, err := Map(c.l, a); err != c.want.Err || x != nil {
					t.Errorf("%s: Map of %v is %v, errno %d; not %d", name, a, x, err, c.want.Err)
				}
			}
			for _, k := range []int{1, 2, 0, -1, 65, math.MinInt, math.MaxInt} {
				if x, err := Unmap(c.l, n, k); err != c.want.Err || x != nil {
					t.Errorf("%s: Unmap(%d, %d) is %v, errno %d; not %d", name, n, k, x, err, c.want.Err)
				}
				if x, err := Protect(c.l, n, k, true, false); err != c.want.Err || x != nil {
					t.Errorf("%s: Protect(%d, %d) is %v, errno %d; not %d", name, n, k, x, err, c.want.Err)
				}
			}
		}
	}
}

// TestInPartsAsAtOnce: page by page, from either end, it is what it is at once; mapped and unmapped, nothing is left.
func TestInPartsAsAtOnce(t *testing.T) {
	for _, a := range rightAreas() {
		for _, back := range []bool{false, true} {
			var x []api.Area
			for _, p := range pagesOf(a, back) {
				y, err := Map(x, p)
				if err != api.OK {
					t.Fatalf("%v of %v: errno %d", p, a, err)
				}
				x = y
			}
			if !slices.Equal(x, list(a)) {
				t.Errorf("in parts %v is %v", a, x)
			}
			for _, p := range pagesOf(a, back) {
				x, _ = Protect(x, p.From, 1, !a.Read, a.Write)
			}
			if y, err := Protect(list(a), a.From, a.To-a.From, !a.Read, a.Write); err != api.OK || !slices.Equal(x, y) {
				t.Errorf("protected in parts %v is %v; at once %v, errno %d", a, x, y, err)
			}
			for _, p := range pagesOf(a, back) {
				x, _ = Unmap(x, p.From, 1)
			}
			if len(x) != 0 {
				t.Errorf("unmapped in parts %v is %v", a, x)
			}
		}
	}
}

// pagesOf are a's pages, each one an area of its own, the first one first, or the last one.
func pagesOf(a api.Area, back bool) []api.Area {
	var l []api.Area
	for i := range a.To - a.From {
		p := a
		p.From, p.To = a.From+i, a.From+i+1
		if a.File >= 0 {
			p.Base += i
		}
		l = append(l, p)
	}
	if back {
		slices.Reverse(l)
	}
	return l
}

func TestExampleOfTheDocument(t *testing.T) {
	l, err := Map(nil, plain(2, 8))
	if err != api.OK {
		t.Fatalf("pages 2 to 7 are errno %d", err)
	}
	l, err = Unmap(l, 4, 1)
	if err != api.OK || !slices.Equal(l, list(plain(2, 4), plain(5, 8))) {
		t.Errorf("pages 2 to 7, without page 4, are %v, errno %d", l, err)
	}
}

// What holds everywhere.

// roomy is l with spare room behind it, and that room whole.
func roomy(l []api.Area) ([]api.Area, []api.Area) {
	all := append(slices.Clone(l), slices.Repeat(list(plain(3, 5)), 20)...)
	return all[:len(l)], all
}

// scribble writes over all of l, its spare room too.
func scribble(l []api.Area) {
	l = l[:cap(l)]
	for i := range l {
		l[i] = api.Area{From: -9, To: -9}
	}
}

// everyCall is each call, with what it answers.
func everyCall() map[string]func(l []api.Area, at, n int) ([]api.Area, int, api.Fault) {
	return map[string]func(l []api.Area, at, n int) ([]api.Area, int, api.Fault){
		"Wrong": func(l []api.Area, at, n int) ([]api.Area, int, api.Fault) { return nil, 0, Wrong(l) },
		"Find":  func(l []api.Area, at, n int) ([]api.Area, int, api.Fault) { return nil, Find(l, at), api.Fault{} },
		"Room":  func(l []api.Area, at, n int) ([]api.Area, int, api.Fault) { return nil, Room(l, n), api.Fault{} },
		"Map": func(l []api.Area, at, n int) ([]api.Area, int, api.Fault) {
			x, err := Map(l, plain(at, at+n))
			return x, 0, api.Fault{Err: err}
		},
		"Unmap": func(l []api.Area, at, n int) ([]api.Area, int, api.Fault) {
			x, err := Unmap(l, at, n)
			return x, 0, api.Fault{Err: err}
		},
		"Protect": func(l []api.Area, at, n int) ([]api.Area, int, api.Fault) {
			x, err := Protect(l, at, n, true, false)
			return x, 0, api.Fault{Err: err}
		},
	}
}

func TestOnlyReadsAndAnswersNewMemory(t *testing.T) {
	for name, call := range everyCall() {
		for _, start := range rightLists() {
			for _, at := range []int{0, 3, 5, 20, 31, 40, 63, 64} {
				for _, n := range []int{0, 1, 2, 4, 12} {
					l, all := roomy(start)
					before := slices.Clone(all)
					bare, bareNumber, bareFault := call(slices.Clip(slices.Clone(start)), at, n)
					x, number, fault := call(l, at, n)
					if !slices.Equal(x, bare) || number != bareNumber || fault != bareFault {
						t.Errorf("%s looks at spare room: %v, %d, %v", name, x, number, fault)
					}
					if !slices.Equal(all, before) {
						t.Errorf("%s changes what it was handed, or the room behind it", name)
					}
					kept := slices.Clone(x)
					scribble(l)
					if !slices.Equal(x, kept) {
						t.Errorf("%s keeps what it was handed", name)
					}
					l, all = roomy(start)
					x, _, _ = call(l, at, n)
					scribble(x)
					if !slices.Equal(all, before) {
						t.Errorf("%s answers memory that it was handed", name)
					}
				}
			}
		}
	}
}

func TestNilIsEmpty(t *testing.T) {
	for name, call := range everyCall() {
		for _, at := range []int{-1, 0, 7, 63, 64} {
			for n := -1; n <= 65; n++ {
				x, number, fault := call(nil, at, n)
				y, other, second := call([]api.Area{}, at, n)
				if !slices.Equal(x, y) || number != other || fault != second {
					t.Errorf("%s tells nil from empty", name)
				}
			}
		}
	}
}

// use is what a page may be used for, and which page of which file it is.
type use struct {
	read, write, shared bool
	file, index         int
}

// usesOf is l page by page.
func usesOf(l []api.Area) map[int]use {
	of := map[int]use{}
	for _, a := range l {
		for n := a.From; n < a.To; n++ {
			u := use{a.Read, a.Write, a.Shared, a.File, 0}
			if a.File >= 0 {
				u.index = a.Base + n - a.From
			}
			of[n] = u
		}
	}
	return of
}

// countOf is how many areas there must be, so that none goes on with another one.
func countOf(of map[int]use) int {
	count := 0
	for n, u := range of {
		ahead, ok := of[n-1]
		if ahead.file >= 0 {
			ahead.index++
		}
		if !ok || ahead != u {
			count++
		}
	}
	return count
}

func sameUses(a, b map[int]use) bool {
	if len(a) != len(b) {
		return false
	}
	for n, u := range a {
		if v, ok := b[n]; !ok || u != v {
			return false
		}
	}
	return true
}

// stepper changes uses as the chapter says, by a rule of its own.
type stepper struct{ rule int }

func (s *stepper) next(n int) int {
	s.rule = (s.rule*1103515245 + 12345) % (1 << 31)
	return (s.rule >> 8) % n
}

func (s *stepper) area() api.Area {
	from := s.next(68) - 2
	a := api.Area{From: from, To: from + s.next(7), Read: s.next(2) == 0, Write: s.next(3) == 0, File: s.next(3) - 1}
	if a.File >= 0 {
		// Bases that hang on From let many areas of a file go on with each other.
		a.Shared, a.Base = s.next(2) == 0, from%12
	}
	return a
}

// mapped is of with a, and the errno.
func mapped(of map[int]use, a api.Area) (map[int]use, api.Errno) {
	if err := wanted(a); err != api.OK {
		return of, err
	}
	x := usesOf(list(a))
	for n, u := range of {
		if _, ok := x[n]; ok {
			return of, api.ErrName
		}
		x[n] = u
	}
	return limited(of, x)
}

// altered is of when pages at up to at + n are unmapped, or else protected, and the errno.
func altered(of map[int]use, at, n int, unmap, read, write bool) (map[int]use, api.Errno) {
	if at < 0 || n < 1 || at+n > 64 {
		return of, api.ErrRange
	}
	x, gaps := map[int]use{}, n
	for k, u := range of {
		if k >= at && k < at+n {
			gaps--
			if unmap {
				continue
			}
			u.read, u.write = read, write
		}
		x[k] = u
	}
	if !unmap && gaps > 0 {
		return of, api.ErrNone
	}
	return limited(of, x)
}

func limited(of, x map[int]use) (map[int]use, api.Errno) {
	if countOf(x) > 16 {
		return of, api.ErrMany
	}
	return x, api.OK
}

// TestStaysRight goes many steps that a short rule makes, and holds the areas against pages of its own.
func TestStaysRight(t *testing.T) {
	var l []api.Area
	of, s := map[int]use{}, &stepper{4711}
	met := map[api.Errno]int{}
	for step := range 40000 {
		var x []api.Area
		var err, want api.Errno
		at, n, read, write := s.next(68)-2, s.next(6), s.next(2) == 0, s.next(2) == 0
		switch kind := s.next(8); {
		case kind < 5:
			a := s.area()
			x, err = Map(l, a)
			of, want = mapped(of, a)
		case kind == 5:
			x, err = Unmap(l, at, n)
			of, want = altered(of, at, n, true, false, false)
		default:
			x, err = Protect(l, at, n, read, write)
			of, want = altered(of, at, n, false, read, write)
		}
		if err != want || err != api.OK && x != nil {
			t.Fatalf("step %d: %v, errno %d, not %d, of %v", step, x, err, want, l)
		}
		met[err]++
		if err != api.OK {
			continue
		}
		l = x
		if f := Wrong(l); f != (api.Fault{}) || len(l) != countOf(of) || !sameUses(usesOf(l), of) {
			t.Fatalf("step %d: %v, of which %v is wrong, is not %v", step, l, f, of)
		}
	}
	for _, err := range []api.Errno{api.OK, api.ErrRange, api.ErrFit, api.ErrName, api.ErrNone, api.ErrMany} {
		if met[err] < 20 {
			t.Errorf("errno %d came %d times: the steps try too little", err, met[err])
		}
	}
}
