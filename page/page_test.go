package page

import (
	"bytes"
	"math"
	"testing"

	"pagewright/api"
)

var full = api.Page{1, 2, 3, 4, 5, 6, 7, 8}

// edges are the places at which a sum, a rest or a bound goes wrong first.
var edges = []int{
	math.MinInt, math.MinInt + 1, math.MinInt + 8, -9, -8, -7, -1,
	0, 1, 2, 7, 8, 9, 15, 16, 17,
	math.MaxInt - 8, math.MaxInt - 7, math.MaxInt - 6, math.MaxInt - 1, math.MaxInt,
}

func TestWithin(t *testing.T) {
	for _, c := range []struct {
		at, n int
		want  bool
	}{
		{0, 0, true}, {0, 1, true}, {0, 8, true}, {0, 9, false},
		{1, 7, true}, {1, 8, false}, {7, 1, true}, {7, 2, false},
		{7, 0, true}, {8, 0, true}, {8, 8, true}, {8, 9, false},
		{12, 4, true}, {12, 5, false}, {800, 8, true}, {801, 8, false},
		{-1, 0, false}, {-1, 1, false}, {-8, 8, false}, {0, -1, false}, {3, -1, false}, {-1, -1, false},
		{math.MaxInt, 0, true}, {math.MaxInt, 1, true}, {math.MaxInt, 2, false},
		{math.MaxInt - 7, 8, true}, {math.MaxInt - 7, 9, false}, {math.MaxInt - 6, 8, false},
		{0, math.MaxInt, false}, {7, math.MaxInt, false}, {math.MaxInt, math.MaxInt, false},
		{math.MinInt, 0, false}, {math.MinInt, 8, false}, {0, math.MinInt, false}, {math.MinInt, math.MinInt, false},
	} {
		if got := Within(c.at, c.n); got != c.want {
			t.Errorf("Within(%d, %d) is %v, not %v", c.at, c.n, got, c.want)
		}
	}
}

// TestWithinByPages asks byte by byte, as the promise has it: all n of them are in the page of the first one.
func TestWithinByPages(t *testing.T) {
	for at := range 40 {
		for n := range 20 {
			want := n == 0 || at/api.PageSize == (at+n-1)/api.PageSize
			if got := Within(at, n); got != want {
				t.Errorf("Within(%d, %d) is %v, not %v", at, n, got, want)
			}
		}
	}
}

func TestGet(t *testing.T) {
	for _, c := range []struct {
		at, n int
		want  []byte
	}{
		{0, 8, []byte{1, 2, 3, 4, 5, 6, 7, 8}}, {0, 1, []byte{1}}, {2, 2, []byte{3, 4}},
		{7, 1, []byte{8}}, {5, 3, []byte{6, 7, 8}},
		{0, 0, nil}, {7, 0, nil}, {8, 0, nil}, {9, 0, nil},
		{0, 9, nil}, {1, 8, nil}, {7, 2, nil}, {8, 1, nil}, {9, 1, nil},
		{-1, 0, nil}, {-1, 1, nil}, {-1, 2, nil}, {0, -1, nil}, {8, -1, nil}, {9, -1, nil},
	} {
		if got := Get(full, c.at, c.n); !bytes.Equal(got, c.want) {
			t.Errorf("Get(p, %d, %d) is %v, not %v", c.at, c.n, got, c.want)
		}
	}
}

func TestGetIsNewMemory(t *testing.T) {
	p := full
	one, two := Get(p, 0, 8), Get(p, 0, 8)
	one[3] = 99
	if p != full || two[3] != 4 {
		t.Errorf("writing what was got changes %v or %v", p, two)
	}
	part := Get(p, 2, 3)
	_ = append(part, 77)
	if p != full {
		t.Errorf("appending to what was got changes %v", p)
	}
}

func TestSet(t *testing.T) {
	for _, c := range []struct {
		at   int
		b    []byte
		want api.Page
	}{
		{0, []byte{9}, api.Page{9, 2, 3, 4, 5, 6, 7, 8}},
		{2, []byte{7, 8}, api.Page{1, 2, 7, 8, 5, 6, 7, 8}},
		{7, []byte{9}, api.Page{1, 2, 3, 4, 5, 6, 7, 9}},
		{0, []byte{8, 7, 6, 5, 4, 3, 2, 1}, api.Page{8, 7, 6, 5, 4, 3, 2, 1}},
		{0, []byte{8, 7, 6, 5, 4, 3, 2, 1, 99}, api.Page{8, 7, 6, 5, 4, 3, 2, 1}},
		{6, []byte{9, 10, 11}, api.Page{1, 2, 3, 4, 5, 6, 9, 10}},
		{7, []byte{0, 10, 11}, api.Page{1, 2, 3, 4, 5, 6, 7, 0}},
		{3, nil, full}, {3, []byte{}, full},
		{8, []byte{9}, full}, {9, []byte{9}, full}, {16, []byte{9}, full},
		{-1, []byte{9, 10, 11}, full}, {-8, make([]byte, 20), full},
		{-1, nil, full}, {8, nil, full},
	} {
		if got := Set(full, c.at, c.b); got != c.want {
			t.Errorf("Set(p, %d, %v) is %v, not %v", c.at, c.b, got, c.want)
		}
	}
}

func TestSetOnlyReads(t *testing.T) {
	p := full
	room := []byte{10, 11, 12, 13, 14}
	got := Set(p, 1, room[:2])
	if want := (api.Page{1, 10, 11, 4, 5, 6, 7, 8}); got != want {
		t.Errorf("Set looks at spare room: %v comes, not %v", got, want)
	}
	if p != full || !bytes.Equal(room, []byte{10, 11, 12, 13, 14}) {
		t.Errorf("Set changes what it was handed: %v, %v", p, room)
	}
	room[0] = 99
	if got[1] != 10 {
		t.Errorf("Set keeps what it was handed: %v", got)
	}
}

func TestWhatIsSetIsGot(t *testing.T) {
	if got := Get(Set(api.Page{}, 2, []byte{7, 8}), 2, 2); !bytes.Equal(got, []byte{7, 8}) {
		t.Errorf("7 and 8, set to bytes 2 and 3, are got as %v", got)
	}
	for at := range api.PageSize {
		for n := 0; at+n <= api.PageSize; n++ {
			b := bytes.Repeat([]byte{200}, n)
			p := Set(full, at, b)
			if got := Get(p, at, n); !bytes.Equal(got, b) {
				t.Errorf("%v, set at %d, is got as %v", b, at, got)
			}
			ahead, behind := Get(p, 0, at), Get(p, at+n, api.PageSize-at-n)
			if !bytes.Equal(ahead, full[:at]) || !bytes.Equal(behind, full[at+n:]) {
				t.Errorf("%v, set at %d, changes bytes beside it: %v", b, at, p)
			}
		}
	}
}

func TestCut(t *testing.T) {
	for _, c := range []struct {
		at   int
		want api.Page
	}{
		{math.MinInt, api.Page{}}, {-9, api.Page{}}, {-1, api.Page{}}, {0, api.Page{}},
		{1, api.Page{1}}, {4, api.Page{1, 2, 3, 4}}, {7, api.Page{1, 2, 3, 4, 5, 6, 7}},
		{8, full}, {9, full}, {16, full}, {math.MaxInt, full},
	} {
		p := full
		if got := Cut(p, c.at); got != c.want {
			t.Errorf("Cut(p, %d) is %v, not %v", c.at, got, c.want)
		}
		if p != full {
			t.Errorf("Cut(p, %d) changes p: %v", c.at, p)
		}
	}
}

func TestCount(t *testing.T) {
	for _, c := range []struct{ n, want int }{
		{math.MinInt, 0}, {-9, 0}, {-8, 0}, {-1, 0}, {0, 0},
		{1, 1}, {7, 1}, {8, 1}, {9, 2}, {16, 2}, {17, 3}, {96, 12}, {97, 13},
		{1 << 40, 1 << 37},
		{math.MaxInt - 7, math.MaxInt / 8}, {math.MaxInt - 6, math.MaxInt/8 + 1}, {math.MaxInt, math.MaxInt/8 + 1},
	} {
		if got := Count(c.n); got != c.want {
			t.Errorf("Count(%d) is %d, not %d", c.n, got, c.want)
		}
	}
}

// TestEdges asks for every pair of edges: none may panic, and none that is no byte of a page may be one.
func TestEdges(t *testing.T) {
	for _, at := range edges {
		isByte := at >= 0 && at < api.PageSize
		if got := Set(full, at, []byte{99}); (got == full) == isByte {
			t.Errorf("Set(p, %d, 99) is %v", at, got)
		}
		Cut(full, at)
		Count(at)
		for _, n := range edges {
			Within(at, n)
			inside := isByte && n >= 1 && n <= api.PageSize && at+n <= api.PageSize
			if got := Get(full, at, n); (len(got) > 0) != inside {
				t.Errorf("Get(p, %d, %d) is %v", at, n, got)
			}
		}
	}
}
