package slots

import (
	"math"
	"slices"
	"testing"

	"pagewright/api"
)

// many is n slots, each of them held so often.
func many(n, holds int) api.Slots {
	var s api.Slots
	for range n {
		s = append(s, holds)
	}
	return s
}

type wrongCase struct {
	name string
	s    api.Slots
	want api.Errno
}

// wrongSlots are slots that all but Free refuse, and with which errno.
func wrongSlots() []wrongCase {
	return []wrongCase{
		{"61 free ones", many(61, 0), api.ErrMany},
		{"61 held ones", many(61, 1000), api.ErrMany},
		{"600 free ones", many(600, 0), api.ErrMany},
		{"61 wrong ones", many(61, -1), api.ErrMany},
		{"one of -1", api.Slots{-1}, api.ErrRange},
		{"one of 1001", api.Slots{1001}, api.ErrRange},
		{"least number", api.Slots{math.MinInt}, api.ErrRange},
		{"greatest number", api.Slots{math.MaxInt}, api.ErrRange},
		{"-1, behind a free one", api.Slots{0, -1}, api.ErrRange},
		{"1001, ahead of a free one", api.Slots{1001, 0}, api.ErrRange},
		{"-1 in the middle", api.Slots{3, 0, -1, 7}, api.ErrRange},
		{"the last of 60 is 1001", append(many(59, 0), 1001), api.ErrRange},
		{"the last of 60 is -1", append(many(59, 1), -1), api.ErrRange},
	}
}

func rightSlots() []api.Slots {
	return []api.Slots{
		nil, {}, {0}, {1}, {1000}, {0, 0, 0}, {0, 1000, 1}, {2, 0, 999}, {5, 6, 0, 7, 0},
		many(60, 0), many(60, 1000), append(many(59, 1), 0),
	}
}

// Promise D1.

func TestNew(t *testing.T) {
	for _, n := range []int{0, 1, 2, 3, 59, 60} {
		s, err := New(n)
		if err != api.OK || !slices.Equal(s, many(n, 0)) {
			t.Errorf("New(%d) is %v, errno %d", n, s, err)
		}
		if Wrong(s) != api.OK || Free(s) != n {
			t.Errorf("of New(%d) %d are free; Wrong is %d", n, Free(s), Wrong(s))
		}
	}
	for _, n := range []int{-1, 61, 1000, math.MinInt, math.MaxInt} {
		if s, err := New(n); err != api.ErrMany || s != nil {
			t.Errorf("New(%d) is %v, errno %d", n, s, err)
		}
	}
}

func TestWrong(t *testing.T) {
	for _, s := range rightSlots() {
		if err := Wrong(s); err != api.OK {
			t.Errorf("Wrong of %v is %d", s, err)
		}
	}
	for _, c := range wrongSlots() {
		if err := Wrong(c.s); err != c.want {
			t.Errorf("%s: Wrong is %d, not %d", c.name, err, c.want)
		}
	}
}

func TestFree(t *testing.T) {
	for _, c := range []struct {
		s    api.Slots
		want int
	}{
		{nil, 0}, {api.Slots{0}, 1}, {api.Slots{1}, 0}, {api.Slots{0, 1, 0, 1000}, 2}, {many(60, 0), 60}, {many(60, 1), 0},
		// Free answers no error: of wrong slots too it counts noughts.
		{many(61, 0), 61}, {api.Slots{-1, 0, 1001, math.MinInt}, 1},
	} {
		if got := Free(c.s); got != c.want {
			t.Errorf("of %v %d are free, not %d", c.s, got, c.want)
		}
	}
}

// everyCall is each call that Wrong stands ahead of, with numbers.
func everyCall() map[string]func(s api.Slots, a, b int) (api.Slots, int, api.Errno) {
	return map[string]func(s api.Slots, a, b int) (api.Slots, int, api.Errno){
		"Take": func(s api.Slots, a, b int) (api.Slots, int, api.Errno) { return Take(s, b) },
		"Hold": func(s api.Slots, a, b int) (api.Slots, int, api.Errno) {
			x, err := Hold(s, a, b)
			return x, 0, err
		},
	}
}

func TestWrongSlotsAreRefused(t *testing.T) {
	for _, c := range wrongSlots() {
		for name, call := range everyCall() {
			// The slots' error comes ahead of the numbers'.
			for _, n := range [][2]int{{0, 0}, {0, 1}, {1, 1}, {-1, 1}, {61, -1}, {0, 1001}, {math.MinInt, math.MaxInt}} {
				if x, k, err := call(c.s, n[0], n[1]); err != c.want || k != 0 || x != nil {
					t.Errorf("%s: %s of %v answers %v, %d and errno %d, not %d", c.name, name, n, x, k, err, c.want)
				}
			}
		}
	}
}

func TestTake(t *testing.T) {
	for _, c := range []struct {
		s    api.Slots
		n, k int
		want api.Slots
	}{
		{api.Slots{0}, 1, 0, api.Slots{1}},
		{api.Slots{0}, 1000, 0, api.Slots{1000}},
		{api.Slots{0, 0, 0}, 7, 0, api.Slots{7, 0, 0}},
		{api.Slots{3, 0, 0}, 2, 1, api.Slots{3, 2, 0}},
		{api.Slots{2, 4, 1000, 0}, 999, 3, api.Slots{2, 4, 1000, 999}},
		{append(many(59, 1), 0), 5, 59, append(many(59, 1), 5)},
	} {
		x, k, err := Take(c.s, c.n)
		if err != api.OK || k != c.k || !slices.Equal(x, c.want) {
			t.Errorf("Take(%v, %d) is %v, slot %d, errno %d; not %v, slot %d", c.s, c.n, x, k, err, c.want, c.k)
		}
	}
}

func TestTakeRefuses(t *testing.T) {
	for _, c := range []struct {
		s    api.Slots
		n    int
		want api.Errno
	}{
		{api.Slots{0}, 0, api.ErrRange}, {api.Slots{0}, -1, api.ErrRange}, {api.Slots{0}, 1001, api.ErrRange},
		{api.Slots{0}, math.MinInt, api.ErrRange}, {api.Slots{0}, math.MaxInt, api.ErrRange},
		{nil, 1, api.ErrFull}, {api.Slots{1}, 1, api.ErrFull}, {api.Slots{1000, 2}, 1000, api.ErrFull}, {many(60, 1), 1, api.ErrFull},
		// The number's error comes ahead of there being no room.
		{nil, 0, api.ErrRange}, {api.Slots{1}, 1001, api.ErrRange}, {many(60, 1), -1, api.ErrRange},
	} {
		if x, k, err := Take(c.s, c.n); err != c.want || k != 0 || x != nil {
			t.Errorf("Take(%v, %d) is %v, slot %d, errno %d; not %d", c.s, c.n, x, k, err, c.want)
		}
	}
}

func TestHold(t *testing.T) {
	for _, n := range []int{0, 1, -1, 2, 599, 600, -399, -400} {
		want := api.Slots{1, 400 + n, 0}
		if x, err := Hold(api.Slots{1, 400, 0}, 1, n); err != api.OK || !slices.Equal(x, want) {
			t.Errorf("Hold of %d more is %v, errno %d; not %v", n, x, err, want)
		}
	}
	for _, c := range []struct {
		s    api.Slots
		k, n int
		want api.Slots
	}{
		{api.Slots{1}, 0, -1, api.Slots{0}},
		{api.Slots{1}, 0, 999, api.Slots{1000}},
		{api.Slots{1000}, 0, -1000, api.Slots{0}},
		{api.Slots{1000}, 0, 0, api.Slots{1000}},
		{many(60, 1), 59, 3, append(many(59, 1), 4)},
	} {
		if x, err := Hold(c.s, c.k, c.n); err != api.OK || !slices.Equal(x, c.want) {
			t.Errorf("Hold(%v, %d, %d) is %v, errno %d; not %v", c.s, c.k, c.n, x, err, c.want)
		}
	}
}

func TestHoldRefuses(t *testing.T) {
	s := api.Slots{1, 0, 1000}
	for _, c := range []struct {
		k, n int
		want api.Errno
	}{
		{-1, 1, api.ErrNone}, {3, 1, api.ErrNone}, {math.MinInt, 0, api.ErrNone}, {math.MaxInt, 0, api.ErrNone},
		{1, 1, api.ErrNone}, {1, 0, api.ErrNone}, {1, -1, api.ErrNone},
		// That there is none comes ahead of the number.
		{1, 1001, api.ErrNone}, {1, math.MinInt, api.ErrNone}, {3, 1001, api.ErrNone}, {-1, math.MaxInt, api.ErrNone},
		{0, 1000, api.ErrRange}, {0, -2, api.ErrRange}, {2, 1, api.ErrRange}, {2, -1001, api.ErrRange},
		{0, math.MaxInt, api.ErrRange}, {0, math.MinInt, api.ErrRange}, {2, math.MaxInt, api.ErrRange}, {2, math.MinInt, api.ErrRange},
	} {
		if x, err := Hold(s, c.k, c.n); err != c.want || x != nil {
			t.Errorf("Hold(%v, %d, %d) is %v, errno %d; not %d", s, c.k, c.n, x, err, c.want)
		}
	}
	if x, err := Hold(nil, 0, 1); err != api.ErrNone || x != nil {
		t.Errorf("Hold of nothing is %v, errno %d", x, err)
	}
}

func TestExampleOfTheDocument(t *testing.T) {
	s, _ := New(1)
	s, k, err := Take(s, 3)
	if err != api.OK || k != 0 || Free(s) != 0 {
		t.Errorf("slot %d is taken, errno %d; of %v %d are free", k, err, s, Free(s))
	}
	if s, err = Hold(s, k, -3); err != api.OK || Free(s) != 1 {
		t.Errorf("held three times less, errno %d, of %v %d are free", err, s, Free(s))
	}
	if _, k, err = Take(s, 1); err != api.OK || k != 0 {
		t.Errorf("the slot, free again, is not taken again: %d, errno %d", k, err)
	}
}

// What holds everywhere.

// roomy is s with spare room behind it, and that room whole.
func roomy(s api.Slots) (api.Slots, api.Slots) {
	all := append(slices.Clone(s), 0, 2, -1)
	return all[:len(s)], all
}

// scribble writes over all of s, its spare room too.
func scribble(s api.Slots) {
	room := s[:cap(s)]
	for i := range room {
		room[i] = -9
	}
}

func TestOnlyReadsAndAnswersNewMemory(t *testing.T) {
	calls := everyCall()
	calls["Wrong"] = func(s api.Slots, a, b int) (api.Slots, int, api.Errno) { return nil, 0, Wrong(s) }
	calls["Free"] = func(s api.Slots, a, b int) (api.Slots, int, api.Errno) { return nil, Free(s), api.OK }
	for name, call := range calls {
		for _, start := range rightSlots() {
			for _, n := range []int{0, 1, -1} {
				s, all := roomy(start)
				before := slices.Clone(all)
				plain, plainK, plainErr := call(start, 0, n)
				x, k, err := call(s, 0, n)
				if !slices.Equal(x, plain) || k != plainK || err != plainErr {
					t.Errorf("%s looks at spare room: %v, %d, %d; not %v, %d, %d", name, x, k, err, plain, plainK, plainErr)
				}
				if !slices.Equal(all, before) {
					t.Errorf("%s changes what it was handed, or the room behind it", name)
				}
				kept := slices.Clone(x)
				scribble(s)
				if !slices.Equal(x, kept) {
					t.Errorf("%s keeps what it was handed", name)
				}
				s, all = roomy(start)
				x, _, _ = call(s, 0, n)
				scribble(x)
				if !slices.Equal(all, before) {
					t.Errorf("%s answers memory that it was handed", name)
				}
			}
		}
	}
}

func TestNilIsEmpty(t *testing.T) {
	for name, call := range everyCall() {
		for n := -1; n <= 1; n++ {
			a, ka, errA := call(nil, 0, n)
			b, kb, errB := call(api.Slots{}, 0, n)
			if errA != errB || ka != kb || !slices.Equal(a, b) {
				t.Errorf("%s tells nil from empty: %v, %d, %d; %v, %d, %d", name, a, ka, errA, b, kb, errB)
			}
		}
	}
}

// TestStaysRight goes many steps that a short rule makes, and holds the slots against a list of its own.
func TestStaysRight(t *testing.T) {
	s, _ := New(6)
	var mine [6]int
	rule := 4711
	for step := range 5000 {
		rule = (rule*1103515245 + 12345) % (1 << 31)
		a, b := (rule>>8)%8-1, (rule>>12)%9-4
		if (rule>>18)%3 == 0 {
			want := slices.Index(mine[:], 0)
			x, k, err := Take(s, b)
			if (err == api.OK) != (b >= 1 && want >= 0) || err == api.OK && k != want {
				t.Fatalf("step %d: Take(%v, %d) is slot %d, errno %d", step, s, b, k, err)
			}
			if err == api.OK {
				s, mine[k] = x, b
			}
		} else {
			fits := a >= 0 && a < 6 && mine[a] > 0 && mine[a]+b >= 0 && mine[a]+b <= 1000
			x, err := Hold(s, a, b)
			if (err == api.OK) != fits {
				t.Fatalf("step %d: Hold(%v, %d, %d) is errno %d", step, s, a, b, err)
			}
			if fits {
				s, mine[a] = x, mine[a]+b
			}
		}
		if Wrong(s) != api.OK || !slices.Equal(s, mine[:]) {
			t.Fatalf("step %d: %v comes, not %v; Wrong is %d", step, s, mine, Wrong(s))
		}
	}
}
