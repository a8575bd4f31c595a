package ring_test

import (
	"math"
	"slices"
	"testing"

	"wastebook/api"
	"wastebook/ring"
)

var noHeads = []int{-1, -api.LogSize, api.LogSize, api.LogSize + 1, math.MinInt, math.MaxInt}
var noUsed = []int{-1, api.LogSize + 1, 2 * api.LogSize, math.MinInt, math.MaxInt}
var noCounts = []int{-1, api.Blocks + 1, 2 * api.Blocks, math.MinInt, math.MaxInt}

// edges are numbers that the words speak of, their neighbours and the ends of all numbers.
var edges = []int{
	math.MinInt, math.MinInt + 1, -api.LogSize - 1, -api.LogSize, -1, 0, 1, 2,
	9, 10, 11, 12, 13, 19, 20, 21, 22, 23, 24, 25, 26, 47, 48, 49, math.MaxInt - 1, math.MaxInt,
}

// goodRings are all of them.
func goodRings() []api.Ring {
	l := []api.Ring{}
	for head := range 24 {
		for used := range 25 {
			l = append(l, api.Ring{Head: head, Used: used})
		}
	}
	return l
}

// wrongRings are some whose Head is wrong, or Used, or both.
func wrongRings() []api.Ring {
	l := []api.Ring{}
	for _, head := range noHeads {
		l = append(l, api.Ring{Head: head}, api.Ring{Head: head, Used: api.LogSize})
		for _, used := range noUsed {
			l = append(l, api.Ring{Head: head, Used: used})
		}
	}
	for _, used := range noUsed {
		l = append(l, api.Ring{Used: used}, api.Ring{Head: api.LogSize - 1, Used: used})
	}
	return l
}

// after is the next place, by walking.
func after(at int) int {
	if at == 23 {
		return 0
	}
	return at + 1
}

// before is the last place, by walking.
func before(at int) int {
	if at == 0 {
		return 23
	}
	return at - 1
}

func TestGood(t *testing.T) {
	for _, r := range goodRings() {
		if !ring.Good(r) {
			t.Errorf("%+v is not good", r)
		}
	}
	for _, r := range wrongRings() {
		if ring.Good(r) {
			t.Errorf("%+v is good", r)
		}
	}
}

func TestFreeAndTailByHand(t *testing.T) {
	for _, c := range []struct {
		r          api.Ring
		free, tail int
	}{
		{api.Ring{}, 24, 0},
		{api.Ring{Head: 0, Used: 1}, 23, 23},
		{api.Ring{Head: 0, Used: 23}, 1, 1},
		{api.Ring{Head: 0, Used: 24}, 0, 0},
		{api.Ring{Head: 5, Used: 3}, 21, 2},
		{api.Ring{Head: 5, Used: 5}, 19, 0},
		{api.Ring{Head: 5, Used: 6}, 18, 23},
		{api.Ring{Head: 5, Used: 24}, 0, 5},
		{api.Ring{Head: 23, Used: 0}, 24, 23},
		{api.Ring{Head: 23, Used: 23}, 1, 0},
		{api.Ring{Head: 23, Used: 24}, 0, 23},
	} {
		if free, tail := ring.Free(c.r), ring.Tail(c.r); free != c.free || tail != c.tail {
			t.Errorf("%+v: Free %d, Tail %d; want %d, %d", c.r, free, tail, c.free, c.tail)
		}
	}
}

func TestFreeAndTailOfAll(t *testing.T) {
	for _, r := range goodRings() {
		tail := r.Head
		for range r.Used {
			tail = before(tail)
		}
		if free := ring.Free(r); free+r.Used != 24 {
			t.Errorf("Free %+v: %d", r, free)
		}
		if at := ring.Tail(r); at != tail {
			t.Errorf("Tail %+v: %d, want %d", r, at, tail)
		}
	}
}

func TestTakeByHand(t *testing.T) {
	for _, c := range []struct {
		r      api.Ring
		n      int
		to     api.Ring
		places []int
	}{
		{api.Ring{}, 0, api.Ring{}, nil},
		{api.Ring{}, 1, api.Ring{Head: 1, Used: 1}, []int{0}},
		{api.Ring{Head: 23}, 1, api.Ring{Head: 0, Used: 1}, []int{23}},
		{api.Ring{Head: 23}, 2, api.Ring{Head: 1, Used: 2}, []int{23, 0}},
		{api.Ring{Head: 21, Used: 7}, 3, api.Ring{Head: 0, Used: 10}, []int{21, 22, 23}},
		{api.Ring{Head: 21, Used: 7}, 5, api.Ring{Head: 2, Used: 12}, []int{21, 22, 23, 0, 1}},
		{api.Ring{Head: 3, Used: 20}, 4, api.Ring{Head: 7, Used: 24}, []int{3, 4, 5, 6}},
		{api.Ring{Head: 9, Used: 24}, 0, api.Ring{Head: 9, Used: 24}, nil},
		{
			api.Ring{Head: 20}, 24, api.Ring{Head: 20, Used: 24},
			[]int{20, 21, 22, 23, 0, 1, 2, 3, 4, 5, 6, 7, 8, 9, 10, 11, 12, 13, 14, 15, 16, 17, 18, 19},
		},
	} {
		to, places, e := ring.Take(c.r, c.n)
		if to != c.to || !slices.Equal(places, c.places) || e != api.OK {
			t.Errorf("Take %+v, %d: %+v, %v, %d; want %+v, %v", c.r, c.n, to, places, e, c.to, c.places)
		}
	}
}

func TestTakeOfAll(t *testing.T) {
	for _, r := range goodRings() {
		at, walked := r.Head, []int{}
		for n := range 24 - r.Used + 1 {
			to, places, e := ring.Take(r, n)
			if want := (api.Ring{Head: at, Used: r.Used + n}); to != want || !slices.Equal(places, walked) || e != api.OK {
				t.Errorf("Take %+v, %d: %+v, %v, %d; want %+v, %v", r, n, to, places, e, want, walked)
			}
			if !ring.Good(to) || ring.Tail(to) != ring.Tail(r) {
				t.Errorf("Take %+v, %d: Tail %d of %+v", r, n, ring.Tail(to), to)
			}
			walked, at = append(walked, at), after(at)
		}
	}
}

func wantTakeError(t *testing.T, r api.Ring, n int, want api.Errno) {
	t.Helper()
	if to, places, e := ring.Take(r, n); to != r || len(places) != 0 || e != want {
		t.Errorf("Take %+v, %d: %+v, %v, %d; want error %d", r, n, to, places, e, want)
	}
}

func TestTakeRefuses(t *testing.T) {
	for _, r := range goodRings() {
		for _, n := range edges {
			if n < 0 {
				wantTakeError(t, r, n, api.ErrRange)
			} else if n > 24-r.Used {
				wantTakeError(t, r, n, api.ErrSpace)
			}
		}
		wantTakeError(t, r, 24-r.Used+1, api.ErrSpace)
	}
	for _, r := range wrongRings() {
		for _, n := range edges {
			wantTakeError(t, r, n, api.ErrRange)
		}
	}
}

func TestPlacesAreTheCallers(t *testing.T) {
	r := api.Ring{Head: 22, Used: 4}
	_, a, _ := ring.Take(r, 3)
	_, b, _ := ring.Take(r, 3)
	for i := range a {
		a[i] = 99
	}
	if want := []int{22, 23, 0}; !slices.Equal(b, want) {
		t.Errorf("%v, want %v", b, want)
	}
}

func TestGiveByHand(t *testing.T) {
	for _, c := range []struct {
		r  api.Ring
		n  int
		to api.Ring
	}{
		{api.Ring{}, 0, api.Ring{}},
		{api.Ring{Head: 23, Used: 1}, 0, api.Ring{Head: 23, Used: 1}},
		{api.Ring{Head: 23, Used: 1}, 1, api.Ring{Head: 23}},
		{api.Ring{Head: 0, Used: 24}, 24, api.Ring{}},
		{api.Ring{Head: 2, Used: 9}, 8, api.Ring{Head: 2, Used: 1}},
	} {
		if to, e := ring.Give(c.r, c.n); to != c.to || e != api.OK {
			t.Errorf("Give %+v, %d: %+v, %d; want %+v", c.r, c.n, to, e, c.to)
		}
	}
}

func TestGiveOfAll(t *testing.T) {
	for _, r := range goodRings() {
		tail := ring.Tail(r)
		for n := range r.Used + 1 {
			to, e := ring.Give(r, n)
			if want := (api.Ring{Head: r.Head, Used: r.Used - n}); to != want || e != api.OK {
				t.Errorf("Give %+v, %d: %+v, %d; want %+v", r, n, to, e, want)
			}
			if !ring.Good(to) || ring.Tail(to) != tail {
				t.Errorf("Give %+v, %d: Tail %d, want %d", r, n, ring.Tail(to), tail)
			}
			tail = after(tail)
		}
	}
}

func wantGiveError(t *testing.T, r api.Ring, n int) {
	t.Helper()
	if to, e := ring.Give(r, n); to != r || e != api.ErrRange {
		t.Errorf("Give %+v, %d: %+v, %d", r, n, to, e)
	}
}

func TestGiveRefuses(t *testing.T) {
	for _, r := range goodRings() {
		for _, n := range edges {
			if n < 0 || n > r.Used {
				wantGiveError(t, r, n)
			}
		}
		wantGiveError(t, r, r.Used+1)
	}
	for _, r := range wrongRings() {
		for _, n := range edges {
			wantGiveError(t, r, n)
		}
	}
}

// What was taken comes round: the places go on where they ended, whatever is given back in between.
func TestRoundAndRound(t *testing.T) {
	for n := 1; n <= 24; n++ {
		r, at := api.Ring{Head: n % 24}, n%24
		for range 50 {
			to, places, e := ring.Take(r, n)
			for _, p := range places {
				if p != at {
					t.Fatalf("Take %+v, %d: %v, want %d there", r, n, places, at)
				}
				at = after(at)
			}
			if e != api.OK || len(places) != n {
				t.Fatalf("Take %+v, %d: %v, %d", r, n, places, e)
			}
			if r, e = ring.Give(to, n); e != api.OK || (r != api.Ring{Head: at}) {
				t.Fatalf("Give %+v, %d: %+v, %d", to, n, r, e)
			}
		}
	}
}

// bunches counts how often a new one is begun when things are laid down one by one, so many in each.
func bunches(n, size int) int {
	begun, left := 0, 0
	for range n {
		if left == 0 {
			begun, left = begun+1, size
		}
		left--
	}
	return begun
}

func TestNeedByHand(t *testing.T) {
	for _, c := range [][3]int{
		{0, 0, 1}, {1, 0, 3}, {0, 1, 2}, {1, 1, 4}, {2, 0, 4}, {0, 12, 2},
		{9, 0, 11}, {10, 0, 12}, {11, 0, 14}, {12, 0, 15}, {10, 12, 13}, {11, 12, 15}, {12, 1, 16}, {12, 12, 16},
	} {
		if n, e := ring.Need(c[0], c[1]); n != c[2] || e != api.OK {
			t.Errorf("Need %d, %d: %d, %d; want %d", c[0], c[1], n, e, c[2])
		}
	}
}

func TestNeedOfAll(t *testing.T) {
	for meta := range 13 {
		for revoked := range 13 {
			want := bunches(revoked, 20) + bunches(meta, 10) + meta + 1
			if n, e := ring.Need(meta, revoked); n != want || e != api.OK {
				t.Errorf("Need %d, %d: %d, %d; want %d", meta, revoked, n, e, want)
			}
		}
	}
}

func TestNeedRefuses(t *testing.T) {
	for _, wrong := range noCounts {
		for _, other := range append([]int{0, 1, api.Blocks}, noCounts...) {
			if n, e := ring.Need(wrong, other); n != 0 || e != api.ErrRange {
				t.Errorf("Need %d, %d: %d, %d", wrong, other, n, e)
			}
			if n, e := ring.Need(other, wrong); n != 0 || e != api.ErrRange {
				t.Errorf("Need %d, %d: %d, %d", other, wrong, n, e)
			}
		}
	}
}

func TestMostByHand(t *testing.T) {
	for _, c := range [][2]int{
		{0, 1}, {1, 4}, {2, 5}, {9, 12}, {10, 13}, {11, 15}, {12, 16},
		{19, 23}, {20, 24}, {21, 27}, {22, 28}, {23, 29}, {24, 30},
		{-1, 1}, {-24, 1}, {math.MinInt, 1}, {25, 30}, {31, 30}, {48, 30}, {math.MaxInt, 30},
	} {
		if n := ring.Most(c[0]); n != c[1] {
			t.Errorf("Most %d: %d, want %d", c[0], n, c[1])
		}
	}
}

func TestMostOfAll(t *testing.T) {
	for n := range 25 {
		if most, want := ring.Most(n), n+bunches(n, 10)+bunches(n, 20)+1; most != want {
			t.Errorf("Most %d: %d, want %d", n, most, want)
		}
	}
}

func TestNeedIsNoMoreThanMost(t *testing.T) {
	for meta := range 13 {
		for revoked := range 13 {
			if n, _ := ring.Need(meta, revoked); n > ring.Most(meta+revoked) {
				t.Errorf("Need %d, %d: %d, more than %d", meta, revoked, n, ring.Most(meta+revoked))
			}
		}
	}
}

func TestNoPanic(t *testing.T) {
	for _, head := range edges {
		for _, used := range edges {
			r := api.Ring{Head: head, Used: used}
			ring.Good(r)
			ring.Free(r)
			ring.Tail(r)
			for _, n := range edges {
				ring.Take(r, n)
				ring.Give(r, n)
			}
			ring.Need(head, used)
		}
		ring.Most(head)
	}
}
