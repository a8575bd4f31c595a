package txn_test

import (
	"fmt"
	"math"
	"slices"
	"strings"
	"testing"

	"wastebook/api"
	"wastebook/ring"
	"wastebook/txn"
)

var noSeqs = []int{0, -1, api.MaxSeq + 1, math.MinInt, math.MaxInt}
var noHandles = []int{-1, api.Handles, api.Handles + 1, math.MinInt, math.MaxInt}
var noBlocks = []int{-1, api.Blocks, api.Blocks + 1, math.MinInt, math.MaxInt}
var noTexts = []string{"", "a", text("a")[1:], text("a") + "\x00", text("a") + text("b")}

// text is a block's.
func text(s string) string { return s + strings.Repeat("\x00", 32-len(s)) }

// copies are of these blocks, each with a text of its own.
func copies(blocks ...int) []api.Copy {
	l := []api.Copy{}
	for _, b := range blocks {
		l = append(l, api.Copy{Block: b, Text: text(fmt.Sprint("c", b))})
	}
	return l
}

func upTo(n int) []int {
	l := []int{}
	for i := range n {
		l = append(l, i)
	}
	return l
}

// like takes lists without elements for the same, be they nil or not.
func like(a, b api.Txn) bool {
	return a.Seq == b.Seq && slices.Equal(a.Meta, b.Meta) && slices.Equal(a.Data, b.Data) &&
		slices.Equal(a.Revoked, b.Revoked) && a.Handles == b.Handles
}

func clone(x api.Txn) api.Txn {
	x.Meta, x.Data, x.Revoked = slices.Clone(x.Meta), slices.Clone(x.Data), slices.Clone(x.Revoked)
	return x
}

// mixed has something of all, and a handle of each sort.
func mixed() api.Txn {
	return api.Txn{
		Seq: 7, Meta: copies(0, 4, 9), Data: copies(2, 11), Revoked: []int{1, 5, 8},
		Handles: [3]api.Handle{{On: true, Left: 2}, {}, {On: true}},
	}
}

// call is one of what answers a transaction and an error.
type call struct {
	what string
	do   func(api.Txn) (api.Txn, api.Errno)
}

func begin(h, n, free int) call {
	return call{fmt.Sprintf("Begin %d, %d, %d", h, n, free), func(x api.Txn) (api.Txn, api.Errno) { return txn.Begin(x, h, n, free) }}
}

func stop(h int) call {
	return call{fmt.Sprintf("Stop %d", h), func(x api.Txn) (api.Txn, api.Errno) { return txn.Stop(x, h) }}
}

func change(h, b int, s string) call {
	return call{fmt.Sprintf("Change %d, %d, %q", h, b, s), func(x api.Txn) (api.Txn, api.Errno) { return txn.Change(x, h, b, s) }}
}

func fill(h, b int, s string) call {
	return call{fmt.Sprintf("Fill %d, %d, %q", h, b, s), func(x api.Txn) (api.Txn, api.Errno) { return txn.Fill(x, h, b, s) }}
}

func revoke(h, b int) call {
	return call{fmt.Sprintf("Revoke %d, %d", h, b), func(x api.Txn) (api.Txn, api.Errno) { return txn.Revoke(x, h, b) }}
}

// want asks for an answer, and that what was handed in is as it was.
func want(t *testing.T, x api.Txn, c call, to api.Txn, e api.Errno) {
	t.Helper()
	was := clone(x)
	got, gotE := c.do(x)
	if !like(got, to) || gotE != e {
		t.Errorf("%s of %+v: %+v, %d; want %+v, %d", c.what, was, got, gotE, to, e)
	}
	if !like(x, was) {
		t.Errorf("%s of %+v: that is now %+v", c.what, was, x)
	}
}

func wantRefused(t *testing.T, x api.Txn, c call, e api.Errno) {
	t.Helper()
	want(t, x, c, clone(x), e)
}

// badTxns are mixed ones, each with one thing that is wrong.
func badTxns() map[string]api.Txn {
	bad := map[string]api.Txn{}
	spoil := func(what string, f func(x *api.Txn)) {
		x := mixed()
		f(&x)
		bad[what] = x
	}
	for _, n := range noSeqs {
		spoil(fmt.Sprintf("Seq %d", n), func(x *api.Txn) { x.Seq = n })
	}
	for _, l := range wrongLists() {
		spoil(fmt.Sprint("Meta of ", l), func(x *api.Txn) { x.Meta, x.Data, x.Revoked = copies(l...), nil, nil })
		spoil(fmt.Sprint("Data of ", l), func(x *api.Txn) { x.Meta, x.Data, x.Revoked = nil, copies(l...), nil })
		spoil(fmt.Sprint("Revoked of ", l), func(x *api.Txn) { x.Meta, x.Data, x.Revoked = nil, nil, l })
	}
	for _, s := range noTexts {
		for i := range 3 {
			spoil(fmt.Sprintf("text %q of Meta %d", s, i), func(x *api.Txn) { x.Meta[i].Text = s })
		}
		for i := range 2 {
			spoil(fmt.Sprintf("text %q of Data %d", s, i), func(x *api.Txn) { x.Data[i].Text = s })
		}
	}
	for _, b := range []int{0, 4, 9} {
		spoil(fmt.Sprintf("%d in Meta and Data", b), func(x *api.Txn) { x.Data = copies(b) })
		spoil(fmt.Sprintf("%d in Meta and Revoked", b), func(x *api.Txn) { x.Revoked = []int{b} })
	}
	for _, b := range []int{2, 11} {
		spoil(fmt.Sprintf("%d in Data and Revoked", b), func(x *api.Txn) { x.Revoked = []int{b} })
	}
	for i := range 3 {
		for _, left := range []int{-1, 25, 26, math.MinInt, math.MaxInt} {
			spoil(fmt.Sprintf("handle %d On with %d", i, left), func(x *api.Txn) { x.Handles[i] = api.Handle{On: true, Left: left} })
		}
		for _, left := range []int{-1, 1, 24, 25, math.MinInt, math.MaxInt} {
			spoil(fmt.Sprintf("handle %d not On with %d", i, left), func(x *api.Txn) { x.Handles[i] = api.Handle{Left: left} })
		}
	}
	return bad
}

// wrongLists are of numbers that are no blocks, or do not rise.
func wrongLists() [][]int {
	l := [][]int{{0, 0}, {11, 11}, {1, 0}, {0, 2, 1}, {3, 5, 5}, {5, 5, 7}, {0, 11, 10}, upTo(13), append(upTo(12), 11)}
	for _, b := range noBlocks {
		l = append(l, []int{b}, []int{b, 3}, []int{3, b}, []int{3, b, 7})
	}
	return l
}

func TestGood(t *testing.T) {
	for _, x := range []api.Txn{
		{Seq: 1},
		{Seq: 2},
		{Seq: api.MaxSeq},
		{Seq: 1, Meta: []api.Copy{}, Data: []api.Copy{}, Revoked: []int{}},
		{Seq: 1, Meta: copies(0), Data: copies(11)},
		{Seq: 1, Data: copies(0), Revoked: []int{11}},
		{Seq: 1, Meta: copies(11), Revoked: []int{0}},
		{Seq: 1, Meta: copies(upTo(12)...)},
		{Seq: 1, Data: copies(upTo(12)...)},
		{Seq: 1, Revoked: upTo(12)},
		{Seq: 1, Meta: []api.Copy{{Block: 1, Text: text("")}, {Block: 2, Text: text("")}}, Data: []api.Copy{{Block: 0, Text: text("")}}},
		{Seq: 1, Handles: [3]api.Handle{{On: true}, {On: true, Left: 24}, {On: true, Left: 1}}},
		{Seq: 1, Handles: [3]api.Handle{{On: true, Left: 24}, {On: true, Left: 24}, {On: true, Left: 24}}},
		{Seq: 1, Meta: copies(upTo(12)...), Handles: [3]api.Handle{2: {On: true, Left: 24}}},
		mixed(),
	} {
		if !txn.Good(x) {
			t.Errorf("%+v is not good", x)
		}
	}
	for what, x := range badTxns() {
		if txn.Good(x) {
			t.Errorf("%s: %+v is good", what, x)
		}
	}
	if txn.Good(api.Txn{}) {
		t.Error("that of noughts is good")
	}
}

// rising holds each against each, where the package goes along.
func rising(l []int) bool {
	for i := range l {
		for j := range l {
			if l[i] < 0 || l[i] > 11 || i < j && l[i] >= l[j] {
				return false
			}
		}
	}
	return true
}

func TestGoodOfShortLists(t *testing.T) {
	lists, numbers := [][]int{{}}, []int{-1, 0, 1, 6, 11, 12}
	for n := 0; n < len(lists); n++ {
		if l := lists[n]; len(l) < 3 {
			for _, b := range numbers {
				lists = append(lists, append(slices.Clone(l), b))
			}
		}
	}
	for _, l := range lists {
		for what, x := range map[string]api.Txn{"Meta": {Seq: 1, Meta: copies(l...)}, "Data": {Seq: 1, Data: copies(l...)}, "Revoked": {Seq: 1, Revoked: l}} {
			if txn.Good(x) != rising(l) {
				t.Errorf("%s of %v: %v", what, l, txn.Good(x))
			}
		}
	}
}

func chosen(bits int) []int {
	l := []int{}
	for i, b := range []int{0, 1, 6, 11} {
		if bits>>i&1 == 1 {
			l = append(l, b)
		}
	}
	return l
}

func TestNoBlockIsTwoThings(t *testing.T) {
	for meta := range 16 {
		for data := range 16 {
			for revoked := range 16 {
				x := api.Txn{Seq: 1, Meta: copies(chosen(meta)...), Data: copies(chosen(data)...), Revoked: chosen(revoked)}
				if apart := meta&data|meta&revoked|data&revoked == 0; txn.Good(x) != apart {
					t.Errorf("%+v: %v", x, !apart)
				}
			}
		}
	}
}

func TestGet(t *testing.T) {
	l := []api.Copy{{Block: 4, Text: "x"}, {Block: 2, Text: ""}, {Block: 4, Text: "y"}, {Block: 99, Text: "z"}, {Block: 2, Text: "w"}, {Block: -1, Text: "v"}, {Block: 0, Text: text("u")}}
	for _, c := range []struct {
		l  []api.Copy
		b  int
		s  string
		ok bool
	}{
		{l, 4, "x", true}, {l, 2, "", true}, {l, 99, "z", true}, {l, -1, "v", true}, {l, 0, text("u"), true},
		{l, 3, "", false}, {l, 98, "", false}, {l, math.MinInt, "", false}, {l, math.MaxInt, "", false},
		{nil, 0, "", false}, {[]api.Copy{}, 0, "", false}, {l[:0], 4, "", false}, {l[1:], 4, "y", true}, {l[3:], 4, "", false},
		{copies(0, 11), 0, text("c0"), true}, {copies(0, 11), 11, text("c11"), true}, {copies(0, 11), 10, "", false}, {copies(0, 11), 12, "", false},
	} {
		if s, ok := txn.Get(c.l, c.b); s != c.s || ok != c.ok {
			t.Errorf("Get %v, %d: %q, %v; want %q, %v", c.l, c.b, s, ok, c.s, c.ok)
		}
	}
}

func TestAsked(t *testing.T) {
	for _, c := range []struct {
		x api.Txn
		n int
	}{
		{api.Txn{}, 0}, {api.Txn{Seq: 9}, 0},
		{api.Txn{Seq: 9, Meta: []api.Copy{}, Revoked: []int{}}, 0},
		{api.Txn{Seq: 9, Meta: copies(3, 4)}, 2},
		{api.Txn{Seq: 9, Data: copies(3, 4)}, 0},
		{api.Txn{Seq: 9, Revoked: []int{3, 4, 7}}, 3},
		{api.Txn{Seq: 9, Handles: [3]api.Handle{{On: true, Left: 1}, {On: true, Left: 2}, {On: true, Left: 4}}}, 7},
		{api.Txn{Seq: 9, Handles: [3]api.Handle{{On: true}, {On: true}, {On: true}}}, 0},
		{api.Txn{Seq: 9, Meta: copies(upTo(12)...), Handles: [3]api.Handle{{On: true, Left: 24}, {On: true, Left: 24}, {On: true, Left: 24}}}, 84},
		{mixed(), 8},
	} {
		if n := txn.Asked(c.x); n != c.n {
			t.Errorf("Asked %+v: %d, want %d", c.x, n, c.n)
		}
	}
}

func TestOpen(t *testing.T) {
	for bits := range 8 {
		x := api.Txn{Seq: 1, Meta: copies(1)}
		for i := range 3 {
			x.Handles[i].On = bits>>i&1 == 1
		}
		if txn.Open(x) != (bits != 0) {
			t.Errorf("Open %+v: %v", x, txn.Open(x))
		}
	}
	if !txn.Open(mixed()) || txn.Open(api.Txn{}) {
		t.Errorf("Open: %v, %v", txn.Open(mixed()), txn.Open(api.Txn{}))
	}
}

func TestBeginByHand(t *testing.T) {
	on := func(h, left int) (l [3]api.Handle) {
		l[h] = api.Handle{On: true, Left: left}
		return l
	}
	for h := range 3 {
		want(t, api.Txn{Seq: 1}, begin(h, 0, 1), api.Txn{Seq: 1, Handles: on(h, 0)}, api.OK)
		want(t, api.Txn{Seq: 1}, begin(h, 12, 16), api.Txn{Seq: 1, Handles: on(h, 12)}, api.OK)
		want(t, api.Txn{Seq: 1, Meta: []api.Copy{}}, begin(h, 5, 24), api.Txn{Seq: 1, Handles: on(h, 5)}, api.OK)
		wantRefused(t, api.Txn{Seq: 1}, begin(h, 0, 0), api.ErrSpace)
		wantRefused(t, api.Txn{Seq: 1}, begin(h, 12, 15), api.ErrSpace)
	}
	to := mixed()
	to.Handles[1] = api.Handle{On: true, Left: 3}
	want(t, mixed(), begin(1, 3, 15), to, api.OK)
	wantRefused(t, mixed(), begin(1, 3, 14), api.ErrSpace)
	wantRefused(t, mixed(), begin(0, 3, 24), api.ErrTwice)
	wantRefused(t, mixed(), begin(2, 3, 24), api.ErrTwice)
}

// Blocks that are data count for nothing; each of the others, and all that handles may name, count.
func TestBeginAsksForRoom(t *testing.T) {
	for asked := range 37 {
		meta := min(asked, 5)
		revoked := min(asked-meta, 4)
		left := min(asked-meta-revoked, 24)
		rest := asked - meta - revoked - left
		x := api.Txn{Seq: 1, Meta: copies(upTo(meta)...), Data: copies(10, 11), Revoked: upTo(9)[9-revoked:]}
		x.Handles[0] = api.Handle{On: true, Left: left}
		x.Handles[2] = api.Handle{On: true, Left: rest}
		for n := range 13 {
			to, most := clone(x), ring.Most(asked+n)
			to.Handles[1] = api.Handle{On: true, Left: n}
			for _, free := range []int{most - 1, most, most + 1, 0, -1, 24, math.MinInt, math.MaxInt} {
				if asked+n <= 24 && most <= free {
					want(t, x, begin(1, n, free), to, api.OK)
				} else {
					wantRefused(t, x, begin(1, n, free), api.ErrSpace)
				}
			}
		}
	}
}

func TestBeginErrorsInTheirOrder(t *testing.T) {
	counts := []int{0, 5, 12, -1, 13, math.MinInt, math.MaxInt}
	for _, free := range []int{math.MinInt, -1, 0, 24, math.MaxInt} {
		for _, n := range counts {
			for _, h := range noHandles {
				wantRefused(t, mixed(), begin(h, n, free), api.ErrNone)
			}
			wantRefused(t, mixed(), begin(0, n, free), api.ErrTwice)
			wantRefused(t, mixed(), begin(2, n, free), api.ErrTwice)
		}
		for _, n := range counts[3:] {
			wantRefused(t, mixed(), begin(1, n, free), api.ErrRange)
		}
	}
}

func TestStop(t *testing.T) {
	to := mixed()
	to.Handles[0] = api.Handle{}
	want(t, mixed(), stop(0), to, api.OK)
	wantRefused(t, mixed(), stop(1), api.ErrNone)
	wantRefused(t, to, stop(0), api.ErrNone)
	to.Handles[2] = api.Handle{}
	from := clone(to)
	from.Handles[2] = api.Handle{On: true, Left: 24}
	want(t, from, stop(2), to, api.OK)
	wantRefused(t, to, stop(2), api.ErrNone)
	for _, h := range noHandles {
		wantRefused(t, mixed(), stop(h), api.ErrNone)
	}
}

func TestBadOnesAreRefusedFirst(t *testing.T) {
	for _, x := range badTxns() {
		for _, c := range []call{
			begin(1, 1, 24), begin(0, 1, 24), begin(-1, 13, -1), begin(3, 1, 24), begin(1, 1, 0),
			stop(0), stop(1), stop(3),
			change(0, 3, text("a")), change(1, 3, text("a")), change(0, 12, "a"), change(0, 3, "a"), change(0, 2, text("a")), change(2, 3, text("a")),
			fill(0, 3, text("a")), fill(1, 3, text("a")), fill(0, 12, "a"), fill(0, 3, "a"), fill(0, 0, text("a")),
			revoke(0, 3), revoke(1, 3), revoke(0, 12), revoke(0, 1), revoke(2, 3),
		} {
			wantRefused(t, x, c, api.ErrRange)
		}
	}
}

// Each step goes on from what the last one answered; what is asked stays, since a block that is named is one less to be named.
func TestStepsByHand(t *testing.T) {
	a, b := text("a"), text("b")
	x := api.Txn{Seq: 3, Handles: [3]api.Handle{{On: true, Left: 4}, {On: true}}}
	for _, c := range []struct {
		call
		e          api.Errno
		meta, data []api.Copy
		revoked    []int
		left       int
	}{
		{change(0, 11, a), api.OK, []api.Copy{{Block: 11, Text: a}}, nil, nil, 3},
		{change(0, 0, a), api.OK, []api.Copy{{Text: a}, {Block: 11, Text: a}}, nil, nil, 2},
		{change(0, 11, b), api.OK, []api.Copy{{Text: a}, {Block: 11, Text: b}}, nil, nil, 2},
		{change(1, 0, b), api.OK, []api.Copy{{Text: b}, {Block: 11, Text: b}}, nil, nil, 2},
		{change(1, 5, b), api.ErrCredit, []api.Copy{{Text: b}, {Block: 11, Text: b}}, nil, nil, 2},
		{revoke(1, 5), api.ErrCredit, []api.Copy{{Text: b}, {Block: 11, Text: b}}, nil, nil, 2},
		{revoke(1, 0), api.OK, []api.Copy{{Block: 11, Text: b}}, nil, []int{0}, 2},
		{revoke(1, 0), api.ErrTwice, []api.Copy{{Block: 11, Text: b}}, nil, []int{0}, 2},
		{fill(1, 0, a), api.ErrRole, []api.Copy{{Block: 11, Text: b}}, nil, []int{0}, 2},
		{fill(1, 11, a), api.ErrRole, []api.Copy{{Block: 11, Text: b}}, nil, []int{0}, 2},
		{fill(1, 5, a), api.OK, []api.Copy{{Block: 11, Text: b}}, []api.Copy{{Block: 5, Text: a}}, []int{0}, 2},
		{fill(1, 5, b), api.OK, []api.Copy{{Block: 11, Text: b}}, []api.Copy{{Block: 5, Text: b}}, []int{0}, 2},
		{fill(1, 3, a), api.OK, []api.Copy{{Block: 11, Text: b}}, []api.Copy{{Block: 3, Text: a}, {Block: 5, Text: b}}, []int{0}, 2},
		{change(0, 5, a), api.ErrRole, []api.Copy{{Block: 11, Text: b}}, []api.Copy{{Block: 3, Text: a}, {Block: 5, Text: b}}, []int{0}, 2},
		{revoke(1, 5), api.ErrCredit, []api.Copy{{Block: 11, Text: b}}, []api.Copy{{Block: 3, Text: a}, {Block: 5, Text: b}}, []int{0}, 2},
		{revoke(0, 5), api.OK, []api.Copy{{Block: 11, Text: b}}, []api.Copy{{Block: 3, Text: a}}, []int{0, 5}, 1},
		{change(1, 5, a), api.OK, []api.Copy{{Block: 5, Text: a}, {Block: 11, Text: b}}, []api.Copy{{Block: 3, Text: a}}, []int{0}, 1},
		{revoke(0, 2), api.OK, []api.Copy{{Block: 5, Text: a}, {Block: 11, Text: b}}, []api.Copy{{Block: 3, Text: a}}, []int{0, 2}, 0},
		{change(0, 7, a), api.ErrCredit, []api.Copy{{Block: 5, Text: a}, {Block: 11, Text: b}}, []api.Copy{{Block: 3, Text: a}}, []int{0, 2}, 0},
		{change(0, 0, a), api.OK, []api.Copy{{Text: a}, {Block: 5, Text: a}, {Block: 11, Text: b}}, []api.Copy{{Block: 3, Text: a}}, []int{2}, 0},
		{fill(0, 7, a), api.OK, []api.Copy{{Text: a}, {Block: 5, Text: a}, {Block: 11, Text: b}}, []api.Copy{{Block: 3, Text: a}, {Block: 7, Text: a}}, []int{2}, 0},
	} {
		to := api.Txn{Seq: 3, Meta: c.meta, Data: c.data, Revoked: c.revoked, Handles: [3]api.Handle{{On: true, Left: c.left}, {On: true}}}
		want(t, x, c.call, to, c.e)
		x, _ = c.do(x)
		if !txn.Good(x) || txn.Asked(x) != 4 {
			t.Errorf("%s: %+v, asked %d", c.what, x, txn.Asked(x))
		}
	}
}

// Roles that a block has in a model.
const (
	nothing = iota
	isMeta
	isData
	isRevoked
)

// model keeps the roles and texts by block, where the package keeps lists.
type model struct {
	seq     int
	roles   [12]int
	texts   [12]string
	handles [3]api.Handle
}

func (m model) txn() api.Txn {
	x := api.Txn{Seq: m.seq, Handles: m.handles}
	for b, role := range m.roles {
		switch role {
		case isMeta:
			x.Meta = append(x.Meta, api.Copy{Block: b, Text: m.texts[b]})
		case isData:
			x.Data = append(x.Data, api.Copy{Block: b, Text: m.texts[b]})
		case isRevoked:
			x.Revoked = append(x.Revoked, b)
		}
	}
	return x
}

func (m model) lacks(h, b int) bool {
	return h < 0 || h > 2 || b < 0 || b > 11 || !m.handles[h].On
}

func (m model) named(b int) bool { return m.roles[b] == isMeta || m.roles[b] == isRevoked }

func (m *model) set(h, b, role int, s string, paid bool) {
	if paid && !m.named(b) {
		m.handles[h].Left--
	}
	m.roles[b], m.texts[b] = role, s
}

func (m *model) change(h, b int, s string) api.Errno {
	switch {
	case m.lacks(h, b):
		return api.ErrNone
	case len(s) != 32:
		return api.ErrForm
	case m.roles[b] == isData:
		return api.ErrRole
	case m.roles[b] == nothing && m.handles[h].Left == 0:
		return api.ErrCredit
	}
	m.set(h, b, isMeta, s, true)
	return api.OK
}

func (m *model) fill(h, b int, s string) api.Errno {
	switch {
	case m.lacks(h, b):
		return api.ErrNone
	case len(s) != 32:
		return api.ErrForm
	case m.named(b):
		return api.ErrRole
	}
	m.set(h, b, isData, s, false)
	return api.OK
}

func (m *model) revoke(h, b int) api.Errno {
	switch {
	case m.lacks(h, b):
		return api.ErrNone
	case m.roles[b] == isRevoked:
		return api.ErrTwice
	case m.roles[b] != isMeta && m.handles[h].Left == 0:
		return api.ErrCredit
	}
	m.set(h, b, isRevoked, "", true)
	return api.OK
}

func (m *model) begin(h, n, free int) api.Errno {
	asked := n
	for b := range 12 {
		if m.named(b) {
			asked++
		}
	}
	for _, one := range m.handles {
		asked += one.Left
	}
	switch {
	case h < 0 || h > 2:
		return api.ErrNone
	case m.handles[h].On:
		return api.ErrTwice
	case n < 0 || n > 12:
		return api.ErrRange
	case asked > 24 || ring.Most(asked) > free:
		return api.ErrSpace
	}
	m.handles[h] = api.Handle{On: true, Left: n}
	return api.OK
}

func (m *model) stop(h int) api.Errno {
	if h < 0 || h > 2 || !m.handles[h].On {
		return api.ErrNone
	}
	m.handles[h] = api.Handle{}
	return api.OK
}

// models have three blocks in each of their roles, a fourth that is Meta, and handle 1 in each of its states.
func models() []model {
	l := []model{}
	for roles := range 64 {
		for _, one := range []api.Handle{{}, {On: true}, {On: true, Left: 1}, {On: true, Left: 24}} {
			m := model{seq: 1 + roles}
			m.handles[1], m.roles[4] = one, isMeta
			for i, b := range []int{0, 6, 11} {
				m.roles[b] = roles >> (2 * i) & 3
			}
			for b := range m.texts {
				m.texts[b] = text(fmt.Sprint("was", b))
			}
			l = append(l, m)
		}
	}
	return l
}

func TestChangeFillAndRevokeOfAll(t *testing.T) {
	handles := append([]int{0, 1, 2}, noHandles...)
	numbers := append([]int{0, 1, 4, 6, 10, 11}, noBlocks...)
	texts := append([]string{text("a"), text("")}, noTexts...)
	for _, m := range models() {
		x := m.txn()
		for _, h := range handles {
			for _, b := range numbers {
				for _, s := range texts {
					changed, filled := m, m
					e := changed.change(h, b, s)
					want(t, x, change(h, b, s), changed.txn(), e)
					e = filled.fill(h, b, s)
					want(t, x, fill(h, b, s), filled.txn(), e)
				}
				revoked := m
				e := revoked.revoke(h, b)
				want(t, x, revoke(h, b), revoked.txn(), e)
			}
		}
	}
}

// The handle that names a block pays, and no other.
func TestTheHandleThatNamesPays(t *testing.T) {
	for h := range 3 {
		for b := range 12 {
			m := model{seq: api.MaxSeq, handles: [3]api.Handle{{On: true, Left: 3}, {On: true, Left: 5}, {On: true, Left: 7}}}
			x, changed, revoked := m.txn(), m, m
			e := changed.change(h, b, text("a"))
			want(t, x, change(h, b, text("a")), changed.txn(), e)
			e = revoked.revoke(h, b)
			want(t, x, revoke(h, b), revoked.txn(), e)
		}
	}
}

// draws is a row of numbers that look thrown, the same each time.
func draws() func(n int) int {
	state := uint64(1)
	return func(n int) int {
		state = state*6364136223846793005 + 1442695040888963407
		return int(state>>33) % n
	}
}

// step is a call, and what it does to the model.
func step(draw func(int) int, m *model) (call, api.Errno) {
	h, b, s := draw(3), draw(12), text(fmt.Sprint(draw(1000)))
	switch draw(10) {
	case 0, 1:
		n, free := draw(14), draw(32)
		return begin(h, n, free), m.begin(h, n, free)
	case 2:
		return stop(h), m.stop(h)
	case 3, 4, 5:
		return change(h, b, s), m.change(h, b, s)
	case 6, 7:
		return fill(h, b, s), m.fill(h, b, s)
	}
	return revoke(h, b), m.revoke(h, b)
}

func TestLongWalks(t *testing.T) {
	draw, met := draws(), map[api.Errno]int{}
	for walk := range 200 {
		m := model{seq: 1 + walk}
		x := m.txn()
		for range 100 {
			was := clone(x)
			c, e := step(draw, &m)
			met[e]++
			got, gotE := c.do(x)
			if !like(got, m.txn()) || gotE != e || !like(x, was) {
				t.Fatalf("%s of %+v: %+v, %d; want %+v, %d", c.what, was, got, gotE, m.txn(), e)
			}
			if x = got; !txn.Good(x) {
				t.Fatalf("%s: %+v is not good", c.what, x)
			}
		}
	}
	for _, e := range []api.Errno{api.OK, api.ErrNone, api.ErrTwice, api.ErrRange, api.ErrSpace, api.ErrCredit, api.ErrRole} {
		if met[e] == 0 {
			t.Errorf("no walk met error %d", e)
		}
	}
}

// roomy has the lists of a transaction with spare room behind each, of which whole is all.
func roomy(x api.Txn) (thin, whole api.Txn) {
	whole = clone(x)
	for range 4 {
		whole.Meta = append(whole.Meta, api.Copy{Block: 77, Text: "spare"})
		whole.Data = append(whole.Data, api.Copy{Block: 78, Text: "spare"})
		whole.Revoked = append(whole.Revoked, 79)
	}
	thin = whole
	thin.Meta, thin.Data, thin.Revoked = whole.Meta[:len(x.Meta)], whole.Data[:len(x.Data)], whole.Revoked[:len(x.Revoked)]
	return thin, whole
}

// fruitful are calls that a mixed transaction, and one of the same without lists, do not refuse.
func fruitful() []call {
	l := []call{begin(1, 1, 24), stop(0), stop(2), change(0, 3, text("n")), change(0, 10, text("n")), fill(0, 3, text("n")), fill(2, 10, text("n")), revoke(0, 3), revoke(0, 11), revoke(0, 2)}
	for _, b := range []int{0, 9} {
		l = append(l, change(0, b, text("n")), revoke(0, b))
	}
	return append(l, change(0, 1, text("n")), change(0, 8, text("n")), fill(0, 2, text("n")), fill(0, 11, text("n")))
}

func without(x api.Txn) api.Txn { return api.Txn{Seq: x.Seq, Handles: x.Handles} }

func TestWhatIsHandedInStays(t *testing.T) {
	calls := append(fruitful(), begin(0, 1, 24), begin(1, 12, 1), stop(1), change(2, 3, text("n")), change(0, 2, text("n")), fill(0, 0, text("n")), revoke(0, 1), revoke(2, 3))
	for _, from := range []api.Txn{mixed(), without(mixed())} {
		for _, c := range calls {
			thin, whole := roomy(from)
			was := clone(whole)
			c.do(thin)
			if !like(whole, was) {
				t.Errorf("%s: %+v is now %+v", c.what, was, whole)
			}
		}
	}
}

// spoil writes over all of the lists, their spare room too.
func spoil(x api.Txn) {
	for _, l := range [][]api.Copy{x.Meta, x.Data} {
		for i := range l[:cap(l)] {
			l[:cap(l)][i] = api.Copy{Block: 88, Text: "spoilt"}
		}
	}
	for i := range x.Revoked[:cap(x.Revoked)] {
		x.Revoked[:cap(x.Revoked)][i] = 88
	}
}

func TestAnswersAreNewMemory(t *testing.T) {
	for _, from := range []api.Txn{mixed(), without(mixed())} {
		for _, c := range fruitful() {
			thin, whole := roomy(from)
			was := clone(whole)
			got, e := c.do(thin)
			if e != api.OK {
				t.Errorf("%s: %d", c.what, e)
			}
			to := clone(got)
			spoil(got)
			if !like(whole, was) {
				t.Errorf("%s: the answer lies in %+v", c.what, whole)
			}
			if got, _ = c.do(thin); !like(got, to) {
				t.Errorf("%s again: %+v, want %+v", c.what, got, to)
			}
			spoil(api.Txn{Meta: got.Meta})
			if !slices.Equal(got.Data, to.Data) {
				t.Errorf("%s: Meta and Data lie in one: %+v", c.what, got)
			}
		}
	}
}

// Two that go on from one do not meet.
func TestTwoUponOne(t *testing.T) {
	x, _ := roomy(mixed())
	for _, pair := range [][2]call{{change(0, 10, text("p")), change(0, 10, text("q"))}, {fill(0, 3, text("p")), fill(0, 6, text("q"))}, {revoke(0, 10), revoke(0, 7)}} {
		p, _ := pair[0].do(x)
		was := clone(p)
		pair[1].do(x)
		pair[1].do(p)
		if !like(p, was) {
			t.Errorf("%s, then %s: %+v, want %+v", pair[0].what, pair[1].what, p, was)
		}
	}
}

func TestListsWithoutElementsMayBeNil(t *testing.T) {
	none := without(mixed())
	empty := without(mixed())
	empty.Meta, empty.Data, empty.Revoked = []api.Copy{}, []api.Copy{}, []int{}
	if !txn.Good(none) || !txn.Good(empty) || txn.Asked(none) != txn.Asked(empty) {
		t.Errorf("%+v, %+v", none, empty)
	}
	for _, c := range fruitful() {
		a, e := c.do(none)
		b, f := c.do(empty)
		if e != api.OK || f != api.OK || !like(a, b) {
			t.Errorf("%s: %+v, %d; %+v, %d", c.what, a, e, b, f)
		}
	}
}

func TestNoPanic(t *testing.T) {
	edges := []int{math.MinInt, -1, 0, 1, 2, 3, 11, 12, 13, 24, 25, math.MaxInt}
	all := badTxns()
	all["none"], all["mixed"] = api.Txn{}, mixed()
	all["wild"] = api.Txn{Handles: [3]api.Handle{{Left: math.MaxInt}, {On: true, Left: math.MaxInt}, {Left: math.MinInt}}}
	for _, x := range all {
		txn.Good(x)
		txn.Asked(x)
		txn.Open(x)
		for _, h := range edges {
			txn.Stop(x, h)
			txn.Get(x.Meta, h)
			for _, b := range edges {
				txn.Begin(x, h, b, h)
				txn.Begin(x, h, b, b)
				txn.Change(x, h, b, text("a"))
				txn.Fill(x, h, b, "")
				txn.Revoke(x, h, b)
			}
		}
	}
}
