package journal_test

import (
	"fmt"
	"math"
	"slices"
	"strings"
	"testing"

	"wastebook/api"
	"wastebook/journal"
)

// text is a block's.
func text(s string) string { return s + strings.Repeat("\x00", 32-len(s)) }

func begin(h, n int) api.Act            { return api.Act{Kind: 1, H: h, N: n} }
func write(h, b int, s string) api.Act  { return api.Act{Kind: 2, H: h, B: b, Text: s} }
func fill(h, b int, s string) api.Act   { return api.Act{Kind: 3, H: h, B: b, Text: s} }
func revoke(h, b int) api.Act           { return api.Act{Kind: 4, H: h, B: b} }
func stop(h int) api.Act                { return api.Act{Kind: 5, H: h} }
func read(b int) api.Act                { return api.Act{Kind: 9, B: b} }
func crash(draw int) api.Act            { return api.Act{Kind: 10, N: draw} }
func again(a api.Act, n int) []api.Act  { return slices.Repeat([]api.Act{a}, n) }
func acts(lists ...[]api.Act) []api.Act { return slices.Concat(lists...) }

var (
	commit   = api.Act{Kind: 6}
	check    = api.Act{Kind: 7}
	step     = api.Act{Kind: 8}
	comeBack = api.Act{Kind: 11}
)

// powered are acts of the eight kinds that ask for the power to be on.
func powered() []api.Act {
	return []api.Act{begin(0, 1), write(0, 1, "a"), fill(0, 1, "a"), revoke(0, 1), stop(0), commit, check, read(1)}
}

// whole is a transaction, of handle 0, up to where its commit is under way.
func whole(l ...api.Act) []api.Act {
	return acts([]api.Act{begin(0, 12)}, l, []api.Act{stop(0), commit})
}

// bench is a journal, and the test that it is asked in.
type bench struct {
	*testing.T
	*journal.Journal
}

func start(t *testing.T) bench { return bench{t, journal.New()} }

// played is a new journal behind these acts, whatever their replies were.
func played(t *testing.T, l ...api.Act) bench {
	x := start(t)
	for _, a := range l {
		x.Do(a)
	}
	return x
}

// wants asks for a reply.
func (x bench) wants(a api.Act, r api.Reply) {
	x.Helper()
	if got := x.Do(a); got != r {
		x.Errorf("%+v: %+v; want %+v", a, got, r)
	}
}

// goes asks for acts that go well, and have nothing to tell.
func (x bench) goes(l ...api.Act) {
	x.Helper()
	for _, a := range l {
		x.wants(a, api.Reply{})
	}
}

// refuses asks for a refusal that changes nothing.
func (x bench) refuses(a api.Act, e api.Errno) {
	x.Helper()
	was := x.seen()
	x.wants(a, api.Reply{Code: e})
	if now := x.seen(); now != was {
		x.Errorf("%+v is refused, and changes %s to %s", a, was, now)
	}
}

// commits asks for a commit by so many steps, worked off one by one.
func (x bench) commits(seq, steps int) {
	x.Helper()
	x.wants(commit, api.Reply{N: seq})
	x.goes(again(step, steps-1)...)
	x.wants(step, api.Reply{N: seq})
	x.refuses(step, api.ErrNone)
}

// checks asks for a check by so many steps, worked off one by one.
func (x bench) checks(steps int) {
	x.Helper()
	x.goes(check)
	x.goes(again(step, steps)...)
	x.refuses(step, api.ErrNone)
}

// recovers asks for a recovery by so many steps, worked off one by one.
func (x bench) recovers(steps int) {
	x.Helper()
	x.goes(comeBack)
	x.goes(again(step, steps)...)
	x.refuses(step, api.ErrNone)
}

// rest works off what is under way.
func (x bench) rest() {
	for x.Do(step).Code == api.OK {
	}
}

func (x bench) reads(b, role int, s string) {
	x.Helper()
	x.wants(read(b), api.Reply{N: role, Text: text(s)})
}

func (x bench) hasRing(head, used, last int, down bool) {
	x.Helper()
	r, gotLast, gotDown := x.Ring()
	if r != (api.Ring{Head: head, Used: used}) || gotLast != last || gotDown != down {
		x.Errorf("Ring: %+v, %d, %v; want {%d %d}, %d, %v", r, gotLast, gotDown, head, used, last, down)
	}
}

func (x bench) runs(want api.Txn) {
	x.Helper()
	if got := x.Running(); !like(got, want) {
		x.Errorf("Running: %+v; want %+v", got, want)
	}
}

// hasWritten asks for what was written and is not safe.
func (x bench) hasWritten(l ...api.Write) {
	x.Helper()
	if got := x.Disk().Writes; !slices.Equal(got, l) {
		x.Errorf("writes %+v; want %+v", got, l)
	}
}

// hasSafe asks for what is safe at these places; all others have noughts.
func (x bench) hasSafe(l map[int]string) {
	x.Helper()
	got := x.Disk().Safe
	if len(got) != 37 {
		x.Fatalf("%d places", len(got))
	}
	for n, s := range got {
		if s != text(l[n]) {
			x.Errorf("place %d: %q; want %q", n, s, l[n])
		}
	}
}

// seen is all that a journal tells without an act.
func (x bench) seen() string {
	r, last, down := x.Ring()
	return fmt.Sprintf("%+v %+v %+v %d %v", x.Disk(), x.Running(), r, last, down)
}

// like takes lists without elements for the same, be they nil or not.
func like(a, b api.Txn) bool {
	return a.Seq == b.Seq && slices.Equal(a.Meta, b.Meta) && slices.Equal(a.Data, b.Data) &&
		slices.Equal(a.Revoked, b.Revoked) && a.Handles == b.Handles
}

func one(b int, s string) []api.Copy { return []api.Copy{{Block: b, Text: text(s)}} }

// P7.1

func TestNew(t *testing.T) {
	x := start(t)
	x.hasSafe(map[int]string{0: "WBK1\x01\x00\x00\x00\x01\x00"})
	x.hasWritten()
	x.hasRing(0, 0, 0, false)
	x.runs(api.Txn{Seq: 1})
	for b := range 12 {
		x.reads(b, 0, "")
	}
	x.refuses(step, api.ErrNone)
	x.refuses(check, api.ErrNone)
	x.refuses(commit, api.ErrNone)
	x.refuses(comeBack, api.ErrBusy)
}

func TestJournalsAreApart(t *testing.T) {
	x, y := start(t), start(t)
	x.goes(begin(0, 1), write(0, 3, "a"), stop(0))
	x.commits(1, 5)
	y.hasSafe(map[int]string{0: "WBK1\x01\x00\x00\x00\x01\x00"})
	y.hasRing(0, 0, 0, false)
	y.runs(api.Txn{Seq: 1})
	y.reads(3, 0, "")
}

func TestNilJournal(t *testing.T) {
	x := bench{t, nil}
	for round := range 50 {
		for kind := -1; kind <= 13; kind++ {
			a := api.Act{Kind: kind, H: round - 5, B: round - 5, N: round - 5, Text: "a"}
			x.wants(a, api.Reply{Code: api.ErrNone})
		}
	}
	wantNothing(x)
}

// A journal that New did not make has no disk, and nothing runs in it: the chapter's words hold of that, and no act goes well.
func TestZeroValue(t *testing.T) {
	for _, c := range []struct {
		a api.Act
		e api.Errno
	}{
		{begin(0, 0), api.ErrRange}, {write(0, 0, ""), api.ErrRange}, {fill(0, 0, ""), api.ErrRange},
		{revoke(0, 0), api.ErrRange}, {stop(0), api.ErrRange}, {commit, api.ErrNone}, {check, api.ErrNone},
		{step, api.ErrNone}, {read(0), api.ErrRange}, {read(-1), api.ErrNone}, {read(12), api.ErrNone},
		{crash(0), api.ErrRange}, {comeBack, api.ErrBusy}, {api.Act{}, api.ErrKind}, {api.Act{Kind: 12}, api.ErrKind},
	} {
		x := bench{t, new(journal.Journal)}
		wantNothing(x)
		for range 400 {
			x.wants(c.a, api.Reply{Code: c.e})
		}
		x.wants(c.a, api.Reply{Code: api.ErrFull})
		wantNothing(x)
	}
}

func wantNothing(x bench) {
	x.Helper()
	if d := x.Disk(); len(d.Safe) != 0 || len(d.Writes) != 0 {
		x.Errorf("Disk: %+v", d)
	}
	x.runs(api.Txn{})
	x.hasRing(0, 0, 0, false)
}

// P7.2

func TestMaxActs(t *testing.T) {
	for what, c := range map[string][]api.Act{
		"reads":            {read(3)},
		"of no kind":       {{}},
		"of another":       {{Kind: 12}},
		"steps of nothing": {step},
		"all that is refused": {
			read(12), begin(3, 0), stop(0), write(0, 0, ""), fill(0, 0, ""), revoke(0, 0), commit, check, step, comeBack, crash(-1), {Kind: -1},
		},
		"a power that fails":   {crash(0)},
		"and is back":          {crash(0), comeBack, step, step},
		"and fails on the way": {crash(0), comeBack, step},
		"transactions":         acts(whole(write(0, 3, "a")), again(step, 5), []api.Act{check}, again(step, 4)),
	} {
		t.Run(what, func(t *testing.T) {
			x := start(t)
			for n := range 400 {
				if r := x.Do(c[n%len(c)]); r.Code == api.ErrFull {
					t.Fatalf("act %d is one too many", n+1)
				}
			}
			for kind := -1; kind <= 13; kind++ {
				x.refuses(api.Act{Kind: kind, B: -1}, api.ErrFull)
			}
		})
	}
}

// What is done last goes as what was done first.
func TestTheLastAct(t *testing.T) {
	x := played(t, again(api.Act{}, 393)...)
	x.goes(begin(0, 1), write(0, 3, "a"), stop(0))
	x.wants(commit, api.Reply{N: 1})
	x.goes(step, step)
	x.reads(3, 1, "a")
	x.refuses(read(3), api.ErrFull)
	x.refuses(step, api.ErrFull)
	x.refuses(crash(0), api.ErrFull)
}

func badKinds() []int {
	return []int{0, -1, -2, -8, 12, 13, 255, 256 + 1, 1<<32 + 1, 1<<32 + 8, math.MinInt, math.MaxInt}
}

func TestKindsThatAreNone(t *testing.T) {
	x := start(t)
	for _, kind := range badKinds() {
		x.refuses(api.Act{Kind: kind}, api.ErrKind)
		x.refuses(api.Act{Kind: kind, H: -1, B: -1, N: -1, Text: "a"}, api.ErrKind)
	}
	x.goes(crash(0))
	for _, kind := range badKinds() {
		x.refuses(api.Act{Kind: kind}, api.ErrKind)
	}
}

func TestActsWhileThePowerIsOff(t *testing.T) {
	x := start(t)
	x.goes(begin(0, 2), write(0, 1, "a"), stop(0))
	x.commits(1, 5)
	x.goes(begin(0, 2), crash(0))
	off := func() {
		t.Helper()
		for _, a := range powered() {
			x.refuses(a, api.ErrDown)
			a.H, a.B, a.N = -1, -1, -1
			x.refuses(a, api.ErrDown)
			a.H, a.B, a.N = 3, 12, 13
			x.refuses(a, api.ErrDown)
		}
		x.refuses(crash(-1), api.ErrRange)
	}
	off()
	x.refuses(step, api.ErrNone)
	x.goes(crash(5))
	off()
	x.goes(comeBack)
	for range 4 {
		off()
		x.refuses(comeBack, api.ErrBusy)
		x.goes(step)
	}
	x.reads(1, 1, "a")
}

// What an act does not take is not asked.
func TestOtherNumbersAreNotAsked(t *testing.T) {
	odd := func(a api.Act) api.Act {
		if a.Kind == 1 || a.Kind == 5 || a.Kind > 5 && a.Kind != 9 {
			a.B = -7
		}
		if a.Kind > 5 {
			a.H = 99
		}
		if a.Kind != 1 && a.Kind != 10 {
			a.N = -1
		}
		if a.Kind != 2 && a.Kind != 3 {
			a.Text = "odd"
		}
		return a
	}
	l := acts(
		whole(write(0, 1, "a"), fill(0, 2, "b"), revoke(0, 2)), again(step, 6), []api.Act{check}, again(step, 4),
		whole(revoke(0, 1)), again(step, 2), []api.Act{read(1), crash(3), comeBack}, again(step, 2), []api.Act{read(1)},
	)
	x, y := start(t), start(t)
	for _, a := range l {
		r := x.Do(a)
		if r.Code != api.OK {
			t.Errorf("%+v: %+v", a, r)
		}
		y.wants(odd(a), r)
		if x.seen() != y.seen() {
			t.Fatalf("%+v", odd(a))
		}
	}
}

// P7.3

func TestBeginAndStop(t *testing.T) {
	x := start(t)
	x.goes(begin(1, 5), begin(0, 0), begin(2, 12))
	want := api.Txn{Seq: 1, Handles: [3]api.Handle{{On: true}, {On: true, Left: 5}, {On: true, Left: 12}}}
	x.runs(want)
	x.refuses(begin(1, 0), api.ErrTwice)
	x.goes(stop(1))
	want.Handles[1] = api.Handle{}
	x.runs(want)
	x.refuses(stop(1), api.ErrNone)
	x.goes(begin(1, 1))
	want.Handles[1] = api.Handle{On: true, Left: 1}
	x.runs(want)
	x.goes(stop(0), stop(1), stop(2))
	x.runs(api.Txn{Seq: 1})
}

func TestBeginAndStopErrors(t *testing.T) {
	x := start(t)
	for _, h := range []int{-1, 3, 4, math.MinInt, math.MaxInt} {
		x.refuses(begin(h, 0), api.ErrNone)
		x.refuses(begin(h, -1), api.ErrNone)
		x.refuses(stop(h), api.ErrNone)
	}
	for _, n := range []int{-1, 13, math.MinInt, math.MaxInt} {
		x.refuses(begin(0, n), api.ErrRange)
		x.goes(begin(0, 0))
		x.refuses(begin(0, n), api.ErrTwice)
		x.goes(stop(0))
	}
	x.refuses(stop(0), api.ErrNone)
}

// mostOf is how many blocks handles may name, of so many that are free in the log.
func mostOf(free int) int {
	for n := 24; n >= 0; n-- {
		if n+(n+9)/10+(n+19)/20+1 <= free {
			return n
		}
	}
	return -1
}

// The room is what is free of the ring: what is being committed, and what is committed and not home, has its places.
func TestBeginByWhatIsFree(t *testing.T) {
	x := start(t)
	for seq, used := 1, 0; used < 24; seq++ {
		most := mostOf(24 - used)
		fits := func() {
			t.Helper()
			first := min(most, 12)
			x.hasRing(used%24, used, seq-1, false)
			x.goes(begin(2, first))
			x.refuses(begin(1, most-first+1), api.ErrSpace)
			x.goes(begin(1, most-first), stop(1), stop(2))
		}
		fits()
		x.goes(begin(0, 0), fill(0, 3, "a"), stop(0))
		x.wants(commit, api.Reply{N: seq})
		used++
		if most = mostOf(24 - used); most >= 0 {
			x.goes(begin(2, min(most, 12)), stop(2))
		}
		x.goes(step, step, step)
		x.wants(step, api.Reply{N: seq})
	}
	x.refuses(begin(0, 0), api.ErrSpace)
	x.goes(check)
	x.refuses(begin(0, 0), api.ErrSpace)
	x.goes(step)
	x.refuses(begin(0, 0), api.ErrSpace)
	x.goes(step, begin(0, 12), begin(1, 8))
	x.refuses(begin(2, 1), api.ErrSpace)
}

func TestWrite(t *testing.T) {
	x := start(t)
	x.goes(begin(1, 3), write(1, 5, "a"), write(1, 0, "b"))
	want := api.Txn{Seq: 1, Meta: append(one(0, "b"), one(5, "a")...)}
	want.Handles[1] = api.Handle{On: true, Left: 1}
	x.runs(want)
	x.reads(5, 1, "a")
	x.reads(0, 1, "b")
	x.reads(1, 0, "")
	x.goes(write(1, 5, "c"))
	want.Meta[1].Text = text("c")
	x.runs(want)
	x.reads(5, 1, "c")
	x.hasWritten()
}

func texts() map[string]string {
	return map[string]string{
		"":                       text(""),
		"a":                      text("a"),
		"WBK1":                   text("WBK1"),
		strings.Repeat("a", 31):  text(strings.Repeat("a", 31)),
		strings.Repeat("b", 32):  strings.Repeat("b", 32),
		strings.Repeat("cd", 17): strings.Repeat("cd", 16),
		strings.Repeat("x", 999): strings.Repeat("x", 32),
		"\x00\xff\x00":           text("\x00\xff"),
	}
}

func TestTextsShorterAndLongerThanABlock(t *testing.T) {
	for s, fit := range texts() {
		x := start(t)
		x.goes(begin(0, 1), write(0, 5, s), fill(0, 6, s))
		look := func() {
			t.Helper()
			x.wants(read(5), api.Reply{N: 1, Text: fit})
			x.wants(read(6), api.Reply{N: 2, Text: fit})
		}
		look()
		x.goes(stop(0))
		x.commits(1, 7)
		look()
		x.goes(crash(0))
		x.recovers(4)
		x.wants(read(5), api.Reply{N: 1, Text: fit})
		x.wants(read(6), api.Reply{N: 1, Text: fit})
	}
}

func TestData(t *testing.T) {
	x := start(t)
	x.goes(begin(1, 0), fill(1, 5, "a"), fill(1, 0, "b"))
	want := api.Txn{Seq: 1, Data: append(one(0, "b"), one(5, "a")...)}
	want.Handles[1] = api.Handle{On: true}
	x.runs(want)
	x.reads(5, 2, "a")
	x.reads(0, 2, "b")
	x.goes(fill(1, 5, "c"))
	x.reads(5, 2, "c")
	want.Data[1].Text = text("c")
	x.runs(want)
	x.hasWritten()
}

func TestRevoke(t *testing.T) {
	x := start(t)
	x.goes(begin(1, 3), write(1, 5, "a"), fill(1, 7, "b"), write(1, 6, "c"))
	x.goes(revoke(1, 7), revoke(1, 5))
	want := api.Txn{Seq: 1, Meta: one(6, "c"), Revoked: []int{5, 7}}
	want.Handles[1] = api.Handle{On: true}
	x.runs(want)
	x.reads(5, 0, "")
	x.reads(7, 0, "")
	x.reads(6, 1, "c")
	x.goes(write(1, 7, "d"))
	want.Meta, want.Revoked = append(want.Meta, one(7, "d")...), []int{5}
	x.runs(want)
	x.reads(7, 1, "d")
}

// Each of the three asks for a handle that is on and a block, ahead of all else.
func TestHandlesAndBlocksThatAreNone(t *testing.T) {
	x := start(t)
	x.goes(begin(0, 2), write(0, 1, "a"), fill(0, 2, "b"), stop(0))
	x.commits(1, 7)
	x.goes(begin(1, 0))
	for _, b := range []int{1, 2, 3} {
		for _, h := range []int{0, 2, 3, -1, math.MinInt, math.MaxInt} {
			x.refuses(write(h, b, "c"), api.ErrNone)
			x.refuses(fill(h, b, "c"), api.ErrNone)
			x.refuses(revoke(h, b), api.ErrNone)
		}
	}
	for _, b := range []int{-1, 12, 13, math.MinInt, math.MaxInt} {
		x.refuses(write(1, b, "c"), api.ErrNone)
		x.refuses(fill(1, b, "c"), api.ErrNone)
		x.refuses(revoke(1, b), api.ErrNone)
		x.refuses(read(b), api.ErrNone)
	}
}

// What a transaction says of a block comes ahead of what its role says.
func TestErrorsOfATransactionComeFirst(t *testing.T) {
	x := start(t)
	x.goes(begin(0, 2), write(0, 1, "a"), fill(0, 2, "b"), stop(0))
	x.commits(1, 7)
	x.goes(begin(1, 0))
	x.refuses(write(1, 2, "c"), api.ErrCredit)
	x.refuses(revoke(1, 3), api.ErrCredit)
	x.goes(stop(1), begin(1, 1))
	x.refuses(write(1, 2, "c"), api.ErrRole)
	x.refuses(revoke(1, 3), api.ErrRole)
	x.goes(revoke(1, 1))
	x.refuses(revoke(1, 1), api.ErrTwice)
	x.refuses(fill(1, 1, "c"), api.ErrRole)
	x.refuses(write(1, 2, "c"), api.ErrCredit)
}

// The role of a block outlives the transaction that gave it.
func TestRoles(t *testing.T) {
	x := start(t)
	x.goes(begin(0, 2), write(0, 1, "a"), fill(0, 2, "b"))
	turn := func() {
		t.Helper()
		x.refuses(fill(0, 1, "c"), api.ErrRole)
		x.refuses(write(0, 2, "c"), api.ErrRole)
		x.refuses(revoke(0, 3), api.ErrRole)
		x.reads(1, 1, "a")
		x.reads(2, 2, "b")
		x.reads(3, 0, "")
	}
	turn()
	x.goes(stop(0))
	x.wants(commit, api.Reply{N: 1})
	x.goes(begin(0, 2))
	turn()
	x.rest()
	turn()
	x.goes(check)
	turn()
	x.rest()
	turn()
	x.goes(revoke(0, 1), revoke(0, 2))
	x.reads(1, 0, "a")
	x.reads(2, 0, "b")
	x.goes(write(0, 1, "d"), write(0, 2, "e"))
	x.reads(1, 1, "d")
	x.reads(2, 1, "e")
}

// A revocation that may be lost yet holds data off: an elder copy would come back over it.
func TestDataBehindARevocation(t *testing.T) {
	x := start(t)
	x.goes(begin(0, 2), write(0, 1, "a"), fill(0, 2, "b"), stop(0))
	x.commits(1, 7)
	x.goes(begin(0, 2), revoke(0, 1), revoke(0, 2))
	x.refuses(fill(0, 1, "c"), api.ErrRole)
	x.refuses(fill(0, 2, "c"), api.ErrRole)
	x.goes(stop(0))
	x.wants(commit, api.Reply{N: 2})
	x.goes(begin(0, 0))
	for range 3 {
		x.refuses(fill(0, 1, "c"), api.ErrBusy)
		x.refuses(fill(0, 2, "c"), api.ErrBusy)
		x.goes(step)
	}
	x.refuses(fill(0, 1, "c"), api.ErrBusy)
	x.wants(step, api.Reply{N: 2})
	x.goes(fill(0, 1, "c"), fill(0, 2, "d"))
	x.reads(1, 2, "c")
	x.reads(2, 2, "d")
}

func TestDataOfARoleComesAheadOfARevocation(t *testing.T) {
	x := start(t)
	x.goes(begin(0, 2), write(0, 1, "a"), write(0, 2, "b"), stop(0))
	x.commits(1, 6)
	x.goes(begin(0, 2), revoke(0, 1), write(0, 1, "c"), revoke(0, 2), stop(0))
	x.wants(commit, api.Reply{N: 2})
	x.goes(begin(0, 2))
	x.refuses(fill(0, 1, "d"), api.ErrRole)
	x.refuses(fill(0, 2, "d"), api.ErrBusy)
	// A block that is revoked and written is none for data, whatever is committed.
	x.goes(write(0, 2, "e"))
	x.rest()
	x.refuses(fill(0, 1, "d"), api.ErrRole)
	x.refuses(fill(0, 2, "d"), api.ErrRole)
}

// The last one to revoke a block counts, not the first.
func TestDataBehindTwoRevocations(t *testing.T) {
	x := start(t)
	x.goes(begin(0, 1), write(0, 1, "a"), stop(0))
	x.commits(1, 5)
	x.goes(begin(0, 1), revoke(0, 1), stop(0))
	x.commits(2, 4)
	x.goes(begin(0, 1), fill(0, 1, "b"), stop(0))
	x.commits(3, 4)
	x.goes(begin(0, 1), revoke(0, 1), stop(0))
	x.wants(commit, api.Reply{N: 4})
	x.goes(begin(0, 1))
	x.refuses(fill(0, 1, "c"), api.ErrBusy)
	x.rest()
	x.goes(fill(0, 1, "c"))
	x.reads(1, 2, "c")
}

// P7.4

func TestReadsFromEachPlaceInTheirOrder(t *testing.T) {
	x := start(t)
	x.goes(begin(0, 1), write(0, 4, "home"), stop(0))
	x.commits(1, 5)
	x.checks(4)
	x.reads(4, 1, "home")
	x.hasSafe(map[int]string{
		0: "WBK1\x01\x00\x00\x00\x02\x03",
		1: "WBK1\x02\x00\x00\x00\x01\x01\x04\x00", 2: "home", 3: "WBK1\x04\x00\x00\x00\x01",
		29: "home",
	})
	x.goes(begin(0, 1), write(0, 4, "elder"), stop(0))
	x.commits(2, 5)
	x.reads(4, 1, "elder")
	x.goes(begin(0, 1), write(0, 4, "committed"), stop(0))
	x.commits(3, 5)
	x.reads(4, 1, "committed")
	x.goes(begin(0, 1), write(0, 4, "sealed"), stop(0))
	x.wants(commit, api.Reply{N: 4})
	x.reads(4, 1, "sealed")
	x.goes(begin(0, 1), write(0, 4, "running"))
	x.reads(4, 1, "running")
	// One by one they are gone again.
	x.goes(revoke(0, 4))
	x.reads(4, 0, "sealed")
	x.rest()
	x.reads(4, 0, "sealed")
	x.goes(stop(0))
	x.commits(5, 4)
	x.reads(4, 0, "home")
}

func TestReadsOfData(t *testing.T) {
	x := start(t)
	x.goes(begin(0, 0), fill(0, 4, "home"), stop(0))
	x.commits(1, 4)
	x.reads(4, 2, "home")
	x.goes(begin(0, 0), fill(0, 4, "sealed"), stop(0))
	x.wants(commit, api.Reply{N: 2})
	x.reads(4, 2, "sealed")
	x.goes(begin(0, 1), fill(0, 4, "running"))
	x.reads(4, 2, "running")
	x.goes(revoke(0, 4))
	x.reads(4, 0, "sealed")
	x.rest()
	x.reads(4, 0, "sealed")
}

// A copy that is committed hides home, and one that is revoked does not; so does what is being committed hide what is committed.
func TestReadsOfWhatIsRevoked(t *testing.T) {
	x := start(t)
	x.goes(begin(0, 1), write(0, 4, "home"), stop(0))
	x.commits(1, 5)
	x.checks(4)
	x.goes(begin(0, 1), write(0, 4, "new"), stop(0))
	x.commits(2, 5)
	x.goes(begin(0, 1), revoke(0, 4))
	x.reads(4, 0, "new")
	x.goes(stop(0))
	x.wants(commit, api.Reply{N: 3})
	x.reads(4, 0, "new")
	x.goes(step, step, step)
	x.reads(4, 0, "new")
	x.wants(step, api.Reply{N: 3})
	x.reads(4, 0, "home")
	x.checks(2)
	x.reads(4, 0, "home")
}

// On its way home a copy is read where it was, up to the last step.
func TestReadsWhileACheckIsUnderWay(t *testing.T) {
	x := start(t)
	x.goes(begin(0, 2), write(0, 4, "a"), write(0, 5, "b"), stop(0))
	x.commits(1, 6)
	x.goes(check)
	for range 5 {
		x.reads(4, 1, "a")
		x.reads(5, 1, "b")
		x.goes(step)
	}
	x.reads(4, 1, "a")
	x.reads(5, 1, "b")
}

// Reading changes nothing.
func TestReadingLeavesAll(t *testing.T) {
	x := played(t, acts(whole(write(0, 1, "a"), fill(0, 2, "b")), []api.Act{begin(1, 3), write(1, 3, "c"), step})...)
	was := x.seen()
	for b := range 12 {
		x.Do(read(b))
	}
	if now := x.seen(); now != was {
		t.Errorf("%s; was %s", now, was)
	}
}

// P7.5 and P7.6

// The first example of the whole, to the byte.
func TestACommitStepByStep(t *testing.T) {
	x := start(t)
	x.goes(begin(0, 2), write(0, 1, "one"), write(0, 2, "two"), stop(0))
	x.wants(commit, api.Reply{N: 1})
	x.hasRing(4, 4, 0, false)
	x.runs(api.Txn{Seq: 2})
	x.hasWritten()
	log := []api.Write{
		{At: 1, Text: text("WBK1\x02\x00\x00\x00\x01\x02\x01\x00\x02\x00")},
		{At: 2, Text: text("one")}, {At: 3, Text: text("two")},
		{At: 4, Text: text("WBK1\x04\x00\x00\x00\x01")},
	}
	for n := range 3 {
		x.goes(step)
		x.hasWritten(log[:n+1]...)
	}
	super := "WBK1\x01\x00\x00\x00\x01\x00"
	x.hasSafe(map[int]string{0: super})
	x.goes(step)
	x.hasWritten()
	safe := map[int]string{0: super, 1: log[0].Text[:13], 2: "one", 3: "two"}
	x.hasSafe(safe)
	x.goes(step)
	x.hasWritten(log[3])
	x.hasSafe(safe)
	x.hasRing(4, 4, 0, false)
	x.wants(step, api.Reply{N: 1})
	x.hasWritten()
	safe[4] = "WBK1\x04\x00\x00\x00\x01"
	x.hasSafe(safe)
	x.hasRing(4, 4, 1, false)
	x.runs(api.Txn{Seq: 2})
	x.refuses(step, api.ErrNone)
}

func TestACheckStepByStep(t *testing.T) {
	x := start(t)
	x.goes(begin(0, 2), write(0, 1, "one"), write(0, 2, "two"), stop(0))
	x.commits(1, 6)
	x.goes(begin(0, 2), revoke(0, 1), write(0, 11, "WBK1"), stop(0))
	x.commits(2, 6)
	x.hasRing(8, 8, 2, false)
	x.goes(begin(0, 1), write(0, 2, "runs"))
	runs := x.Running()
	safe := map[int]string{
		0: "WBK1\x01\x00\x00\x00\x01\x00",
		1: "WBK1\x02\x00\x00\x00\x01\x02\x01\x00\x02\x00", 2: "one", 3: "two", 4: "WBK1\x04\x00\x00\x00\x01",
		5: "WBK1\x03\x00\x00\x00\x02\x01\x01", 6: "WBK1\x02\x00\x00\x00\x02\x01\x0b\x01", 7: "", 8: "WBK1\x04\x00\x00\x00\x02",
	}
	x.hasSafe(safe)
	x.goes(check)
	x.hasWritten()
	home := []api.Write{{At: 27, Text: text("two")}, {At: 36, Text: text("WBK1")}}
	x.goes(step)
	x.hasWritten(home[0])
	x.goes(step)
	x.hasWritten(home...)
	x.hasSafe(safe)
	x.goes(step)
	x.hasWritten()
	safe[27], safe[36] = "two", "WBK1"
	x.hasSafe(safe)
	x.goes(step)
	x.hasWritten(api.Write{At: 0, Text: text("WBK1\x01\x00\x00\x00\x03\x08")})
	x.hasRing(8, 8, 2, false)
	x.goes(step)
	x.hasWritten()
	safe[0] = "WBK1\x01\x00\x00\x00\x03\x08"
	x.hasSafe(safe)
	x.hasRing(8, 0, 2, false)
	x.runs(runs)
	x.refuses(step, api.ErrNone)
	x.refuses(check, api.ErrNone)
	x.reads(2, 1, "runs")
}

func TestCommitErrorsInTheirOrder(t *testing.T) {
	x := start(t)
	x.refuses(commit, api.ErrNone)
	for h := range 3 {
		x.goes(begin(h, 0))
		x.refuses(commit, api.ErrBusy)
		x.goes(stop(h))
	}
	x.refuses(commit, api.ErrNone)
	x.goes(begin(0, 1), begin(2, 1), write(0, 1, "a"))
	x.refuses(commit, api.ErrBusy)
	x.goes(stop(0))
	x.refuses(commit, api.ErrBusy)
	x.goes(stop(2))
	x.wants(commit, api.Reply{N: 1})
	for range 5 {
		x.refuses(commit, api.ErrBusy)
		x.refuses(check, api.ErrBusy)
		x.Do(step)
	}
	x.refuses(commit, api.ErrNone)
	x.goes(begin(0, 1), write(0, 1, "b"), stop(0), check)
	for range 4 {
		x.refuses(commit, api.ErrBusy)
		x.refuses(check, api.ErrBusy)
		x.goes(step)
	}
	x.refuses(check, api.ErrNone)
	x.commits(2, 5)
}

// One thing of any kind is enough for a transaction to be committed, and for a check behind it.
func TestCommitOfEachKind(t *testing.T) {
	for what, c := range map[string]struct {
		l                  []api.Act
		steps, used, check int
	}{
		"a copy":          {[]api.Act{write(0, 3, "a")}, 5, 3, 4},
		"data":            {[]api.Act{fill(0, 3, "a")}, 4, 1, 2},
		"a revoked block": {[]api.Act{write(0, 3, "a"), revoke(0, 3)}, 4, 2, 2},
		"all of these":    {[]api.Act{write(0, 3, "a"), fill(0, 4, "b"), fill(0, 5, "c"), revoke(0, 5)}, 8, 4, 4},
		"eleven copies":   {elevenCopies(), 16, 14, 14},
		"nothing but what is changed twice": {
			[]api.Act{write(0, 3, "a"), revoke(0, 3), write(0, 3, "b"), write(0, 3, "c")}, 5, 3, 4,
		},
	} {
		t.Run(what, func(t *testing.T) {
			x := start(t)
			x.goes(begin(0, 12))
			x.goes(c.l...)
			x.goes(stop(0))
			x.commits(1, c.steps)
			x.hasRing(c.used, c.used, 1, false)
			x.runs(api.Txn{Seq: 2})
			x.checks(c.check)
			x.hasRing(c.used, 0, 1, false)
			x.refuses(check, api.ErrNone)
		})
	}
}

func elevenCopies() []api.Act {
	l := []api.Act{}
	for b := range 11 {
		l = append(l, write(0, b, fmt.Sprint(b)))
	}
	return l
}

// A check takes what is committed up to now, though a transaction runs and is open.
func TestCheckWhileOneRuns(t *testing.T) {
	x := start(t)
	x.goes(begin(0, 2), write(0, 1, "a"), stop(0))
	x.commits(1, 5)
	x.goes(begin(0, 2), write(0, 1, "b"), write(0, 2, "c"), check)
	x.goes(write(0, 1, "d"))
	x.goes(again(step, 4)...)
	x.refuses(step, api.ErrNone)
	x.reads(1, 1, "d")
	x.reads(2, 1, "c")
	x.hasRing(3, 0, 1, false)
	if d := x.Disk(); d.Safe[26] != text("a") || d.Safe[27] != text("") {
		t.Errorf("%q", d.Safe)
	}
	x.goes(stop(0))
	x.commits(2, 6)
}

// The log goes round and round, and all is there all the time.
func TestTheCircle(t *testing.T) {
	x := start(t)
	head, used := 0, 0
	for seq := 1; seq <= 20; seq++ {
		x.goes(begin(0, 2), write(0, seq%12, fmt.Sprint(seq)), write(0, 5, fmt.Sprint("five", seq)), stop(0))
		x.Do(commit)
		x.rest()
		need := 4
		if seq%12 == 5 {
			need = 3
		}
		head, used = (head+need)%24, used+need
		x.hasRing(head, used, seq, false)
		if seq%4 == 0 {
			x.Do(check)
			x.rest()
			used = 0
			x.hasRing(head, 0, seq, false)
		}
		x.reads(5, 1, fmt.Sprint("five", seq))
		if seq%12 != 5 {
			x.reads(seq%12, 1, fmt.Sprint(seq))
		}
	}
	x.Do(crash(0))
	x.Do(comeBack)
	x.rest()
	x.reads(5, 1, "five20")
	x.reads(1, 1, "13")
	x.reads(8, 1, "20")
	x.hasRing(head, 0, 20, false)
}

// P7.7

func TestCrash(t *testing.T) {
	for draw := range 16 {
		x := start(t)
		x.goes(begin(0, 1), write(0, 1, "a"), stop(0))
		x.commits(1, 5)
		x.goes(begin(0, 2), write(0, 2, "b"), write(0, 3, "c"), stop(0))
		x.wants(commit, api.Reply{N: 2})
		x.goes(begin(0, 3), write(0, 4, "d"), step, step, step)
		x.goes(crash(draw))
		x.hasRing(0, 0, 1, true)
		x.runs(api.Txn{})
		x.hasWritten()
		safe := map[int]string{
			0: "WBK1\x01\x00\x00\x00\x01\x00",
			1: "WBK1\x02\x00\x00\x00\x01\x01\x01\x00", 2: "a", 3: "WBK1\x04\x00\x00\x00\x01",
		}
		for i, s := range []string{"WBK1\x02\x00\x00\x00\x02\x02\x02\x00\x03\x00", "b", "c"} {
			if draw>>i&1 == 1 {
				safe[4+i] = s
			}
		}
		x.hasSafe(safe)
		x.refuses(step, api.ErrNone)
		x.goes(crash(draw))
		x.hasSafe(safe)
		x.hasRing(0, 0, 1, true)
		x.recovers(4)
		x.hasRing(3, 0, 1, false)
	}
}

func TestCrashErrors(t *testing.T) {
	for _, draw := range []int{-1, -2, math.MinInt} {
		x := start(t)
		x.refuses(crash(draw), api.ErrRange)
		x.goes(begin(0, 1), write(0, 1, "a"))
		x.refuses(crash(draw), api.ErrRange)
		x.reads(1, 1, "a")
		x.goes(stop(0))
		x.wants(commit, api.Reply{N: 1})
		x.goes(step)
		x.refuses(crash(draw), api.ErrRange)
		x.goes(step, step, step)
		x.wants(step, api.Reply{N: 1})
		x.goes(crash(math.MaxInt))
		x.refuses(crash(draw), api.ErrRange)
		x.goes(comeBack, step)
		x.refuses(crash(draw), api.ErrRange)
		x.goes(step, step, step)
		x.reads(1, 1, "a")
	}
}

// The last number that was committed is known while the power is off, though the log would tell of more.
func TestTheLastNumberStays(t *testing.T) {
	x := start(t)
	for seq := 1; seq <= 3; seq++ {
		x.goes(begin(0, 1), write(0, seq, "a"), stop(0))
		x.commits(seq, 5)
	}
	x.goes(begin(0, 1), write(0, 4, "b"), stop(0))
	x.wants(commit, api.Reply{N: 4})
	x.goes(again(step, 4)...)
	x.goes(crash(1))
	x.hasRing(0, 0, 3, true)
	x.goes(comeBack)
	for range 7 {
		x.hasRing(0, 0, 3, true)
		x.runs(api.Txn{})
		x.goes(step)
	}
	x.hasRing(12, 0, 4, false)
	x.runs(api.Txn{Seq: 5})
	x.reads(4, 1, "b")
}

// P7.8 and P7.9

func TestRecoverErrors(t *testing.T) {
	x := start(t)
	x.refuses(comeBack, api.ErrBusy)
	x.goes(begin(0, 1), write(0, 1, "a"), stop(0))
	x.wants(commit, api.Reply{N: 1})
	x.refuses(comeBack, api.ErrBusy)
	x.rest()
	x.refuses(comeBack, api.ErrBusy)
	x.goes(crash(0), comeBack)
	for range 4 {
		x.refuses(comeBack, api.ErrBusy)
		x.goes(step)
	}
	x.refuses(comeBack, api.ErrBusy)
}

func TestARecoveryStepByStep(t *testing.T) {
	x := start(t)
	x.goes(begin(0, 3), write(0, 1, "one"), write(0, 2, "two"), write(0, 3, "three"), stop(0))
	x.commits(1, 7)
	x.goes(begin(0, 2), revoke(0, 1), write(0, 2, "new"), stop(0))
	x.commits(2, 6)
	x.goes(begin(0, 2), write(0, 2, "lost"), crash(0))
	safe := map[int]string{
		0: "WBK1\x01\x00\x00\x00\x01\x00",
		1: "WBK1\x02\x00\x00\x00\x01\x03\x01\x00\x02\x00\x03\x00", 2: "one", 3: "two", 4: "three", 5: "WBK1\x04\x00\x00\x00\x01",
		6: "WBK1\x03\x00\x00\x00\x02\x01\x01", 7: "WBK1\x02\x00\x00\x00\x02\x01\x02\x00", 8: "new", 9: "WBK1\x04\x00\x00\x00\x02",
	}
	x.hasSafe(safe)
	x.goes(comeBack)
	x.hasWritten()
	home := []api.Write{{At: 27, Text: text("new")}, {At: 28, Text: text("three")}}
	x.goes(step)
	x.hasWritten(home[0])
	x.goes(step)
	x.hasWritten(home...)
	x.goes(step)
	x.hasWritten()
	safe[27], safe[28] = "new", "three"
	x.hasSafe(safe)
	x.goes(step)
	x.hasWritten(api.Write{At: 0, Text: text("WBK1\x01\x00\x00\x00\x03\x09")})
	x.hasRing(0, 0, 2, true)
	x.runs(api.Txn{})
	x.goes(step)
	x.hasWritten()
	safe[0] = "WBK1\x01\x00\x00\x00\x03\x09"
	x.hasSafe(safe)
	x.hasRing(9, 0, 2, false)
	x.runs(api.Txn{Seq: 3})
	x.reads(0, 1, "")
	x.reads(1, 0, "")
	x.reads(2, 1, "new")
	x.reads(3, 1, "three")
	x.refuses(step, api.ErrNone)
	x.refuses(check, api.ErrNone)
	x.refuses(commit, api.ErrNone)
}

// Of a new disk there is nothing to put right but the super block.
func TestARecoveryOfNothing(t *testing.T) {
	x := start(t)
	for range 3 {
		x.goes(crash(0))
		x.hasRing(0, 0, 0, true)
		x.recovers(2)
		x.hasSafe(map[int]string{0: "WBK1\x01\x00\x00\x00\x01\x00"})
		x.hasRing(0, 0, 0, false)
		x.runs(api.Txn{Seq: 1})
		for b := range 12 {
			x.reads(b, 1, "")
		}
	}
}

// The last transaction to name a block says what it is, of those that were found alone.
func TestRolesBehindARecovery(t *testing.T) {
	x := start(t)
	x.goes(begin(0, 12))
	for b := range 6 {
		x.goes(write(0, b, "a"))
	}
	x.goes(fill(0, 6, "b"), fill(0, 7, "b"), revoke(0, 7), stop(0))
	x.Do(commit)
	x.rest()
	x.goes(begin(0, 3), revoke(0, 1), revoke(0, 2), revoke(0, 3), stop(0))
	x.Do(commit)
	x.rest()
	x.goes(begin(0, 4), write(0, 2, "c"), fill(0, 3, "d"), revoke(0, 4), write(0, 7, "e"), revoke(0, 6), stop(0))
	x.Do(commit)
	x.rest()
	x.goes(crash(0), comeBack)
	x.rest()
	for b, c := range []struct {
		role int
		s    string
	}{
		{1, "a"}, {0, ""}, {1, "c"}, {0, "d"}, {0, ""}, {1, "a"}, {0, "b"}, {1, "e"}, {1, ""}, {1, ""}, {1, ""}, {1, ""},
	} {
		x.reads(b, c.role, c.s)
	}
	// They all are home: the next time none of them is found any more.
	x.goes(crash(0), comeBack)
	x.rest()
	for b := range 12 {
		if r := x.Do(read(b)); r.N != 1 {
			t.Errorf("%d: %+v", b, r)
		}
	}
}

// A revocation that was found holds no data off, nor does one that was lost with the power.
func TestDataBehindARecovery(t *testing.T) {
	x := start(t)
	x.goes(begin(0, 3), write(0, 1, "a"), write(0, 2, "a"), stop(0))
	x.commits(1, 6)
	x.goes(begin(0, 3), revoke(0, 1), stop(0))
	x.commits(2, 4)
	x.goes(begin(0, 3), revoke(0, 2), stop(0))
	x.wants(commit, api.Reply{N: 3})
	x.goes(crash(0))
	x.recovers(4)
	x.reads(1, 0, "")
	x.reads(2, 1, "a")
	x.goes(begin(0, 3), fill(0, 1, "b"))
	x.refuses(fill(0, 2, "b"), api.ErrRole)
	x.refuses(fill(0, 5, "b"), api.ErrRole)
	x.reads(1, 2, "b")
	x.goes(revoke(0, 1))
	x.reads(1, 0, "")
}

// P7.10

func TestRun(t *testing.T) {
	l := acts(
		[]api.Act{{}, begin(0, 2), write(0, 1, "one"), fill(0, 2, "two"), read(2), commit, stop(0), commit},
		again(step, 7), []api.Act{step, check}, again(step, 4), []api.Act{read(1), crash(0), read(1), comeBack, step, step, read(2)},
	)
	want := slices.Repeat([]api.Reply{{}}, len(l))
	want[0].Code = api.ErrKind
	want[4] = api.Reply{N: 2, Text: text("two")}
	want[5].Code = api.ErrBusy
	want[7].N, want[14].N = 1, 1
	want[15].Code = api.ErrNone
	want[21] = api.Reply{N: 1, Text: text("one")}
	want[23].Code = api.ErrDown
	want[27] = api.Reply{N: 1, Text: text("two")}
	got, e := journal.Run(l)
	if !slices.Equal(got, want) || e != api.OK {
		t.Errorf("%+v, %d; want %+v", got, e, want)
	}
}

func TestRunOfMaxActs(t *testing.T) {
	for _, n := range []int{0, 1, 2, 399, 400} {
		got, e := journal.Run(again(read(3), n))
		want := slices.Repeat([]api.Reply{{Text: text("")}}, n)
		if !slices.Equal(got, want) || e != api.OK {
			t.Errorf("%d: %+v, %d", n, got, e)
		}
	}
	for _, n := range []int{401, 402, 5000} {
		if got, e := journal.Run(again(read(3), n)); len(got) != 0 || e != api.ErrFull {
			t.Errorf("%d: %+v, %d", n, got, e)
		}
	}
	for _, l := range [][]api.Act{nil, {}} {
		if got, e := journal.Run(l); len(got) != 0 || e != api.OK {
			t.Errorf("%+v, %d", got, e)
		}
	}
}

// What holds everywhere

// all is a history in which each kind of act goes well, and each is refused.
func all() []api.Act {
	return acts(
		whole(write(0, 1, "a"), write(0, 2, "b"), fill(0, 3, "c"), write(0, 12, "")), again(step, 3),
		[]api.Act{begin(1, 3), write(1, 2, "d"), commit, check}, again(step, 6),
		[]api.Act{revoke(1, 1), fill(1, 3, "e"), revoke(1, 9), stop(1), commit, read(1), fill(0, 1, "f")}, again(step, 9),
		[]api.Act{begin(2, 2), fill(2, 1, "f"), check, write(2, 5, "WBK1"), stop(2), stop(2), comeBack}, again(step, 6),
		[]api.Act{commit, begin(0, 1)}, again(step, 5), []api.Act{crash(-1), crash(5), crash(0), read(1), comeBack}, again(step, 2),
		[]api.Act{crash(1), comeBack, comeBack}, again(step, 6), []api.Act{read(1), read(2), read(3), read(5), begin(0, 13), {Kind: 12}},
		whole(write(0, 1, "g"), revoke(0, 1), revoke(0, 2)), again(step, 2), []api.Act{begin(1, 2), write(1, 2, "h"), read(2)},
	)
}

func TestRunIsAJournal(t *testing.T) {
	l := all()
	got, e := journal.Run(l)
	if len(got) != len(l) || e != api.OK {
		t.Fatalf("%d of %d, %d", len(got), len(l), e)
	}
	x, seen := start(t), map[api.Errno]int{}
	for i, a := range l {
		x.wants(a, got[i])
		seen[got[i].Code]++
	}
	for _, e := range []api.Errno{api.OK, api.ErrRange, api.ErrKind, api.ErrNone, api.ErrRole, api.ErrBusy, api.ErrDown} {
		if seen[e] == 0 {
			t.Errorf("no reply is %d", e)
		}
	}
}

func TestTheSameEachTime(t *testing.T) {
	first, _ := journal.Run(all())
	for range 20 {
		if got, _ := journal.Run(all()); !slices.Equal(got, first) {
			t.Fatalf("%+v; want %+v", got, first)
		}
	}
}

func TestWhatIsHandedInStays(t *testing.T) {
	l := acts(all(), again(write(0, 1, "spare"), 5))
	was, thin := slices.Clone(l), l[:len(l)-5]
	journal.Run(thin)
	if !slices.Equal(l, was) {
		t.Errorf("%+v; was %+v", l, was)
	}
	many := acts(again(read(1), 401), again(read(2), 5))
	was = slices.Clone(many)
	journal.Run(many[:401])
	if !slices.Equal(many, was) {
		t.Error("one of many is changed")
	}
}

// spoil writes over lists, and over their spare room.
func spoil[T any](l []T, with T) {
	l = l[:cap(l)]
	for i := range l {
		l[i] = with
	}
}

func (x bench) spoilAnswers() {
	d, r := x.Disk(), x.Running()
	spoil(d.Safe, "spoilt")
	spoil(d.Writes, api.Write{At: 99, Text: "spoilt"})
	spoil(r.Meta, api.Copy{Block: 99, Text: "spoilt"})
	spoil(r.Data, api.Copy{Block: 99, Text: "spoilt"})
	spoil(r.Revoked, 99)
}

func TestAnswersAreTheCallers(t *testing.T) {
	x, y := start(t), start(t)
	for _, a := range all() {
		x.wants(a, y.Do(a))
		x.spoilAnswers()
		if x.seen() != y.seen() {
			t.Fatalf("%+v: %s; want %s", a, x.seen(), y.seen())
		}
	}
}

// An answer stays as it is, too, whatever is done behind it.
func TestAnswersStay(t *testing.T) {
	x := start(t)
	type answer struct {
		d, asked api.Disk
		r, ran   api.Txn
	}
	answers := []answer{}
	for _, a := range all() {
		x.Do(a)
		d, r := x.Disk(), x.Running()
		asked := api.Disk{Safe: slices.Clone(d.Safe), Writes: slices.Clone(d.Writes)}
		ran := r
		ran.Meta, ran.Data, ran.Revoked = slices.Clone(r.Meta), slices.Clone(r.Data), slices.Clone(r.Revoked)
		answers = append(answers, answer{d, asked, r, ran})
	}
	for i, c := range answers {
		if !slices.Equal(c.d.Safe, c.asked.Safe) || !slices.Equal(c.d.Writes, c.asked.Writes) || !like(c.r, c.ran) {
			t.Errorf("behind act %d: %+v", i, c)
		}
	}
}

func TestRepliesAreTheCallers(t *testing.T) {
	first, _ := journal.Run(all())
	want := slices.Clone(first)
	again, _ := journal.Run(all())
	spoil(again, api.Reply{Code: 99})
	if !slices.Equal(first, want) {
		t.Error("two answers share their memory")
	}
}

// A copy of a journal goes its own way.
func TestCopiesOfAJournal(t *testing.T) {
	l := all()
	for n := range l {
		x := played(t, l[:n]...)
		y := x.branch()
		was := x.seen()
		for _, a := range []api.Act{begin(2, 1), write(2, 7, "other"), stop(0), stop(1), stop(2), commit, step, step, step, step, step, crash(7)} {
			y.Do(a)
		}
		if x.seen() != was {
			t.Fatalf("behind %d acts: %s; was %s", n, x.seen(), was)
		}
		z := played(t, l[:n]...)
		for _, a := range l[n:] {
			x.wants(a, z.Do(a))
		}
	}
}

func TestCopiesWithManyCommitted(t *testing.T) {
	for n := range 6 {
		x := start(t)
		for seq := 1; seq <= n; seq++ {
			x.goes(begin(0, 1), write(0, seq, "a"), stop(0))
			x.commits(seq, 5)
		}
		y := x.branch()
		for _, z := range []bench{x, y} {
			z.goes(begin(0, 1), write(0, 0, fmt.Sprint(z == x)), stop(0))
			z.commits(n+1, 5)
		}
		for _, z := range []bench{x, y} {
			z.reads(0, 1, fmt.Sprint(z == x))
			z.checks(n + 4)
			z.reads(0, 1, fmt.Sprint(z == x))
		}
	}
}

// What is refused might as well not have been asked.
func TestWhatIsRefusedChangesNothing(t *testing.T) {
	draw := draws()
	for range 200 {
		l := thrown(t, draw)
		replies, _ := journal.Run(l)
		x, y := start(t), start(t)
		for i, a := range l {
			x.Do(a)
			if replies[i].Code == api.OK {
				y.wants(a, replies[i])
			}
			if x.seen() != y.seen() {
				t.Fatalf("%+v, that is %+v: %s; want %s", a, replies[i], x.seen(), y.seen())
			}
		}
	}
}

// branch is a journal that goes its own way from here on.
func (x bench) branch() bench {
	k := *x.Journal
	return bench{x.T, &k}
}

// draws are numbers below n, the same each time.
func draws() func(n int) int {
	state := uint64(7)
	return func(n int) int {
		state = state*6364136223846793005 + 1442695040888963407
		return int(state>>33) % n
	}
}

// odd is an act of any kind, by numbers that may be out of their bounds.
func odd(draw func(int) int) api.Act {
	return api.Act{Kind: draw(15) - 1, H: draw(6) - 2, B: draw(16) - 2, N: draw(16) - 2, Text: "odd"}
}

// next is an act that fits how a journal stands, more often than not.
func (x bench) next(draw func(int) int, s string) api.Act {
	_, _, down := x.Ring()
	handles := x.Running().Handles
	h := slices.IndexFunc(handles[:], func(h api.Handle) bool { return h.On })
	busy := x.branch().Do(step).Code == api.OK
	switch n := draw(100); {
	case n < 1:
		return crash(draw(1 << 20))
	case n < 3:
		return odd(draw)
	case busy && (down || n < 60):
		return step
	case down:
		return comeBack
	case n < 10:
		return read(draw(12))
	case n < 13 || n < 25 && h < 0:
		return check
	case n < 16 || n < 70 && h < 0:
		return commit
	case n < 19 || h < 0:
		return begin(draw(3), 1+draw(4))
	case n < 40:
		return stop(h)
	case n < 65:
		return write(h, draw(12), s)
	case n < 80:
		return revoke(h, draw(12))
	default:
		return fill(h, draw(12), s)
	}
}

// thrown are acts that make a history.
func thrown(t *testing.T, draw func(int) int) []api.Act {
	x, l := start(t), []api.Act{}
	for n := range 400 {
		a := x.next(draw, fmt.Sprint("t", n))
		x.Do(a)
		l = append(l, a)
	}
	return l
}

func TestNoPanic(t *testing.T) {
	odd := []int{math.MinInt, math.MinInt32, -1, 0, 1, 2, 3, 11, 12, 13, 400, math.MaxInt32, math.MaxInt32 + 1, math.MaxInt}
	draw := draws()
	for range 300 {
		x := start(t)
		for range 401 {
			a := api.Act{Kind: draw(14), H: odd[draw(len(odd))], B: odd[draw(len(odd))], N: odd[draw(len(odd))]}
			if draw(3) > 0 {
				a.H, a.B, a.N = draw(3), draw(12), draw(4)
			}
			if draw(20) == 0 {
				a.Kind = odd[draw(len(odd))]
			}
			a.Text = strings.Repeat("WBK1", draw(20))
			x.Do(a)
		}
		if d := x.Disk(); len(d.Safe) != 37 {
			t.Errorf("%+v", d)
		}
	}
}
