package journal_test

import (
	"fmt"
	"slices"
	"testing"

	"wastebook/api"
	"wastebook/disk"
	"wastebook/journal"
	"wastebook/scan"
)

// ways is how many draws there are, by which the power may fail now.
func (x bench) ways() int {
	n, writes := 1, map[int]int{}
	for _, w := range x.Disk().Writes {
		writes[w.At]++
	}
	for _, w := range writes {
		n *= 1 + w
	}
	return n
}

// eachFailure asks of the power failing behind each number of steps of what is under way, in each way; left: steps of it are not done yet.
func (x bench) eachFailure(ask func(y bench, left bool)) {
	x.Helper()
	for left := true; left; x.Do(step) {
		left = x.branch().Do(step).Code == api.OK
		for draw := range x.ways() {
			y := x.branch()
			y.goes(crash(draw))
			ask(y, left)
		}
	}
}

// The examples of the whole

func TestExample1(t *testing.T) {
	x := start(t)
	x.goes(begin(0, 2), write(0, 3, "a"), write(0, 4, "b"), stop(0))
	x.wants(commit, api.Reply{N: 1})
	written := 0
	for range 5 {
		ahead := len(x.Disk().Writes)
		x.goes(step)
		written += max(0, len(x.Disk().Writes)-ahead)
		x.hasRing(4, 4, 0, false)
	}
	x.wants(step, api.Reply{N: 1})
	if written != 4 {
		t.Errorf("%d blocks were written", written)
	}
	x.hasRing(4, 4, 1, false)
	x.reads(3, 1, "a")
	x.reads(4, 1, "b")
}

func TestExample2(t *testing.T) {
	x := start(t)
	x.goes(begin(0, 2), write(0, 3, "old"), write(0, 4, "old"), stop(0))
	x.commits(1, 6)
	x.goes(begin(0, 2), write(0, 3, "new"), write(0, 4, "new"), stop(0))
	x.wants(commit, api.Reply{N: 2})
	seen := map[string]int{}
	x.eachFailure(func(y bench, left bool) {
		y.goes(comeBack)
		y.rest()
		_, last, _ := y.Ring()
		s := []string{1: "old", 2: "new"}[last]
		y.reads(3, 1, s)
		y.reads(4, 1, s)
		if left {
			seen[s]++
		} else if s != "new" {
			t.Error("what was through is lost")
		}
	})
	// Behind 0 to 3 writes and the flush, and with the commit that is not safe: 1+2+4+8+1+1 ways, and one.
	if seen["old"] != 17 || seen["new"] != 1 {
		t.Errorf("%v", seen)
	}
}

func TestExample3(t *testing.T) {
	x := start(t)
	x.goes(begin(0, 1), write(0, 3, "elder"), stop(0))
	x.commits(1, 5)
	x.goes(begin(0, 1), revoke(0, 3), stop(0))
	x.commits(2, 4)
	x.goes(begin(0, 0), fill(0, 3, "data"), stop(0))
	x.wants(commit, api.Reply{N: 3})
	x.goes(step, step)
	x.eachFailure(func(y bench, left bool) {
		if y.Disk().Safe[2] != text("elder") {
			t.Error("the elder copy is not in the log any more")
		}
		y.goes(comeBack)
		y.rest()
		y.reads(3, 0, "data")
	})
}

func TestExample4(t *testing.T) {
	x := start(t)
	x.goes(begin(0, 4), write(0, 1, "a"), write(0, 2, "b"), write(0, 3, "c"), stop(0))
	x.commits(1, 7)
	x.goes(begin(0, 2), revoke(0, 2), write(0, 3, "d"), stop(0))
	x.commits(2, 6)
	x.goes(crash(0))
	once := x.branch()
	once.recovers(5)
	want := once.Disk()
	x.goes(comeBack)
	ended := 0
	x.eachFailure(func(y bench, left bool) {
		if !left {
			return
		}
		y.goes(comeBack)
		y.eachFailure(func(z bench, left bool) {
			if !left {
				return
			}
			z.goes(comeBack, step, crash(1), comeBack)
			z.rest()
			ended++
			if !slices.Equal(z.Disk().Safe, want.Safe) {
				t.Errorf("%q; want %q", z.Disk().Safe, want.Safe)
			}
			z.hasRing(9, 0, 2, false)
			z.runs(api.Txn{Seq: 3})
			z.reads(1, 1, "a")
			z.reads(3, 1, "d")
		})
	})
	if ended < 50 {
		t.Errorf("%d ends", ended)
	}
}

// The power fails at every step

// busy is a journal with copies, data and revoked blocks in the log, the last of them being committed.
func busy(t *testing.T) bench {
	x := start(t)
	x.goes(begin(0, 5), write(0, 1, "a1"), write(0, 2, "a2"), write(0, 4, "a4"), fill(0, 3, "a3"), stop(0))
	x.commits(1, 9)
	x.goes(begin(0, 2), revoke(0, 4), write(0, 2, "b2"), stop(0))
	x.commits(2, 6)
	x.goes(begin(0, 4), fill(0, 4, "c4"), fill(0, 3, "c3"), write(0, 1, "c1"), revoke(0, 2), write(0, 5, "WBK1 c5"), stop(0))
	x.wants(commit, api.Reply{N: 3})
	return x
}

// wantBusy asks for what busy is behind a recovery: as behind two or three transactions; data may be ahead of that.
func wantBusy(y bench, least int) {
	y.Helper()
	r, last, down := y.Ring()
	if last < least || last > 3 || down || r.Used != 0 || y.Running().Seq != last+1 {
		y.Errorf("%+v, %d, %v", r, last, down)
		return
	}
	text1, text5 := "a1", ""
	if last == 3 {
		text1, text5 = "c1", "WBK1 c5"
	}
	role := func(b int) int { return y.Do(read(b)).N }
	y.reads(1, 1, text1)
	y.reads(5, 1, text5)
	if last == 2 {
		y.reads(2, 1, "b2")
	} else if role(2) == 0 {
		y.reads(2, 0, "")
	}
	data := func(b int, l ...string) {
		if s := y.Do(read(b)).Text; !slices.ContainsFunc(l, func(w string) bool { return s == text(w) }) {
			y.Errorf("%d: %q; want one of %q", b, s, l)
		}
	}
	if last == 3 {
		data(3, "c3")
		data(4, "c4")
	} else {
		data(3, "a3", "c3")
		data(4, "", "c4")
	}
}

func TestThePowerFailsInACommit(t *testing.T) {
	x, lasts := busy(t), map[int]int{}
	x.eachFailure(func(y bench, left bool) {
		y.hasRing(0, 0, []int{2, 3}[count(!left)], true)
		y.goes(comeBack)
		y.rest()
		wantBusy(y, []int{2, 3}[count(!left)])
		_, last, _ := y.Ring()
		lasts[last]++
	})
	// The data is 1+2+4 ways, its flush and what is ahead of the commit 1+2+4+8+16, the flush of that one, and the commit two: with it and without.
	if lasts[2] != 7+31+1+1 || lasts[3] != 1+1 {
		t.Errorf("%v", lasts)
	}
}

func count(is bool) int {
	if is {
		return 1
	}
	return 0
}

func TestThePowerFailsInACheck(t *testing.T) {
	x, roles := busy(t), map[int]int{}
	x.rest()
	x.goes(check)
	x.eachFailure(func(y bench, left bool) {
		y.hasRing(0, 0, 3, true)
		y.goes(comeBack)
		y.rest()
		wantBusy(y, 3)
		roles[y.Do(read(2)).N]++
	})
	// With the new super block nothing is found, and so no block is known to be revoked.
	if roles[0] == 0 || roles[1] != 2 {
		t.Errorf("%v", roles)
	}
}

func TestThePowerFailsInARecovery(t *testing.T) {
	x, draw, ended := busy(t), draws(), 0
	x.eachFailure(func(y bench, left bool) {
		if left && draw(2) > 0 {
			return
		}
		y.goes(comeBack)
		y.eachFailure(func(z bench, more bool) {
			z.goes(comeBack)
			for range draw(6) {
				z.Do(step)
			}
			z.goes(crash(draw(8)), comeBack)
			z.rest()
			wantBusy(z, []int{2, 3}[count(!left)])
			ended++
		})
	})
	if ended < 100 {
		t.Errorf("%d ends", ended)
	}
}

// What was recovered is a journal as any other.
func TestBehindARecoveryAllGoesOn(t *testing.T) {
	x := busy(t)
	x.eachFailure(func(y bench, left bool) {
		y.goes(comeBack)
		y.rest()
		_, last, _ := y.Ring()
		y.goes(begin(1, 4), write(1, 1, "new"), revoke(1, 5), write(1, 5, "too"), stop(1))
		y.wants(commit, api.Reply{N: last + 1})
		y.rest()
		y.goes(begin(1, 1), revoke(1, 5), stop(1))
		y.wants(commit, api.Reply{N: last + 2})
		y.rest()
		y.goes(begin(1, 0), fill(1, 5, "data"), stop(1))
		y.wants(commit, api.Reply{N: last + 3})
		y.rest()
		y.goes(crash(0), comeBack)
		y.rest()
		y.hasRing(y.begins(), 0, last+3, false)
		y.reads(1, 1, "new")
		y.reads(5, 0, "data")
	})
}

// begins is where the super block says that the log does.
func (x bench) begins() int { return int(x.Disk().Safe[0][9]) }

// A history that is thrown, held against one that has no log

// known is what must be told of a block; Sure: its text, too.
type known struct {
	role int
	text string
	sure bool
}

// ledger knows of no log and no disk: it has the blocks as they are behind each whole transaction.
type ledger struct {
	bench
	now      [12]known
	behind   map[int][12]known
	told     int            // the last that was told to be through
	sealed   int            // the last that was begun to be committed
	ahead    map[int]string // its data
	data     map[int]string // that of what runs
	found    api.Found
	through  int // how many were
	recovers int // how often
}

func newLedger(x bench) *ledger {
	l := &ledger{bench: x, data: map[int]string{}}
	for b := range l.now {
		l.now[b] = known{api.NoRole, text(""), true}
	}
	l.behind = map[int][12]known{0: l.now}
	return l
}

// act asks a journal, and holds what it says against what is known.
func (l *ledger) act(a api.Act) {
	_, _, wasDown := l.Ring()
	d := l.Disk()
	r := l.Do(a)
	if r.Code != api.OK {
		return
	}
	switch a.Kind {
	case api.ActWrite:
		l.now[a.B] = known{api.Meta, disk.Fit(a.Text), true}
	case api.ActData:
		l.now[a.B] = known{api.Data, disk.Fit(a.Text), true}
		l.data[a.B] = disk.Fit(a.Text)
	case api.ActRevoke:
		l.now[a.B] = known{role: api.NoRole}
		delete(l.data, a.B)
	case api.ActRead:
		l.holds(a.B, r)
	case api.ActCommit:
		l.behind[r.N] = l.now
		l.sealed, l.ahead, l.data = r.N, l.data, map[int]string{}
	case api.ActStep:
		l.told = max(l.told, r.N)
		l.through += min(r.N, 1)
		if _, _, down := l.Ring(); wasDown && !down {
			l.back()
		}
	case api.ActRecover:
		l.found, _ = scan.Scan(d)
	}
}

func (l *ledger) holds(b int, r api.Reply) {
	l.Helper()
	if w := l.now[b]; r.N != w.role || w.sure && r.Text != w.text {
		l.Fatalf("block %d: %+v; want %+v", b, r, w)
	}
}

// back holds the blocks against those behind some number of whole transactions, no fewer than were told to be through.
func (l *ledger) back() {
	l.Helper()
	l.recovers++
	_, last, _ := l.Ring()
	if last < l.told || last > max(l.told, l.sealed) {
		l.Fatalf("%d; %d was through, %d begun", last, l.told, l.sealed)
	}
	l.now = l.behind[last]
	for b := range l.now {
		l.now[b].role = l.role(b)
		y := l.branch()
		r := y.Do(read(b))
		if r.Code != api.OK {
			continue // no act is left
		}
		if s, is := l.ahead[b]; is && last < l.sealed && r.Text == s {
			l.now[b].text, l.now[b].sure = s, true
		}
		l.holds(b, r)
	}
	l.told, l.sealed, l.ahead, l.data = last, last, nil, map[int]string{}
	l.behind = map[int][12]known{last: l.now}
}

func (l *ledger) role(b int) int {
	role := api.Meta
	for _, x := range l.found.Txns {
		for _, c := range x.Meta {
			if c.Block == b {
				role = api.Meta
			}
		}
		if slices.Contains(x.Revoked, b) {
			role = api.NoRole
		}
	}
	return role
}

func TestThrownHistories(t *testing.T) {
	draw, through, recovers := draws(), 0, 0
	for range 400 {
		l := newLedger(bench{t, journal.New()})
		for n := range 400 {
			l.act(l.next(draw, fmt.Sprint("t", n)))
		}
		through += l.through
		recovers += l.recovers
	}
	if through < 4000 || recovers < 1000 {
		t.Errorf("%d transactions, %d recoveries", through, recovers)
	}
}
