package journal

import (
	"reflect"
	"testing"

	"wastebook/api"
	"wastebook/disk"
	"wastebook/stamp"
)

// What MaxActs acts on a new journal can't reach is laid on its disk here, or into it.

// laid is a journal whose power is off, on a disk with a super block, and the log from its At on.
func laid(t *testing.T, seq, at int, log ...api.Mark) *Journal {
	t.Helper()
	j := New()
	lay := func(n int, m api.Mark) {
		s, e := stamp.Encode(m)
		if e != api.OK {
			t.Fatalf("%+v: %d", m, e)
		}
		j.disk.Safe[n] = s
	}
	lay(0, api.Mark{Kind: api.Super, Seq: seq, At: at})
	for i, m := range log {
		lay(1+(at+i)%24, m)
	}
	wantCode(t, j, api.Act{Kind: api.ActCrash}, api.OK)
	return j
}

func wantCode(t *testing.T, j *Journal, a api.Act, e api.Errno) api.Reply {
	t.Helper()
	r := j.Do(a)
	if r.Code != e {
		t.Errorf("%+v: %+v; want %d", a, r, e)
	}
	return r
}

// wantRefused asks for a refusal, and that nothing of the journal is changed but how many acts were done.
func wantRefused(t *testing.T, j *Journal, a api.Act, e api.Errno) {
	t.Helper()
	was := *j
	if r := j.Do(a); r != (api.Reply{Code: e}) {
		t.Errorf("%+v: %+v; want %d", a, r, e)
	}
	was.acts++
	if !reflect.DeepEqual(*j, was) {
		t.Errorf("%+v: %+v; was %+v", a, *j, was)
	}
}

func rest(j *Journal) (r api.Reply) {
	for len(j.steps) > 0 {
		r = j.Do(api.Act{Kind: api.ActStep})
	}
	return r
}

// open is a transaction with a copy in it, and its handle on.
func open(t *testing.T, j *Journal) {
	t.Helper()
	wantCode(t, j, api.Act{Kind: api.ActBegin, N: 1}, api.OK)
	wantCode(t, j, api.Act{Kind: api.ActWrite, B: 3, Text: "a"}, api.OK)
}

func TestSeqAtItsEnd(t *testing.T) {
	for _, seq := range []int{api.MaxSeq - 3, api.MaxSeq - 2, api.MaxSeq - 1, api.MaxSeq} {
		j := laid(t, seq, 7)
		wantCode(t, j, api.Act{Kind: api.ActRecover}, api.OK)
		rest(j)
		if r, last, down := j.Ring(); r != (api.Ring{Head: 7}) || last != seq-1 || down || j.Running().Seq != seq {
			t.Errorf("%d: %+v, %d, %v, %+v", seq, r, last, down, j.Running())
		}
		for ; seq <= api.MaxSeq-2; seq++ {
			open(t, j)
			wantCode(t, j, api.Act{Kind: api.ActStop}, api.OK)
			if r := wantCode(t, j, api.Act{Kind: api.ActCommit}, api.OK); r.N != seq {
				t.Errorf("%d: %+v", seq, r)
			}
			if r := rest(j); r != (api.Reply{N: seq}) || j.last != seq || j.running.Seq != seq+1 {
				t.Errorf("%d: %+v, %+v", seq, r, *j)
			}
		}
		wantRefused(t, j, api.Act{Kind: api.ActCommit}, api.ErrNone)
		open(t, j)
		wantRefused(t, j, api.Act{Kind: api.ActCommit}, api.ErrBusy)
		wantCode(t, j, api.Act{Kind: api.ActStop}, api.OK)
		wantRefused(t, j, api.Act{Kind: api.ActCommit}, api.ErrFull)
		wantRefused(t, j, api.Act{Kind: api.ActCommit}, api.ErrFull)
	}
}

// The last number that may be committed goes home and is recovered as any other.
func TestTheLastSeqThatMayBe(t *testing.T) {
	j := laid(t, api.MaxSeq-2, 23)
	wantCode(t, j, api.Act{Kind: api.ActRecover}, api.OK)
	rest(j)
	open(t, j)
	wantCode(t, j, api.Act{Kind: api.ActStop}, api.OK)
	wantCode(t, j, api.Act{Kind: api.ActCommit}, api.OK)
	rest(j)
	k := *j
	wantCode(t, j, api.Act{Kind: api.ActCheck}, api.OK)
	rest(j)
	wantCode(t, &k, api.Act{Kind: api.ActCrash}, api.OK)
	wantCode(t, &k, api.Act{Kind: api.ActRecover}, api.OK)
	rest(&k)
	for _, x := range []*Journal{j, &k} {
		if m, e := stamp.Decode(x.disk.Safe[0]); e != api.OK || m.Seq != api.MaxSeq-1 || m.At != 2 {
			t.Errorf("%+v, %d", m, e)
		}
		if r := wantCode(t, x, api.Act{Kind: api.ActRead, B: 3}, api.OK); r.Text != disk.Fit("a") || r.N != api.Meta {
			t.Errorf("%+v", r)
		}
		if x.last != api.MaxSeq-2 || x.running.Seq != api.MaxSeq-1 || x.ring != (api.Ring{Head: 2}) {
			t.Errorf("%+v", *x)
		}
	}
}

// A log that no journal wrote may count up to MaxSeq - 1; then one with MaxSeq runs, and none of it is committed any more.
func TestALogUpToTheLastSeq(t *testing.T) {
	j := laid(t, api.MaxSeq-1, 0, api.Mark{Kind: api.Commit, Seq: api.MaxSeq - 1}, api.Mark{Kind: api.Commit, Seq: api.MaxSeq})
	wantCode(t, j, api.Act{Kind: api.ActRecover}, api.OK)
	rest(j)
	if j.down || j.last != api.MaxSeq-1 || j.running.Seq != api.MaxSeq || j.ring != (api.Ring{Head: 1}) {
		t.Errorf("%+v", *j)
	}
	open(t, j)
	wantCode(t, j, api.Act{Kind: api.ActStop}, api.OK)
	wantRefused(t, j, api.Act{Kind: api.ActCommit}, api.ErrFull)
}

func TestCommitWithoutRoom(t *testing.T) {
	for _, c := range []struct {
		r api.Ring
		e api.Errno
	}{{api.Ring{Used: 22}, api.ErrSpace}, {api.Ring{Head: 5, Used: 24}, api.ErrSpace}, {api.Ring{Head: 24}, api.ErrRange}, {api.Ring{Head: -1}, api.ErrRange}} {
		j := New()
		open(t, j)
		wantCode(t, j, api.Act{Kind: api.ActStop}, api.OK)
		j.ring = c.r
		wantRefused(t, j, api.Act{Kind: api.ActCommit}, c.e)
	}
	j := New()
	open(t, j)
	wantCode(t, j, api.Act{Kind: api.ActStop}, api.OK)
	j.ring = api.Ring{Head: 5, Used: 24}
	j.running.Seq = api.MaxSeq - 1
	wantRefused(t, j, api.Act{Kind: api.ActCommit}, api.ErrFull)
	j.ring = api.Ring{Used: 21}
	j.running.Seq = api.MaxSeq - 2
	wantCode(t, j, api.Act{Kind: api.ActCommit}, api.OK)
}

func TestRecoverWithoutASuperBlock(t *testing.T) {
	for _, s := range []string{disk.Fit(""), disk.Fit("WBK1\x01"), disk.Fit("WBK1\x04\x00\x00\x00\x01"), disk.Fit("WBK1\x01\x00\x00\x00\x01\x18")} {
		j := laid(t, 1, 0)
		j.disk.Safe[0] = s
		wantRefused(t, j, api.Act{Kind: api.ActRecover}, api.ErrForm)
		wantRefused(t, j, api.Act{Kind: api.ActRecover}, api.ErrForm)
		wantRefused(t, j, api.Act{Kind: api.ActStep}, api.ErrNone)
		wantRefused(t, j, api.Act{Kind: api.ActRead}, api.ErrDown)
		// The power being on comes first, and a disk that is none ahead of what is on it.
		j.down = false
		wantRefused(t, j, api.Act{Kind: api.ActRecover}, api.ErrBusy)
		j.down, j.disk.Safe = true, j.disk.Safe[:36]
		wantRefused(t, j, api.Act{Kind: api.ActRecover}, api.ErrRange)
	}
}

// A step that a disk refuses is not gone.
func TestAStepThatIsRefused(t *testing.T) {
	j := New()
	open(t, j)
	wantCode(t, j, api.Act{Kind: api.ActStop}, api.OK)
	wantCode(t, j, api.Act{Kind: api.ActCommit}, api.OK)
	for range api.MaxWrite {
		j.disk.Writes = append(j.disk.Writes, api.Write{At: 36, Text: disk.Fit("")})
	}
	wantRefused(t, j, api.Act{Kind: api.ActStep}, api.ErrFull)
	j.disk.Writes = nil
	if r := rest(j); r != (api.Reply{N: 1}) || len(j.steps) != 0 {
		t.Errorf("%+v, %+v", r, j.steps)
	}
}

// Of what lists and descriptors of found transactions name, the last one counts, wherever the log lies.
func TestRolesOfAFoundLog(t *testing.T) {
	for at := range 24 {
		copied := func(seq, b int) []api.Mark {
			return []api.Mark{
				{Kind: api.Descriptor, Seq: seq, Tags: []api.Tag{{Block: b}}}, {Kind: api.Commit, Seq: 1}, {Kind: api.Commit, Seq: seq},
			}
		}
		revoked := func(seq int, l ...int) []api.Mark {
			return []api.Mark{{Kind: api.List, Seq: seq, Blocks: l}, {Kind: api.Commit, Seq: seq}}
		}
		log := append(copied(5, 1), copied(6, 2)...)
		log = append(log, revoked(7, 1, 2, 3)...)
		log = append(log, copied(8, 2)...)
		log = append(log, revoked(9, 4)...)
		log = append(log, copied(9, 4)...) // another number: this one is none
		j := laid(t, 5, at, log...)
		wantCode(t, j, api.Act{Kind: api.ActRecover}, api.OK)
		rest(j)
		for b := range 12 {
			want := api.Meta
			if b == 1 || b == 3 || b == 4 {
				want = api.NoRole
			}
			if r := wantCode(t, j, api.Act{Kind: api.ActRead, B: b}, api.OK); r.N != want {
				t.Errorf("At %d: block %d: %+v", at, b, r)
			}
		}
		if j.last != 9 || j.running.Seq != 10 || j.ring != (api.Ring{Head: (at + 13) % 24}) {
			t.Errorf("At %d: %+v", at, *j)
		}
	}
}

// Nothing of what was is left by a failure of the power, and nothing of a recovery behind it.
func TestTheJournalIsSetAnew(t *testing.T) {
	j := New()
	open(t, j)
	wantCode(t, j, api.Act{Kind: api.ActRevoke, B: 3}, api.OK)
	wantCode(t, j, api.Act{Kind: api.ActStop}, api.OK)
	wantCode(t, j, api.Act{Kind: api.ActCommit}, api.OK)
	rest(j)
	open(t, j)
	wantCode(t, j, api.Act{Kind: api.ActStop}, api.OK)
	wantCode(t, j, api.Act{Kind: api.ActCommit}, api.OK)
	open(t, j)
	was := *j
	wantCode(t, j, api.Act{Kind: api.ActCrash}, api.OK)
	want := Journal{acts: was.acts + 1, disk: j.disk, last: 1, down: true}
	if !reflect.DeepEqual(*j, want) {
		t.Errorf("%+v; want %+v", *j, want)
	}
	wantCode(t, j, api.Act{Kind: api.ActRecover}, api.OK)
	rest(j)
	want = Journal{acts: was.acts + 2 + 2, disk: j.disk, ring: api.Ring{Head: 2}, last: 1, running: api.Txn{Seq: 2}}
	for b := range want.blocks {
		want.blocks[b].role = api.Meta
	}
	want.blocks[3].role = api.NoRole
	if !reflect.DeepEqual(*j, want) {
		t.Errorf("%+v; want %+v", *j, want)
	}
}
