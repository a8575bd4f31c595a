package seal_test

import (
	"fmt"
	"math"
	"slices"
	"strings"
	"testing"

	"wastebook/api"
	"wastebook/disk"
	"wastebook/ring"
	"wastebook/seal"
	"wastebook/stamp"
	"wastebook/txn"
)

var noSeqs = []int{0, -1, api.MaxSeq + 1, math.MinInt, math.MaxInt}
var noPlaces = []int{-1, api.LogSize, api.LogSize + 1, math.MinInt, math.MaxInt}
var noBlocks = []int{-1, api.Blocks, api.Blocks + 1, math.MinInt, math.MaxInt}
var noTexts = []string{"", "a", text("a")[1:], text("a") + "\x00", text("a") + text("b")}

var flush = api.Step{Kind: 2}

func write(at int, s string) api.Step { return api.Step{Kind: 1, At: at, Text: s} }

// text is a block's.
func text(s string) string { return s + strings.Repeat("\x00", 32-len(s)) }

// copies are of these blocks, each with a text of its own.
func copies(blocks ...int) []api.Copy {
	l := []api.Copy{}
	for _, b := range blocks {
		l = append(l, api.Copy{Block: b, Text: text(fmt.Sprint("c", b))})
	}
	return l
}

func upTo(n int) []int { return fromTo(0, n) }

func fromTo(n, end int) []int {
	l := []int{}
	for ; n < end; n++ {
		l = append(l, n)
	}
	return l
}

func clone(x api.Txn) api.Txn {
	x.Meta, x.Data, x.Revoked = slices.Clone(x.Meta), slices.Clone(x.Data), slices.Clone(x.Revoked)
	return x
}

func cloneAll(l []api.Txn) []api.Txn {
	to := []api.Txn{}
	for _, x := range l {
		to = append(to, clone(x))
	}
	return to
}

// like takes lists without elements for the same, be they nil or not.
func like(a, b api.Txn) bool {
	return a.Seq == b.Seq && slices.Equal(a.Meta, b.Meta) && slices.Equal(a.Data, b.Data) &&
		slices.Equal(a.Revoked, b.Revoked) && a.Handles == b.Handles
}

// mixed needs five blocks of the log.
func mixed() api.Txn {
	return api.Txn{Seq: 9, Meta: []api.Copy{{Block: 1, Text: text("a")}, {Block: 4, Text: text("WBK1x")}}, Data: copies(7, 10), Revoked: []int{2}}
}

// wantCommit asks for an answer, and that what was handed in is as it was.
func wantCommit(t *testing.T, r api.Ring, x api.Txn, to api.Ring, steps []api.Step, e api.Errno) {
	t.Helper()
	was := clone(x)
	gotTo, got, gotE := seal.Commit(r, x)
	if gotTo != to || !slices.Equal(got, steps) || gotE != e {
		t.Errorf("Commit %+v, %+v: %+v, %+v, %d; want %+v, %+v, %d", r, was, gotTo, got, gotE, to, steps, e)
	}
	if !like(x, was) {
		t.Errorf("Commit %+v, %+v: that is now %+v", r, was, x)
	}
}

func wantRefused(t *testing.T, r api.Ring, x api.Txn, e api.Errno) {
	t.Helper()
	wantCommit(t, r, x, r, nil, e)
}

// The texts of the blocks of the log are written out here, byte by byte.
func TestCommitByHand(t *testing.T) {
	a, b := text("a"), text("b")
	end := text("WBK1\x04\x00\x00\x00\x09")
	for what, c := range map[string]struct {
		r     api.Ring
		x     api.Txn
		to    api.Ring
		steps []api.Step
	}{
		"nothing": {
			api.Ring{}, api.Txn{Seq: 9}, api.Ring{Head: 1, Used: 1},
			[]api.Step{write(1, end), flush},
		},
		"nothing, in the last place": {
			api.Ring{Head: 23, Used: 23}, api.Txn{Seq: 9}, api.Ring{Head: 0, Used: 24},
			[]api.Step{write(24, end), flush},
		},
		"Data alone": {
			api.Ring{Head: 5, Used: 2}, api.Txn{Seq: 9, Data: []api.Copy{{Block: 0, Text: a}, {Block: 11, Text: b}}}, api.Ring{Head: 6, Used: 3},
			[]api.Step{write(25, a), write(36, b), flush, write(6, end), flush},
		},
		"Revoked alone": {
			api.Ring{Head: 5}, api.Txn{Seq: 9, Revoked: []int{0, 3, 11}}, api.Ring{Head: 7, Used: 2},
			[]api.Step{write(6, text("WBK1\x03\x00\x00\x00\x09\x03\x00\x03\x0b")), flush, write(7, end), flush},
		},
		"Meta alone": {
			api.Ring{Head: 22}, api.Txn{Seq: 9, Meta: []api.Copy{{Block: 0, Text: b}, {Block: 11, Text: a}}}, api.Ring{Head: 2, Used: 4},
			[]api.Step{write(23, text("WBK1\x02\x00\x00\x00\x09\x02\x00\x00\x0b\x00")), write(24, b), write(1, a), flush, write(2, end), flush},
		},
		"all": {
			api.Ring{Head: 22}, mixed(), api.Ring{Head: 3, Used: 5},
			[]api.Step{
				write(32, text("c7")), write(35, text("c10")), flush,
				write(23, text("WBK1\x03\x00\x00\x00\x09\x01\x02")),
				write(24, text("WBK1\x02\x00\x00\x00\x09\x02\x01\x00\x04\x01")), write(1, a), write(2, text("\x00\x00\x00\x00x")), flush,
				write(3, end), flush,
			},
		},
		"Revoked and Data": {
			api.Ring{Head: 23, Used: 22}, api.Txn{Seq: 9, Data: []api.Copy{{Block: 3, Text: a}}, Revoked: []int{4}}, api.Ring{Head: 1, Used: 24},
			[]api.Step{write(28, a), flush, write(24, text("WBK1\x03\x00\x00\x00\x09\x01\x04")), flush, write(1, end), flush},
		},
	} {
		t.Run(what, func(t *testing.T) { wantCommit(t, c.r, c.x, c.to, c.steps, api.OK) })
	}
}

func TestCommitInPartsOfMaxTags(t *testing.T) {
	ten := "\x0a\x00\x00\x01\x00\x02\x00\x03\x00\x04\x00\x05\x00\x06\x00\x07\x00\x08\x00\x09\x00"
	for n, more := range map[int]string{9: "", 10: "", 11: "\x01\x0a\x00", 12: "\x02\x0a\x00\x0b\x00"} {
		l := copies(upTo(n)...)
		first := ten
		if n == 9 {
			first = "\x09" + ten[1:19]
		}
		texts := []string{text("WBK1\x02\x00\x00\x00\x05" + first)}
		for i, c := range l {
			if i == 10 {
				texts = append(texts, text("WBK1\x02\x00\x00\x00\x05"+more))
			}
			texts = append(texts, c.Text)
		}
		steps := []api.Step{}
		for i, s := range texts {
			steps = append(steps, write(1+i, s))
		}
		steps = append(steps, flush, write(1+len(texts), text("WBK1\x04\x00\x00\x00\x05")), flush)
		wantCommit(t, api.Ring{}, api.Txn{Seq: 5, Meta: l}, api.Ring{Head: len(texts) + 1, Used: len(texts) + 1}, steps, api.OK)
	}
}

// There are fewer blocks than a list may have: all of them are in one.
func TestCommitOfAllRevoked(t *testing.T) {
	list := text("WBK1\x03\x00\x00\x00\x05\x0c\x00\x01\x02\x03\x04\x05\x06\x07\x08\x09\x0a\x0b")
	steps := []api.Step{write(24, list), flush, write(1, text("WBK1\x04\x00\x00\x00\x05")), flush}
	wantCommit(t, api.Ring{Head: 23}, api.Txn{Seq: 5, Revoked: upTo(12)}, api.Ring{Head: 1, Used: 2}, steps, api.OK)
}

// What goes home is as it is: only what stands in the log is escaped.
func TestCommitEscapesWhatIsInTheLog(t *testing.T) {
	long := "WBK1WBK1" + strings.Repeat("z", 24)
	mark := text("WBK1\x04\x00\x00\x00\x03")
	for _, c := range []struct{ s, in, flag string }{
		{text("WBK1"), text(""), "\x01"},
		{text("WBK1x"), text("\x00\x00\x00\x00x"), "\x01"},
		{long, "\x00\x00\x00\x00WBK1" + strings.Repeat("z", 24), "\x01"},
		{mark, text("\x00\x00\x00\x00\x04\x00\x00\x00\x03"), "\x01"},
		{text(""), text(""), "\x00"},
		{text("\x00\x00\x00\x00x"), text("\x00\x00\x00\x00x"), "\x00"},
		{text("WBK2"), text("WBK2"), "\x00"},
		{text("WBK"), text("WBK"), "\x00"},
		{text(" WBK1"), text(" WBK1"), "\x00"},
		{text("wbk1"), text("wbk1"), "\x00"},
	} {
		x := api.Txn{Seq: 3, Meta: []api.Copy{{Block: 6, Text: c.s}}, Data: []api.Copy{{Block: 8, Text: c.s}}}
		steps := []api.Step{
			write(33, c.s), flush,
			write(1, text("WBK1\x02\x00\x00\x00\x03\x01\x06"+c.flag)), write(2, c.in), flush,
			write(3, mark), flush,
		}
		wantCommit(t, api.Ring{}, x, api.Ring{Head: 3, Used: 3}, steps, api.OK)
	}
}

func TestCommitOfEachSeq(t *testing.T) {
	for seq, four := range map[int]string{
		1: "\x00\x00\x00\x01", 255: "\x00\x00\x00\xff", 256: "\x00\x00\x01\x00", 1<<24 + 2: "\x01\x00\x00\x02",
		api.MaxSeq - 1: "\x7f\xff\xff\xfe", api.MaxSeq: "\x7f\xff\xff\xff",
	} {
		x := mixed()
		x.Seq = seq
		_, steps, e := seal.Commit(api.Ring{}, x)
		if e != api.OK || len(steps) != 10 {
			t.Fatalf("Seq %d: %+v, %d", seq, steps, e)
		}
		for i, kind := range map[int]string{3: "\x03", 4: "\x02", 8: "\x04"} {
			if !strings.HasPrefix(steps[i].Text, "WBK1"+kind+four) {
				t.Errorf("Seq %d: %d: %+v", seq, i, steps[i])
			}
		}
	}
}

// shapes are transactions with so many in each list, the blocks dealt out in turn or one list behind another.
func shapes() []api.Txn {
	l := []api.Txn{}
	for meta := range 13 {
		for data := range 13 - meta {
			for revoked := range 13 - meta - data {
				l = append(l, api.Txn{
					Seq: 1 + len(l), Meta: copies(fromTo(data, data+meta)...),
					Data: copies(upTo(data)...), Revoked: fromTo(12-revoked, 12),
				})
			}
		}
	}
	for turn := range 3 {
		x := api.Txn{Seq: 77}
		for b := range 12 {
			switch (b + turn) % 3 {
			case 0:
				x.Meta = append(x.Meta, api.Copy{Block: b, Text: text(fmt.Sprint("WBK1", b))})
			case 1:
				x.Data = append(x.Data, api.Copy{Block: b, Text: text(fmt.Sprint("WBK1", b))})
			case 2:
				x.Revoked = append(x.Revoked, b)
			}
		}
		l = append(l, x)
	}
	return l
}

func encoded(m api.Mark) string {
	s, e := stamp.Encode(m)
	if e != api.OK {
		panic(e)
	}
	return s
}

// logged is the blocks of the log ahead of the commit, the descriptors put among the copies from the end on.
func logged(x api.Txn) []string {
	l := []string{}
	tags := []api.Tag{}
	for i := len(x.Meta) - 1; i >= 0; i-- {
		s, escaped := stamp.Escape(x.Meta[i].Text)
		l = slices.Insert(l, 0, s)
		tags = slices.Insert(tags, 0, api.Tag{Block: x.Meta[i].Block, Escaped: escaped})
		if i%10 == 0 {
			l = slices.Insert(l, 0, encoded(api.Mark{Kind: api.Descriptor, Seq: x.Seq, Tags: tags}))
			tags = nil
		}
	}
	if len(x.Revoked) > 0 {
		l = slices.Insert(l, 0, encoded(api.Mark{Kind: api.List, Seq: x.Seq, Blocks: x.Revoked}))
	}
	return l
}

// model is the steps, at places that are walked one by one, and the ring.
func model(r api.Ring, x api.Txn) (api.Ring, []api.Step) {
	steps := []api.Step{}
	walk := func(s string) {
		steps = append(steps, write(r.Head+1, s))
		if r.Head++; r.Head == 24 {
			r.Head = 0
		}
		r.Used++
	}
	for _, c := range x.Data {
		steps = append(steps, write(25+c.Block, c.Text))
	}
	if len(steps) > 0 {
		steps = append(steps, flush)
	}
	l := logged(x)
	for _, s := range l {
		walk(s)
	}
	if len(l) > 0 {
		steps = append(steps, flush)
	}
	walk(encoded(api.Mark{Kind: api.Commit, Seq: x.Seq}))
	return r, append(steps, flush)
}

// As many blocks as are Free are enough, and one more is not.
func TestCommitOfAllShapesAndRings(t *testing.T) {
	met := map[api.Errno]int{}
	for _, x := range shapes() {
		need := len(logged(x)) + 1
		for _, used := range []int{0, 1, 12, 23 - need, 24 - need, 25 - need, 23, 24} {
			for head := range 24 {
				r, e := api.Ring{Head: head, Used: used}, api.OK
				to, steps := model(r, x)
				if need > 24-used {
					to, steps, e = r, nil, api.ErrSpace
				}
				met[e]++
				wantCommit(t, r, x, to, steps, e)
			}
		}
		if t.Failed() {
			// One shape tells enough: there are hundreds.
			return
		}
	}
	if met[api.OK] == 0 || met[api.ErrSpace] == 0 {
		t.Errorf("met: %v", met)
	}
}

func TestCommitOfJustTheRoom(t *testing.T) {
	for _, c := range []struct {
		x    api.Txn
		need int
	}{
		{api.Txn{Seq: 1}, 1},
		{api.Txn{Seq: 1, Data: copies(upTo(12)...)}, 1},
		{api.Txn{Seq: 1, Revoked: upTo(12)}, 2},
		{api.Txn{Seq: 1, Meta: copies(3)}, 3},
		{mixed(), 5},
		{api.Txn{Seq: 1, Meta: copies(upTo(10)...)}, 12},
		{api.Txn{Seq: 1, Meta: copies(upTo(11)...)}, 14},
		{api.Txn{Seq: 1, Meta: copies(upTo(12)...)}, 15},
		{api.Txn{Seq: 1, Meta: copies(upTo(11)...), Revoked: []int{11}}, 15},
	} {
		for head := range 24 {
			r := api.Ring{Head: head, Used: 24 - c.need}
			to, steps, e := seal.Commit(r, c.x)
			if e != api.OK || to.Used != 24 || to.Head != (head+c.need)%24 || len(steps) == 0 {
				t.Errorf("%+v, %+v: %+v, %d steps, %d", r, c.x, to, len(steps), e)
			}
			r.Used++
			wantRefused(t, r, c.x, api.ErrSpace)
			wantRefused(t, api.Ring{Head: head, Used: 24}, c.x, api.ErrSpace)
		}
	}
}

func badRings() []api.Ring {
	l := []api.Ring{}
	for _, n := range noPlaces {
		l = append(l, api.Ring{Head: n}, api.Ring{Head: n, Used: 24})
	}
	for _, n := range []int{-1, 25, 48, math.MinInt, math.MaxInt} {
		l = append(l, api.Ring{Used: n}, api.Ring{Head: 23, Used: n}, api.Ring{Head: -1, Used: n})
	}
	return l
}

// badTxns are mixed ones, each with one thing that is wrong.
func badTxns() map[string]api.Txn {
	bad := map[string]api.Txn{"noughts": {}}
	spoil := func(what string, f func(x *api.Txn)) {
		x := mixed()
		f(&x)
		bad[what] = x
	}
	for _, n := range noSeqs {
		spoil(fmt.Sprint("Seq ", n), func(x *api.Txn) { x.Seq = n })
	}
	lists := [][]int{{0, 0}, {5, 3}, {0, 2, 1}, upTo(13), append(upTo(12), 0), upTo(40)}
	for _, b := range noBlocks {
		lists = append(lists, []int{b}, []int{3, b}, []int{b, 3})
	}
	for _, l := range lists {
		spoil(fmt.Sprint("Meta of ", l), func(x *api.Txn) { x.Meta, x.Data, x.Revoked = copies(l...), nil, nil })
		spoil(fmt.Sprint("Data of ", l), func(x *api.Txn) { x.Meta, x.Data, x.Revoked = nil, copies(l...), nil })
		spoil(fmt.Sprint("Revoked of ", l), func(x *api.Txn) { x.Meta, x.Data, x.Revoked = nil, nil, l })
	}
	for _, s := range noTexts {
		spoil(fmt.Sprintf("%q in Meta", s), func(x *api.Txn) { x.Meta[1].Text = s })
		spoil(fmt.Sprintf("%q in Data", s), func(x *api.Txn) { x.Data[0].Text = s })
	}
	spoil("1 in Meta and Data", func(x *api.Txn) { x.Data = copies(1) })
	spoil("1 in Meta and Revoked", func(x *api.Txn) { x.Revoked = []int{1} })
	spoil("7 in Data and Revoked", func(x *api.Txn) { x.Revoked = []int{7} })
	for h := range 3 {
		for _, left := range []int{-1, 1, 24, math.MinInt, math.MaxInt} {
			spoil(fmt.Sprintf("handle %d off with %d", h, left), func(x *api.Txn) { x.Handles[h].Left = left })
		}
		for _, left := range []int{-1, 25, math.MinInt, math.MaxInt} {
			spoil(fmt.Sprintf("handle %d on with %d", h, left), func(x *api.Txn) { x.Handles[h] = api.Handle{On: true, Left: left} })
		}
	}
	return bad
}

// openTxns are good, with one handle On and with several.
func openTxns() []api.Txn {
	l := []api.Txn{}
	for bits := 1; bits < 8; bits++ {
		for _, left := range []int{0, 1, 24} {
			x, none := mixed(), api.Txn{Seq: 1}
			for h := range 3 {
				if bits>>h&1 == 1 {
					x.Handles[h] = api.Handle{On: true, Left: left}
				}
			}
			none.Handles = x.Handles
			l = append(l, x, none)
		}
	}
	return l
}

// A full ring has no room for anything: that is said behind all else that is wrong.
func TestCommitErrorsInTheirOrder(t *testing.T) {
	for _, r := range badRings() {
		for _, x := range append(shapes(), mixed(), api.Txn{}, openTxns()[0]) {
			wantRefused(t, r, x, api.ErrRange)
		}
	}
	for _, r := range []api.Ring{{}, {Head: 22}, {Head: 3, Used: 20}, {Head: 23, Used: 23}, {Head: 5, Used: 24}} {
		for what, x := range badTxns() {
			if txn.Good(x) {
				t.Fatalf("%s is good", what)
			}
			wantRefused(t, r, x, api.ErrRange)
		}
		for _, x := range openTxns() {
			if !txn.Good(x) {
				t.Fatalf("%+v is not good", x)
			}
			wantRefused(t, r, x, api.ErrRange)
		}
	}
	wantRefused(t, api.Ring{Head: 5, Used: 24}, api.Txn{Seq: 1}, api.ErrSpace)
}

// done is a disk behind these steps.
func done(t *testing.T, d api.Disk, steps []api.Step) api.Disk {
	t.Helper()
	for _, s := range steps {
		e := api.OK
		switch s.Kind {
		case api.StepWrite:
			d, e = disk.Put(d, s.At, s.Text)
		case api.StepFlush:
			d, e = disk.Flush(d)
		default:
			t.Fatalf("no such step: %+v", s)
		}
		if e != api.OK {
			t.Fatalf("%+v: %d", s, e)
		}
	}
	return d
}

// readBack is a transaction as it stands in the log, read from a place on.
func readBack(t *testing.T, d api.Disk, at int) api.Txn {
	t.Helper()
	next := func() string {
		s := d.Safe[1+at]
		at = (at + 1) % 24
		return s
	}
	x := api.Txn{}
	for range 24 {
		m, e := stamp.Decode(next())
		if e != api.OK || x.Seq != 0 && x.Seq != m.Seq {
			t.Fatalf("%+v, %d behind %+v", m, e, x)
		}
		x.Seq = m.Seq
		x.Revoked = append(x.Revoked, m.Blocks...)
		for _, tag := range m.Tags {
			x.Meta = append(x.Meta, api.Copy{Block: tag.Block, Text: stamp.Unescape(next(), tag.Escaped)})
		}
		if m.Kind == api.Commit {
			return x
		}
	}
	t.Fatal("no commit")
	return x
}

func TestWhatIsCommittedIsOnTheDisk(t *testing.T) {
	for i, x := range shapes() {
		r := api.Ring{Head: i % 24, Used: i % 9}
		_, steps, e := seal.Commit(r, x)
		if e != api.OK {
			t.Fatalf("%+v, %+v: %d", r, x, e)
		}
		d := done(t, disk.New(), steps)
		got := readBack(t, d, r.Head)
		for _, c := range x.Data {
			got.Data = append(got.Data, api.Copy{Block: c.Block, Text: d.Safe[25+c.Block]})
		}
		if len(d.Writes) > 0 || !like(got, x) {
			t.Errorf("%+v: %+v on the disk, %d writes not safe", x, got, len(d.Writes))
		}
	}
}

// Whenever the power fails ahead of the last step, the commit is not safe; once it is written at all, everything else is.
func TestTheCommitIsTheLastToBeWritten(t *testing.T) {
	for _, x := range shapes() {
		_, steps, _ := seal.Commit(api.Ring{}, x)
		end := encoded(api.Mark{Kind: api.Commit, Seq: x.Seq})
		d := done(t, disk.New(), steps[:len(steps)-2])
		if len(d.Writes) > 0 || slices.Contains(d.Safe, end) {
			t.Errorf("%+v: ahead of the commit: %+v", x, d)
		}
		if last := steps[len(steps)-2:]; last[0].Text != end || last[1] != flush {
			t.Errorf("%+v: %+v", x, last)
		}
	}
}

func wantNewest(t *testing.T, l []api.Txn, to []api.Copy) {
	t.Helper()
	was := cloneAll(l)
	if got := seal.Newest(l); !slices.Equal(got, to) {
		t.Errorf("Newest %+v: %+v, want %+v", l, got, to)
	}
	if !slices.EqualFunc(l, was, like) {
		t.Errorf("Newest %+v: that is now %+v", was, l)
	}
}

func TestNewestByHand(t *testing.T) {
	one := func(b int, s string) []api.Copy { return []api.Copy{{Block: b, Text: text(s)}} }
	for what, c := range map[string]struct {
		l  []api.Txn
		to []api.Copy
	}{
		"no transactions":             {nil, nil},
		"an empty list":               {[]api.Txn{}, nil},
		"nothing in it":               {[]api.Txn{{Seq: 1}, {Seq: 2}}, nil},
		"one change":                  {[]api.Txn{{Seq: 1, Meta: one(5, "a")}}, one(5, "a")},
		"changed in several":          {[]api.Txn{{Seq: 1, Meta: one(5, "a")}, {Seq: 2, Meta: one(5, "b")}, {Seq: 3, Meta: one(5, "c")}}, one(5, "c")},
		"the list says which is last": {[]api.Txn{{Seq: 9, Meta: one(5, "a")}, {Seq: 4, Meta: one(5, "b")}}, one(5, "b")},
		"changed and then revoked":    {[]api.Txn{{Seq: 1, Meta: one(5, "a")}, {Seq: 2, Revoked: []int{5}}}, nil},
		"revoked and then changed":    {[]api.Txn{{Seq: 1, Revoked: []int{5}}, {Seq: 2, Meta: one(5, "b")}}, one(5, "b")},
		"changed, revoked, changed":   {[]api.Txn{{Seq: 1, Meta: one(5, "a")}, {Seq: 2, Revoked: []int{5}}, {Seq: 3, Meta: one(5, "c")}}, one(5, "c")},
		"revoked, changed, revoked":   {[]api.Txn{{Seq: 1, Revoked: []int{5}}, {Seq: 2, Meta: one(5, "b")}, {Seq: 3, Revoked: []int{5}}}, nil},
		"revoked alone":               {[]api.Txn{{Seq: 1, Revoked: []int{0, 5, 11}}}, nil},
		"data alone":                  {[]api.Txn{{Seq: 1, Data: one(5, "a")}}, nil},
		"data names nothing":          {[]api.Txn{{Seq: 1, Meta: one(5, "a")}, {Seq: 2, Data: one(5, "b")}}, one(5, "a")},
		"revoked, and then data":      {[]api.Txn{{Seq: 1, Meta: one(5, "a")}, {Seq: 2, Revoked: []int{5}}, {Seq: 3, Data: one(5, "b")}}, nil},
		"another is revoked":          {[]api.Txn{{Seq: 1, Meta: one(5, "a")}, {Seq: 2, Revoked: []int{4, 6}}}, one(5, "a")},
		"nothing in the last one":     {[]api.Txn{{Seq: 1, Meta: one(5, "a")}, {Seq: 2}}, one(5, "a")},
		"as they are, not escaped":    {[]api.Txn{{Seq: 1, Meta: one(0, "WBK1x")}, {Seq: 2, Meta: one(11, "")}}, []api.Copy{{Block: 0, Text: text("WBK1x")}, {Block: 11, Text: text("")}}},
		"by number, the last ahead":   {[]api.Txn{{Seq: 1, Meta: copies(11)}, {Seq: 2, Meta: copies(3, 7)}, {Seq: 3, Meta: copies(0, 5)}}, copies(0, 3, 5, 7, 11)},
		"all":                         {[]api.Txn{{Seq: 1, Meta: copies(upTo(12)...)}}, copies(upTo(12)...)},
		"all, and then revoked":       {[]api.Txn{{Seq: 1, Meta: copies(upTo(12)...)}, {Seq: 2, Revoked: upTo(12)}}, nil},
		"all but the first and last":  {[]api.Txn{{Seq: 1, Meta: copies(upTo(12)...)}, {Seq: 2, Revoked: []int{0, 11}}}, copies(fromTo(1, 11)...)},
	} {
		t.Run(what, func(t *testing.T) { wantNewest(t, c.l, c.to) })
	}
}

// history is transactions, and what blocks are behind them: from the eldest on, where the package goes from the end.
type history struct {
	l     []api.Txn
	known map[int]string
}

// add puts a transaction behind the others, by the role of each block: nothing, Meta, Data or Revoked.
func (h *history) add(roles map[int]int) {
	x := api.Txn{Seq: 1 + len(h.l)}
	for b := range 12 {
		s := text(fmt.Sprint(x.Seq, "/", b))
		switch roles[b] {
		case 1:
			x.Meta = append(x.Meta, api.Copy{Block: b, Text: s})
			h.known[b] = s
		case 2:
			x.Data = append(x.Data, api.Copy{Block: b, Text: s})
		case 3:
			x.Revoked = append(x.Revoked, b)
			delete(h.known, b)
		}
	}
	h.l = append(h.l, x)
}

func (h *history) newest() []api.Copy {
	l := []api.Copy{}
	for b := range 12 {
		if s, is := h.known[b]; is {
			l = append(l, api.Copy{Block: b, Text: s})
		}
	}
	return l
}

func TestNewestOfAllShortHistories(t *testing.T) {
	for n := range 1 << 12 {
		h := history{known: map[int]string{}}
		for i := range 3 {
			h.add(map[int]int{0: n >> (4 * i) & 3, 11: n >> (4*i + 2) & 3})
		}
		wantNewest(t, h.l, h.newest())
	}
}

// draws is a row of numbers that look thrown, the same each time.
func draws() func(n int) int {
	state := uint64(1)
	return func(n int) int {
		state = state*6364136223846793005 + 1442695040888963407
		return int(state>>33) % n
	}
}

func TestNewestOfLongHistories(t *testing.T) {
	draw := draws()
	for range 100 {
		h := history{known: map[int]string{}}
		for range 30 {
			roles := map[int]int{}
			for range draw(6) {
				roles[draw(12)] = draw(4)
			}
			h.add(roles)
			if !txn.Good(h.l[len(h.l)-1]) {
				t.Fatalf("%+v is not good", h.l)
			}
			wantNewest(t, h.l, h.newest())
		}
	}
}

func wantCheck(t *testing.T, l []api.Copy, at, seq int, steps []api.Step, e api.Errno) {
	t.Helper()
	was := slices.Clone(l)
	got, gotE := seal.Check(l, at, seq)
	if !slices.Equal(got, steps) || gotE != e {
		t.Errorf("Check %+v, %d, %d: %+v, %d; want %+v, %d", was, at, seq, got, gotE, steps, e)
	}
	if !slices.Equal(l, was) {
		t.Errorf("Check %+v: that is now %+v", was, l)
	}
}

func TestCheckByHand(t *testing.T) {
	a, b, m := text("a"), text("b"), text("WBK1x")
	super := text("WBK1\x01\x00\x00\x00\x0b\x05")
	for what, c := range map[string]struct {
		l       []api.Copy
		at, seq int
		steps   []api.Step
	}{
		"no copies":              {nil, 5, 11, []api.Step{write(0, super), flush}},
		"an empty list":          {[]api.Copy{}, 5, 11, []api.Step{write(0, super), flush}},
		"At 0, Seq 1":            {nil, 0, 1, []api.Step{write(0, text("WBK1\x01\x00\x00\x00\x01")), flush}},
		"the last At and MaxSeq": {nil, 23, api.MaxSeq, []api.Step{write(0, text("WBK1\x01\x7f\xff\xff\xff\x17")), flush}},
		"one": {
			[]api.Copy{{Block: 0, Text: a}}, 5, 11,
			[]api.Step{write(25, a), flush, write(0, super), flush},
		},
		"not escaped": {
			[]api.Copy{{Block: 3, Text: m}, {Block: 11, Text: text("")}}, 5, 11,
			[]api.Step{write(28, m), write(36, text("")), flush, write(0, super), flush},
		},
		"by their order, not by number": {
			[]api.Copy{{Block: 11, Text: a}, {Block: 0, Text: b}, {Block: 6, Text: a}}, 5, 11,
			[]api.Step{write(36, a), write(25, b), write(31, a), flush, write(0, super), flush},
		},
		"a block twice": {
			[]api.Copy{{Block: 2, Text: a}, {Block: 2, Text: b}, {Block: 2, Text: a}}, 5, 11,
			[]api.Step{write(27, a), write(27, b), write(27, a), flush, write(0, super), flush},
		},
	} {
		t.Run(what, func(t *testing.T) { wantCheck(t, c.l, c.at, c.seq, c.steps, api.OK) })
	}
}

func TestCheckOfAllPlaces(t *testing.T) {
	for n := range 13 {
		l := copies(upTo(n)...)
		steps := []api.Step{}
		for b := range n {
			steps = append(steps, write(25+b, text(fmt.Sprint("c", b))))
		}
		if n > 0 {
			steps = append(steps, flush)
		}
		for at := range 24 {
			for _, seq := range []int{1, 2, 1000, api.MaxSeq - 1, api.MaxSeq} {
				super := encoded(api.Mark{Kind: api.Super, Seq: seq, At: at})
				wantCheck(t, l, at, seq, append(slices.Clip(steps), write(0, super), flush), api.OK)
			}
		}
	}
}

// More copies than there are blocks are no error: they need not be one of each.
func TestCheckOfManyCopies(t *testing.T) {
	l := slices.Repeat(copies(upTo(12)...), 50)
	steps, e := seal.Check(l, 7, 8)
	if e != api.OK || len(steps) != 603 || steps[599] != write(36, text("c11")) || steps[600] != flush {
		t.Errorf("%d steps, %d", len(steps), e)
	}
}

// badCopies are lists with one that is wrong, at the beginning, within and at the end.
func badCopies() [][]api.Copy {
	l := [][]api.Copy{}
	spoil := func(c api.Copy) {
		for i := range 4 {
			l = append(l, slices.Insert(copies(1, 5, 9), i, c))
		}
		l = append(l, []api.Copy{c})
	}
	for _, b := range noBlocks {
		spoil(api.Copy{Block: b, Text: text("a")})
		spoil(api.Copy{Block: b, Text: "a"})
	}
	for _, s := range noTexts {
		spoil(api.Copy{Block: 0, Text: s})
		spoil(api.Copy{Block: 11, Text: s})
	}
	return l
}

func TestCheckErrorsInTheirOrder(t *testing.T) {
	for _, l := range badCopies() {
		wantCheck(t, l, 0, 1, nil, api.ErrForm)
		wantCheck(t, l, 23, api.MaxSeq, nil, api.ErrForm)
	}
	for _, l := range append(badCopies(), nil, copies(1, 5, 9)) {
		for _, at := range noPlaces {
			wantCheck(t, l, at, 1, nil, api.ErrRange)
			wantCheck(t, l, at, 0, nil, api.ErrRange)
		}
		for _, seq := range noSeqs {
			wantCheck(t, l, 0, seq, nil, api.ErrRange)
			wantCheck(t, l, 24, seq, nil, api.ErrRange)
		}
	}
}

func TestWhatGoesHomeIsSafeAheadOfTheSuperBlock(t *testing.T) {
	l := copies(0, 4, 11)
	steps, _ := seal.Check(l, 3, 8)
	d := done(t, disk.New(), steps[:len(steps)-2])
	if len(d.Writes) > 0 || d.Safe[0] != text("") {
		t.Errorf("ahead of the super block: %+v", d)
	}
	d = done(t, d, steps[len(steps)-2:])
	for _, c := range l {
		if d.Safe[25+c.Block] != c.Text {
			t.Errorf("block %d: %q", c.Block, d.Safe[25+c.Block])
		}
	}
	if m, e := stamp.Decode(d.Safe[0]); len(d.Writes) > 0 || e != api.OK || m.Kind != api.Super || m.At != 3 || m.Seq != 8 {
		t.Errorf("%+v, %d, %d writes", m, e, len(d.Writes))
	}
}

// roomy has the lists of a transaction with spare room behind each, of which whole is all.
func roomy(x api.Txn) (thin, whole api.Txn) {
	whole = clone(x)
	for range 30 {
		whole.Meta = append(whole.Meta, api.Copy{Block: 77, Text: "spare"})
		whole.Data = append(whole.Data, api.Copy{Block: 78, Text: "spare"})
		whole.Revoked = append(whole.Revoked, 79)
	}
	thin = whole
	thin.Meta, thin.Data, thin.Revoked = whole.Meta[:len(x.Meta)], whole.Data[:len(x.Data)], whole.Revoked[:len(x.Revoked)]
	return thin, whole
}

func TestWhatIsHandedInStays(t *testing.T) {
	all := append(shapes(), mixed())
	for _, x := range badTxns() {
		all = append(all, x)
	}
	for _, x := range append(all, openTxns()...) {
		thin, whole := roomy(x)
		was := clone(whole)
		list := []api.Txn{thin, thin, {Seq: 5}, {Seq: 6}}
		seal.Commit(api.Ring{Head: 20}, thin)
		seal.Commit(api.Ring{Head: 20, Used: 23}, thin)
		seal.Newest(list[:2])
		seal.Check(thin.Meta, 1, 1)
		seal.Check(thin.Data, 1, 0)
		if !like(whole, was) || !like(list[0], thin) || !like(list[1], thin) || list[2].Seq != 5 || list[3].Seq != 6 {
			t.Errorf("%+v is now %+v, %+v", was, whole, list)
		}
	}
}

// What is answered is written over, its spare room too: nobody else's list is there.
func TestAnswersAreNewMemory(t *testing.T) {
	spoilt := func(l []api.Step) {
		for i := range l[:cap(l)] {
			l[:cap(l)][i] = api.Step{Kind: 99, At: 99, Text: "spoilt"}
		}
	}
	for _, x := range shapes() {
		thin, whole := roomy(x)
		was := clone(whole)
		r := api.Ring{Head: 20, Used: 3}
		to, model := model(r, x)
		_, steps, _ := seal.Commit(r, thin)
		spoilt(steps)
		wantCommit(t, r, thin, to, model, api.OK)

		first, _ := seal.Check(thin.Meta, 1, 1)
		kept := slices.Clone(first)
		spoilt(first)
		wantCheck(t, thin.Meta, 1, 1, kept, api.OK)

		newest := seal.Newest([]api.Txn{thin})
		for i := range newest[:cap(newest)] {
			newest[:cap(newest)][i] = api.Copy{Block: 99, Text: "spoilt"}
		}
		wantNewest(t, []api.Txn{thin}, x.Meta)
		if !like(whole, was) {
			t.Errorf("%+v is now %+v", was, whole)
		}
	}
}

func TestListsWithoutElementsMayBeNil(t *testing.T) {
	for bits := range 8 {
		x := mixed()
		if bits&1 == 1 {
			x.Meta = nil
		}
		if bits&2 == 2 {
			x.Data = nil
		}
		if bits&4 == 4 {
			x.Revoked = nil
		}
		empty := api.Txn{Seq: 9, Meta: append([]api.Copy{}, x.Meta...), Data: append([]api.Copy{}, x.Data...), Revoked: append([]int{}, x.Revoked...)}
		to, steps := model(api.Ring{Head: 22}, x)
		wantCommit(t, api.Ring{Head: 22}, x, to, steps, api.OK)
		wantCommit(t, api.Ring{Head: 22}, empty, to, steps, api.OK)
		wantNewest(t, []api.Txn{x}, x.Meta)
		wantNewest(t, []api.Txn{empty}, x.Meta)
	}
}

// The log goes round: one transaction behind another, and room given back when it is short.
func TestCommitAgainAndAgain(t *testing.T) {
	draw, r, d := draws(), api.Ring{}, disk.New()
	all := shapes()
	for range 500 {
		x := all[draw(len(all))]
		to, steps, e := seal.Commit(r, x)
		if e == api.ErrSpace {
			if to != r || len(steps) > 0 {
				t.Fatalf("%+v: %+v, %+v", r, to, steps)
			}
			r.Used = 0
			to, steps, e = seal.Commit(r, x)
		}
		if e != api.OK || !ring.Good(to) {
			t.Fatalf("%+v, %+v: %+v, %d", r, x, to, e)
		}
		d = done(t, d, steps)
		x.Data = nil
		if got := readBack(t, d, r.Head); !like(got, x) {
			t.Fatalf("%+v: %+v on the disk", x, got)
		}
		r = to
	}
}

func TestNoPanic(t *testing.T) {
	edges := []int{math.MinInt, -1, 0, 1, 11, 12, 23, 24, 25, api.MaxSeq, api.MaxSeq + 1, math.MaxInt}
	wild := []api.Txn{
		{Handles: [3]api.Handle{{Left: math.MaxInt}, {On: true, Left: math.MinInt}}},
		{Seq: 1, Meta: slices.Repeat(copies(0), 1000), Revoked: slices.Repeat([]int{math.MinInt, math.MaxInt}, 1000)},
		{},
	}
	for _, x := range badTxns() {
		wild = append(wild, x)
	}
	seal.Newest(wild)
	for _, x := range wild {
		seal.Newest([]api.Txn{x})
		for _, a := range edges {
			for _, b := range edges {
				seal.Commit(api.Ring{Head: a, Used: b}, x)
				seal.Check(x.Meta, a, b)
				seal.Check(x.Data, a, b)
			}
		}
	}
}
