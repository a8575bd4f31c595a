package scan_test

import (
	"fmt"
	"math"
	"slices"
	"strings"
	"testing"

	"wastebook/api"
	"wastebook/disk"
	"wastebook/scan"
	"wastebook/seal"
	"wastebook/stamp"
	"wastebook/txn"
)

// text is a block's.
func text(s string) string { return s + strings.Repeat("\x00", 32-len(s)) }

// copies are of these blocks, each with a text of its own.
func copies(blocks ...int) []api.Copy {
	l := []api.Copy{}
	for _, b := range blocks {
		l = append(l, api.Copy{Block: b, Text: text(fmt.Sprint("c", b))})
	}
	return l
}

func upTo(n int) []int { return fromTo(0, n) }

func fromTo(n, end int) []int {
	l := []int{}
	for ; n < end; n++ {
		l = append(l, n)
	}
	return l
}

func encoded(m api.Mark) string {
	s, e := stamp.Encode(m)
	if e != api.OK {
		panic(fmt.Sprintf("%+v: %d", m, e))
	}
	return s
}

func super(seq, at int) string { return encoded(api.Mark{Kind: api.Super, Seq: seq, At: at}) }

func commit(seq int) string { return encoded(api.Mark{Kind: api.Commit, Seq: seq}) }

func list(seq int, blocks ...int) string {
	return encoded(api.Mark{Kind: api.List, Seq: seq, Blocks: blocks})
}

// descriptor has tags of copies that are not escaped.
func descriptor(seq int, blocks ...int) string {
	tags := []api.Tag{}
	for _, b := range blocks {
		tags = append(tags, api.Tag{Block: b})
	}
	return encoded(api.Mark{Kind: api.Descriptor, Seq: seq, Tags: tags})
}

// laid is a disk with a super block, and the log from its At on, in the circle; noughts behind that.
func laid(seq, at int, log ...string) api.Disk {
	d := disk.New()
	d.Safe[0] = super(seq, at)
	for i, s := range log {
		d.Safe[1+(at+i)%24] = s
	}
	return d
}

func cloneDisk(d api.Disk) api.Disk {
	return api.Disk{Safe: slices.Clone(d.Safe), Writes: slices.Clone(d.Writes)}
}

func likeDisk(a, b api.Disk) bool {
	return slices.Equal(a.Safe, b.Safe) && slices.Equal(a.Writes, b.Writes)
}

func clone(x api.Txn) api.Txn {
	x.Meta, x.Data, x.Revoked = slices.Clone(x.Meta), slices.Clone(x.Data), slices.Clone(x.Revoked)
	return x
}

func cloneAll(l []api.Txn) []api.Txn {
	to := []api.Txn{}
	for _, x := range l {
		to = append(to, clone(x))
	}
	return to
}

// like takes lists without elements for the same, be they nil or not.
func like(a, b api.Txn) bool {
	return a.Seq == b.Seq && slices.Equal(a.Meta, b.Meta) && slices.Equal(a.Data, b.Data) &&
		slices.Equal(a.Revoked, b.Revoked) && a.Handles == b.Handles
}

func likeFound(a, b api.Found) bool {
	return slices.EqualFunc(a.Txns, b.Txns, like) && a.Next == b.Next && a.At == b.At
}

// wantScan asks for an answer, and that the disk is as it was.
func wantScan(t *testing.T, d api.Disk, f api.Found, e api.Errno) {
	t.Helper()
	was := cloneDisk(d)
	got, gotE := scan.Scan(d)
	if !likeFound(got, f) || gotE != e {
		t.Errorf("Scan %+v: %+v, %d; want %+v, %d", d, got, gotE, f, e)
	}
	if !likeDisk(d, was) {
		t.Errorf("Scan %+v: that is now %+v", was, d)
	}
}

// wantFound asks for these transactions; behind them the log goes on behind so many blocks.
func wantFound(t *testing.T, d api.Disk, seq, at, blocks int, l ...api.Txn) {
	t.Helper()
	wantScan(t, d, api.Found{Txns: l, Next: seq + len(l), At: (at + blocks) % 24}, api.OK)
}

// The blocks of the log are written out here, byte by byte.
func TestScanByHand(t *testing.T) {
	a, b := text("a"), text("b")
	end9, end10 := text("WBK1\x04\x00\x00\x00\x09"), text("WBK1\x04\x00\x00\x00\x0a")
	for what, c := range map[string]struct {
		log    []string
		blocks int
		l      []api.Txn
	}{
		"nothing": {nil, 0, nil},
		"a commit alone": {
			[]string{end9}, 1, []api.Txn{{Seq: 9}},
		},
		"a list": {
			[]string{text("WBK1\x03\x00\x00\x00\x09\x03\x00\x05\x0b"), end9}, 2,
			[]api.Txn{{Seq: 9, Revoked: []int{0, 5, 11}}},
		},
		"a descriptor": {
			[]string{text("WBK1\x02\x00\x00\x00\x09\x02\x00\x00\x0b\x00"), b, a, end9}, 4,
			[]api.Txn{{Seq: 9, Meta: []api.Copy{{Block: 0, Text: b}, {Block: 11, Text: a}}}},
		},
		"both": {
			[]string{text("WBK1\x03\x00\x00\x00\x09\x01\x02"), text("WBK1\x02\x00\x00\x00\x09\x02\x01\x00\x04\x01"), a, text("\x00\x00\x00\x00x"), end9}, 5,
			[]api.Txn{{Seq: 9, Meta: []api.Copy{{Block: 1, Text: a}, {Block: 4, Text: text("WBK1x")}}, Revoked: []int{2}}},
		},
		"several": {
			[]string{
				text("WBK1\x02\x00\x00\x00\x09\x01\x07\x00"), a, end9,
				end10,
				text("WBK1\x03\x00\x00\x00\x0b\x01\x07"), text("WBK1\x04\x00\x00\x00\x0b"),
				text("WBK1\x02\x00\x00\x00\x0c\x01\x07\x00"), b, text("WBK1\x04\x00\x00\x00\x0c"),
			}, 9,
			[]api.Txn{
				{Seq: 9, Meta: []api.Copy{{Block: 7, Text: a}}}, {Seq: 10},
				{Seq: 11, Revoked: []int{7}}, {Seq: 12, Meta: []api.Copy{{Block: 7, Text: b}}},
			},
		},
		"one, and one that is torn": {
			[]string{text("WBK1\x03\x00\x00\x00\x09\x01\x07"), end9, text("WBK1\x03\x00\x00\x00\x0a\x01\x08"), a, end10}, 2,
			[]api.Txn{{Seq: 9, Revoked: []int{7}}},
		},
		"one, and one of an elder round": {
			[]string{end9, text("WBK1\x04\x00\x00\x00\x03"), end10}, 1, []api.Txn{{Seq: 9}},
		},
	} {
		t.Run(what, func(t *testing.T) {
			for at := range 24 {
				d := disk.New()
				d.Safe[0] = text("WBK1\x01\x00\x00\x00\x09" + string(rune(at)))
				for i, s := range c.log {
					d.Safe[1+(at+i)%24] = s
				}
				wantFound(t, d, 9, at, c.blocks, c.l...)
			}
		})
	}
}

// What stands at home, or in the log ahead of At, is none of the log's.
func TestScanReadsTheLogAlone(t *testing.T) {
	for at := range 24 {
		d := laid(5, at, list(5, 3), commit(5))
		for b := range 12 {
			d.Safe[25+b] = commit(6)
		}
		d.Safe[1+(at+23)%24] = commit(4)
		wantFound(t, d, 5, at, 2, api.Txn{Seq: 5, Revoked: []int{3}})
		d.Safe[1+(at+2)%24] = commit(6)
		wantFound(t, d, 5, at, 3, api.Txn{Seq: 5, Revoked: []int{3}}, api.Txn{Seq: 6})
	}
}

func TestScanFillsTheCircle(t *testing.T) {
	for at := range 24 {
		commits, many, lists := []string{}, []api.Txn{}, []string{}
		for i := range 24 {
			commits, many = append(commits, commit(7+i)), append(many, api.Txn{Seq: 7 + i})
			lists = append(lists, list(7, i%12))
		}
		wantFound(t, laid(7, at, commits...), 7, at, 24, many...)
		wantFound(t, laid(7, at, commits[:23]...), 7, at, 23, many[:23]...)

		revoked := append(upTo(12), upTo(11)...)
		wantFound(t, laid(7, at, append(lists[:23:23], commit(7))...), 7, at, 24, api.Txn{Seq: 7, Revoked: revoked})
		wantFound(t, laid(7, at, append(lists[:22:22], commit(7), commit(8))...), 7, at, 24, api.Txn{Seq: 7, Revoked: revoked[:22]}, api.Txn{Seq: 8})
		wantFound(t, laid(7, at, lists...), 7, at, 0)

		log, x := []string{}, api.Txn{Seq: 7}
		for _, n := range []int{10, 10} {
			log = append(log, descriptor(7, upTo(n)...))
			for _, c := range copies(upTo(n)...) {
				log, x.Meta = append(log, c.Text), append(x.Meta, c)
			}
		}
		log, x.Revoked = append(log, list(7, 11), commit(7)), []int{11}
		wantFound(t, laid(7, at, log...), 7, at, 24, x)
	}
}

// Without its end a transaction that would be whole one block later is none.
func TestScanOfALogAtItsEnd(t *testing.T) {
	lists := func(seq, n int) []string { return slices.Repeat([]string{list(seq, 1)}, n) }
	for at := range 24 {
		for n := range 23 {
			first := append(lists(3, n), commit(3))
			x := api.Txn{Seq: 3, Revoked: slices.Repeat([]int{1}, n)}
			wantFound(t, laid(3, at, append(first, lists(4, 23-n)...)...), 3, at, n+1, x)
		}
		for tags := 1; tags <= 10; tags++ {
			// As many blocks are behind the descriptor as it has tags, one more, and ever fewer.
			for behind := range tags + 2 {
				log := append(lists(3, 22-behind), commit(3), descriptor(4, upTo(tags)...))
				for _, c := range copies(upTo(tags)...) {
					log = append(log, c.Text)
				}
				log = append(log, commit(4))[:24]
				x := api.Txn{Seq: 3, Revoked: slices.Repeat([]int{1}, 22-behind)}
				l, blocks := []api.Txn{x}, 23-behind
				if behind == tags+1 {
					l, blocks = append(l, api.Txn{Seq: 4, Meta: copies(upTo(tags)...)}), 24
				}
				wantFound(t, laid(3, at, log...), 3, at, blocks, l...)
			}
		}
	}
}

// A copy may look like a commit: read round once more, the log would have one that is not there.
func TestScanGoesRoundOnce(t *testing.T) {
	for at := range 24 {
		log := []string{descriptor(3, 0, 1), text("a"), commit(4), commit(3)}
		log = append(log, slices.Repeat([]string{list(4, 5)}, 19)...)
		log = append(log, descriptor(4, 2, 3))
		first := api.Txn{Seq: 3, Meta: []api.Copy{{Block: 0, Text: text("a")}, {Block: 1, Text: commit(4)}}}
		wantFound(t, laid(3, at, log...), 3, at, 4, first)

		log = append([]string{descriptor(3, 0), commit(4), commit(3)}, slices.Repeat([]string{list(4, 5)}, 20)...)
		log = append(log, descriptor(4, 2))
		first = api.Txn{Seq: 3, Meta: []api.Copy{{Block: 0, Text: commit(4)}}}
		wantFound(t, laid(3, at, log...), 3, at, 3, first)
	}
}

func TestScanOfEachSeq(t *testing.T) {
	for at := range 24 {
		for _, seq := range []int{1, 2, 255, 256, 1 << 24, api.MaxSeq - 3} {
			wantFound(t, laid(seq, at, commit(seq), commit(seq+1)), seq, at, 2, api.Txn{Seq: seq}, api.Txn{Seq: seq + 1})
			wantFound(t, laid(seq, at, commit(seq+1)), seq, at, 0)
			wantFound(t, laid(seq, at), seq, at, 0)
		}
		last := api.MaxSeq
		wantFound(t, laid(last-2, at, commit(last-2), commit(last-1), commit(last)), last-2, at, 2, api.Txn{Seq: last - 2}, api.Txn{Seq: last - 1})
		wantFound(t, laid(last-1, at, list(last-1, 4), commit(last-1), list(last, 4), commit(last)), last-1, at, 2, api.Txn{Seq: last - 1, Revoked: []int{4}})
		wantFound(t, laid(last-1, at), last-1, at, 0)
		wantFound(t, laid(last, at, commit(last), commit(last)), last, at, 0)
		wantFound(t, laid(last, at), last, at, 0)
	}
}

// broken is what may stand where a mark of the number 6 is wanted.
func broken() map[string]string {
	return map[string]string{
		"noughts":                  text(""),
		"a text":                   text("a"),
		"Magic alone":              text("WBK1"),
		"a super block":            super(6, 0),
		"a super block with an At": super(6, 23),
		"an elder commit":          commit(5),
		"a later commit":           commit(7),
		"an elder list":            list(5, 1),
		"a later list":             list(7, 1),
		"an elder descriptor":      descriptor(5, 1),
		"a later descriptor":       descriptor(7, 1),
		"the number in low bytes":  text("WBK1\x04\x06\x00\x00\x00"),
		"the number 0":             text("WBK1\x04"),
		"kind 0":                   text("WBK1\x00\x00\x00\x00\x06"),
		"kind 5":                   text("WBK1\x05\x00\x00\x00\x06"),
		"a commit with a tail":     "WBK1\x04\x00\x00\x00\x06" + strings.Repeat("\x00", 22) + "\x01",
		"a commit in small":        text("wbk1\x04\x00\x00\x00\x06"),
		"a commit that is escaped": text("\x00\x00\x00\x00\x04\x00\x00\x00\x06"),
		"an empty list":            text("WBK1\x03\x00\x00\x00\x06"),
		"a list that falls":        text("WBK1\x03\x00\x00\x00\x06\x02\x05\x04"),
		"a list of no block":       text("WBK1\x03\x00\x00\x00\x06\x01\x0c"),
		"a descriptor of none":     text("WBK1\x02\x00\x00\x00\x06"),
		"a tag that is 2":          text("WBK1\x02\x00\x00\x00\x06\x01\x04\x02"),
	}
}

// Of each mark of a transaction another stands in its place; what is behind it is whole, and does not count.
func TestScanOfATornOne(t *testing.T) {
	whole := []string{list(6, 1), descriptor(6, 2, 3), text("x"), text("y"), list(6, 4), descriptor(6, 5), text("z"), commit(6)}
	marks := []int{0, 1, 4, 5, 7}
	for what, s := range broken() {
		t.Run(what, func(t *testing.T) {
			for at := range 24 {
				for _, i := range marks {
					log := append([]string{list(5, 9), commit(5)}, whole...)
					log[2+i] = s
					log = append(log, commit(6), commit(7), list(8, 1), commit(8))
					wantFound(t, laid(5, at, log...), 5, at, 2, api.Txn{Seq: 5, Revoked: []int{9}})
					wantFound(t, laid(6, at, log[2:]...), 6, at, 0)
				}
			}
		})
	}
}

// A tag says how many copies stand behind a descriptor: with another number the log falls out of step.
func TestScanOfADescriptorThatIsAnother(t *testing.T) {
	log := []string{descriptor(6, 2), text("x"), text("y"), commit(6), commit(7)}
	wantFound(t, laid(6, 20, log...), 6, 20, 0)
	log[0] = descriptor(6, 2, 3)
	wantFound(t, laid(6, 20, log...), 6, 20, 5, api.Txn{Seq: 6, Meta: []api.Copy{{Block: 2, Text: text("x")}, {Block: 3, Text: text("y")}}}, api.Txn{Seq: 7})
	log[0] = descriptor(6, 2, 3, 4)
	wantFound(t, laid(6, 20, log...), 6, 20, 0)
}

// Behind a descriptor anything is a copy, be it a mark, of this number too.
func TestScanOfCopiesOfEachText(t *testing.T) {
	for _, c := range []struct {
		in      string
		escaped bool
		s       string
	}{
		{text("a"), false, text("a")},
		{text(""), false, text("")},
		{text(""), true, text("WBK1")},
		{text("\x00\x00\x00\x00x"), false, text("\x00\x00\x00\x00x")},
		{text("\x00\x00\x00\x00x"), true, text("WBK1x")},
		{"\x00\x00\x00\x00WBK1" + strings.Repeat("z", 24), true, "WBK1WBK1" + strings.Repeat("z", 24)},
		{text("\x00\x00\x00\x00\x04\x00\x00\x00\x06"), true, commit(6)},
		{commit(6), false, commit(6)},
		{commit(7), false, commit(7)},
		{list(6, 1), false, list(6, 1)},
		{descriptor(6, 1), false, descriptor(6, 1)},
		{super(6, 3), false, super(6, 3)},
		{text("WBK1x"), true, text("WBK1x")},
		{text("abcdx"), true, text("WBK1x")},
		{strings.Repeat("\xff", 32), false, strings.Repeat("\xff", 32)},
	} {
		tags := []api.Tag{{Block: 0}, {Block: 8, Escaped: c.escaped}, {Block: 11}}
		d := laid(6, 21, encoded(api.Mark{Kind: api.Descriptor, Seq: 6, Tags: tags}), text("\x00\x00\x00\x00"), c.in, text("q"), commit(6))
		want := []api.Copy{{Block: 0, Text: text("")}, {Block: 8, Text: c.s}, {Block: 11, Text: text("q")}}
		wantFound(t, d, 6, 21, 5, api.Txn{Seq: 6, Meta: want})
	}
}

func TestScanTellsThemJustAsTheyCome(t *testing.T) {
	a, b, c := text("a"), text("b"), text("c")
	for what, x := range map[string]struct {
		log []string
		to  api.Txn
	}{
		"a list behind a descriptor": {
			[]string{descriptor(6, 4), a, list(6, 3)},
			api.Txn{Seq: 6, Meta: []api.Copy{{Block: 4, Text: a}}, Revoked: []int{3}},
		},
		"lists that fall": {
			[]string{list(6, 8, 9), list(6, 3, 4), list(6, 0, 11)},
			api.Txn{Seq: 6, Revoked: []int{8, 9, 3, 4, 0, 11}},
		},
		"descriptors that fall": {
			[]string{descriptor(6, 8, 9), a, b, descriptor(6, 3), c},
			api.Txn{Seq: 6, Meta: []api.Copy{{Block: 8, Text: a}, {Block: 9, Text: b}, {Block: 3, Text: c}}},
		},
		"by turns": {
			[]string{list(6, 9), descriptor(6, 5), a, list(6, 1), descriptor(6, 2), b, list(6, 4)},
			api.Txn{Seq: 6, Meta: []api.Copy{{Block: 5, Text: a}, {Block: 2, Text: b}}, Revoked: []int{9, 1, 4}},
		},
		"a block twice in Meta": {
			[]string{descriptor(6, 5), a, descriptor(6, 5), b, descriptor(6, 5), a},
			api.Txn{Seq: 6, Meta: []api.Copy{{Block: 5, Text: a}, {Block: 5, Text: b}, {Block: 5, Text: a}}},
		},
		"a block twice in Revoked": {
			[]string{list(6, 5, 6), list(6, 5, 6)},
			api.Txn{Seq: 6, Revoked: []int{5, 6, 5, 6}},
		},
		"a block in both": {
			[]string{list(6, 5), descriptor(6, 5), a, list(6, 5)},
			api.Txn{Seq: 6, Meta: []api.Copy{{Block: 5, Text: a}}, Revoked: []int{5, 5}},
		},
		"more than there are blocks": {
			[]string{list(6, upTo(12)...), list(6, upTo(12)...)},
			api.Txn{Seq: 6, Revoked: append(upTo(12), upTo(12)...)},
		},
	} {
		t.Run(what, func(t *testing.T) {
			for at := range 24 {
				log := append(slices.Clone(x.log), commit(6), commit(7))
				wantFound(t, laid(6, at, log...), 6, at, len(log), x.to, api.Txn{Seq: 7})
			}
		})
	}
}

// What is not safe yet is read as it was written last: the super block, marks and copies.
func TestScanOfBlocksThatAreNotSafe(t *testing.T) {
	d := disk.New()
	put := func(at int, s string) {
		d.Writes = append(d.Writes, api.Write{At: at, Text: s})
	}
	put(0, super(9, 3))
	put(24, descriptor(6, 4))
	put(0, super(6, 23))
	put(1, text("old"))
	put(2, commit(6))
	wantFound(t, d, 6, 23, 3, api.Txn{Seq: 6, Meta: []api.Copy{{Block: 4, Text: text("old")}}})
	put(1, text("new"))
	put(3, commit(7))
	wantFound(t, d, 6, 23, 4, api.Txn{Seq: 6, Meta: []api.Copy{{Block: 4, Text: text("new")}}}, api.Txn{Seq: 7})
	put(2, list(6, 1))
	wantFound(t, d, 6, 23, 0)
	put(3, commit(6))
	wantFound(t, d, 6, 23, 4, api.Txn{Seq: 6, Meta: []api.Copy{{Block: 4, Text: text("new")}}, Revoked: []int{1}})
	for range 190 {
		put(36, text("full"))
	}
	d.Safe[0] = text("no super block")
	wantFound(t, d, 6, 23, 4, api.Txn{Seq: 6, Meta: []api.Copy{{Block: 4, Text: text("new")}}, Revoked: []int{1}})
	put(0, text("none"))
	wantScan(t, d, api.Found{}, api.ErrForm)
	d.Writes = append(d.Writes, api.Write{At: 0, Text: super(6, 0)})[:200]
	wantScan(t, d, api.Found{}, api.ErrForm)
}

func TestScanWithoutASuperBlock(t *testing.T) {
	for what, s := range map[string]string{
		"noughts":              text(""),
		"a text":               text("a"),
		"Magic alone":          text("WBK1"),
		"a descriptor":         descriptor(6, 1),
		"a list":               list(6, 1),
		"a commit":             commit(6),
		"kind 0":               text("WBK1\x00\x00\x00\x00\x06"),
		"kind 5":               text("WBK1\x05\x00\x00\x00\x06"),
		"Seq 0":                text("WBK1\x01"),
		"Seq beyond MaxSeq":    text("WBK1\x01\x80\x00\x00\x00"),
		"the greatest Seq":     text("WBK1\x01\xff\xff\xff\xff"),
		"At 24":                text("WBK1\x01\x00\x00\x00\x06\x18"),
		"At 255":               text("WBK1\x01\x00\x00\x00\x06\xff"),
		"a tail":               "WBK1\x01\x00\x00\x00\x06" + strings.Repeat("\x00", 22) + "x",
		"a byte behind its At": text("WBK1\x01\x00\x00\x00\x06\x05\x01"),
		"escaped":              text("\x00\x00\x00\x00\x01\x00\x00\x00\x06"),
		"a byte ahead of it":   text(" WBK1\x01\x00\x00\x00\x06"),
		"small letters":        text("wbk1\x01\x00\x00\x00\x06"),
	} {
		t.Run(what, func(t *testing.T) {
			d := laid(6, 0, list(6, 1), commit(6))
			d.Safe[0] = s
			wantScan(t, d, api.Found{}, api.ErrForm)
			d.Safe[0], d.Writes = super(6, 0), []api.Write{{At: 0, Text: s}}
			wantScan(t, d, api.Found{}, api.ErrForm)
			d.Safe[0], d.Writes[0].Text = s, super(6, 0)
			wantFound(t, d, 6, 0, 2, api.Txn{Seq: 6, Revoked: []int{1}})
		})
	}
}

// A super block somewhere else is none.
func TestScanOfASuperBlockInTheLog(t *testing.T) {
	for n := 1; n < 37; n++ {
		d := disk.New()
		d.Safe[n] = super(1, 0)
		wantScan(t, d, api.Found{}, api.ErrForm)
	}
	wantScan(t, disk.New(), api.Found{}, api.ErrForm)
}

// badDisks have one thing that is wrong, each behind a good super block and a good log.
func badDisks() map[string]api.Disk {
	bad := map[string]api.Disk{"no disk": {}, "no elements": {Safe: []string{}, Writes: []api.Write{}}}
	spoil := func(what string, f func(d *api.Disk)) {
		d := laid(6, 0, list(6, 1), commit(6))
		f(&d)
		bad[what] = d
	}
	for _, n := range []int{0, 1, 3, 25, 36} {
		spoil(fmt.Sprint(n, " safe"), func(d *api.Disk) { d.Safe = d.Safe[:n] })
	}
	spoil("one more", func(d *api.Disk) { d.Safe = append(d.Safe, text("")) })
	for _, s := range []string{"", "a", text("")[1:], text("") + "\x00", text("a") + text("b")} {
		for _, n := range []int{0, 1, 2, 3, 24, 25, 36} {
			spoil(fmt.Sprintf("%q safe at %d", s, n), func(d *api.Disk) { d.Safe[n] = s })
			spoil(fmt.Sprintf("%q written at %d", s, n), func(d *api.Disk) { d.Writes = []api.Write{{At: n, Text: s}} })
			spoil(fmt.Sprintf("%q written over at %d", s, n), func(d *api.Disk) {
				d.Writes = []api.Write{{At: n, Text: s}, {At: n, Text: d.Safe[n]}}
			})
		}
	}
	for _, n := range []int{-1, 37, 38, math.MinInt, math.MaxInt} {
		spoil(fmt.Sprint("a write at ", n), func(d *api.Disk) { d.Writes = []api.Write{{At: n, Text: text("a")}} })
	}
	spoil("201 writes", func(d *api.Disk) { d.Writes = slices.Repeat([]api.Write{{At: 36, Text: text("a")}}, 201) })
	return bad
}

// That a disk is not good is said ahead of what stands at place 0.
func TestScanErrorsInTheirOrder(t *testing.T) {
	for what, d := range badDisks() {
		t.Run(what, func(t *testing.T) {
			if disk.Good(d) {
				t.Fatal("it is good")
			}
			wantScan(t, d, api.Found{}, api.ErrRange)
			for _, s := range []string{text(""), commit(6), list(6, 1)} {
				if len(d.Safe) > 0 && len(d.Safe[0]) == 32 {
					d.Safe[0] = s
				}
				wantScan(t, d, api.Found{}, api.ErrRange)
			}
		})
	}
	full := laid(6, 0, list(6, 1), commit(6))
	full.Writes = slices.Repeat([]api.Write{{At: 36, Text: text("a")}}, 200)
	wantFound(t, full, 6, 0, 2, api.Txn{Seq: 6, Revoked: []int{1}})
}

// model is a log told block by block, with what is awaited, where the package asks for what it wants next.
func model(seq, at int, log []string) api.Found {
	f := api.Found{Next: seq, At: at}
	x, awaited := api.Txn{Seq: seq}, []api.Tag{}
	for i, s := range log {
		if f.Next >= 1<<31-1 {
			return f
		}
		if len(awaited) > 0 {
			if awaited[0].Escaped {
				s = "WBK1" + s[4:]
			}
			x.Meta = append(x.Meta, api.Copy{Block: awaited[0].Block, Text: s})
			awaited = awaited[1:]
			continue
		}
		m, e := stamp.Decode(s)
		if e != api.OK || m.Seq != f.Next || m.Kind == api.Super {
			return f
		}
		x.Revoked = append(x.Revoked, m.Blocks...)
		awaited = m.Tags
		if m.Kind == api.Commit {
			f.Txns, f.Next, f.At = append(f.Txns, x), f.Next+1, (at+i+1)%24
			x = api.Txn{Seq: f.Next}
		}
	}
	return f
}

// draws is a row of numbers that look thrown, the same each time.
func draws() func(n int) int {
	state := uint64(1)
	return func(n int) int {
		state = state*6364136223846793005 + 1442695040888963407
		return int(state>>33) % n
	}
}

// thrown is a log of 24 blocks, mostly whole; a block in so many is another one.
func thrown(draw func(int) int, seq, odd int) []string {
	log := []string{}
	some := func() []int {
		l := []int{}
		for b := draw(12); b < 12 && len(l) < 3; b += 1 + draw(5) {
			l = append(l, b)
		}
		return l
	}
	for len(log) < 24 {
		switch draw(4) {
		case 0:
			log = append(log, list(seq, some()...))
		case 1:
			tags := []api.Tag{}
			for _, b := range some() {
				tags = append(tags, api.Tag{Block: b, Escaped: draw(2) == 0})
			}
			log = append(log, encoded(api.Mark{Kind: api.Descriptor, Seq: seq, Tags: tags}))
			for range tags {
				log = append(log, text(strings.Repeat("\x00", draw(5))+fmt.Sprint("t", draw(1000))))
			}
		default:
			log = append(log, commit(seq))
			seq = min(seq+1, api.MaxSeq)
		}
	}
	log = log[:24]
	for i := range log {
		if draw(odd) == 0 {
			log[i] = []string{text(""), commit(max(1, seq-draw(5))), list(seq, 1), descriptor(max(1, seq-1), 3), super(seq, 1), text("odd")}[draw(6)]
		}
	}
	return log
}

func TestScanOfThrownLogs(t *testing.T) {
	draw := draws()
	met := map[int]int{}
	for range 6000 {
		seq, at, odd := 1+draw(1000), draw(24), 5+draw(60)
		if draw(4) == 0 {
			seq = api.MaxSeq - draw(8)
		}
		log := thrown(draw, seq, odd)
		f := model(seq, at, log)
		met[len(f.Txns)]++
		d := laid(seq, at, log...)
		wantScan(t, d, f, api.OK)
		// The same, with some blocks written and not safe yet.
		for range draw(30) {
			n := draw(25)
			d.Writes = append(d.Writes, api.Write{At: n, Text: text("over")})
			d.Writes = append(d.Writes, api.Write{At: n, Text: d.Safe[n]})
		}
		wantScan(t, d, f, api.OK)
		if t.Failed() {
			// One log tells enough: there are thousands.
			return
		}
	}
	for n := range 8 {
		if met[n] == 0 {
			t.Errorf("none with %d: %v", n, met)
		}
	}
}

// done is a disk behind these steps.
func done(t *testing.T, d api.Disk, steps []api.Step) api.Disk {
	t.Helper()
	for _, s := range steps {
		e := api.OK
		switch s.Kind {
		case api.StepWrite:
			d, e = disk.Put(d, s.At, s.Text)
		case api.StepFlush:
			d, e = disk.Flush(d)
		}
		if e != api.OK {
			t.Fatalf("%+v: %d", s, e)
		}
	}
	return d
}

// sealable are transactions that a log may have, the blocks dealt out by a draw.
func sealable(draw func(int) int, seq int) api.Txn {
	x := api.Txn{Seq: seq}
	for b := range 12 {
		s := text([]string{"", "WBK1", "\x00\x00\x00\x00", "WBK1\x04\x00\x00\x00\x05"}[draw(4)] + fmt.Sprint(seq, "/", b))
		switch draw(8) {
		case 0:
			x.Meta = append(x.Meta, api.Copy{Block: b, Text: s})
		case 1:
			x.Data = append(x.Data, api.Copy{Block: b, Text: s})
		case 2:
			x.Revoked = append(x.Revoked, b)
		}
	}
	return x
}

// What was sealed is found again, be the power gone between any two steps: the ones ahead whole, the one under way whole or not at all.
func TestScanOfWhatWasSealed(t *testing.T) {
	draw := draws()
	met := map[int]int{}
	for round := range 150 {
		at, seq := round%24, 1+draw(1000)
		d, r, l := laid(seq, at), api.Ring{Head: at}, []api.Txn{}
		for {
			x := sealable(draw, seq+len(l))
			to, steps, e := seal.Commit(r, x)
			if e != api.OK {
				break
			}
			x.Data = nil
			with := append(slices.Clip(l), x)
			for n := range steps {
				dark, e := disk.Crash(done(t, d, steps[:n]), draw(1<<30))
				if e != api.OK {
					t.Fatal(e)
				}
				f, _ := scan.Scan(dark)
				met[len(f.Txns)-len(l)]++
				if n < len(steps)-1 || len(f.Txns) == len(l) {
					wantScan(t, dark, api.Found{Txns: l, Next: seq + len(l), At: r.Head}, api.OK)
				} else {
					wantScan(t, dark, api.Found{Txns: with, Next: seq + len(with), At: to.Head}, api.OK)
				}
			}
			d, r, l = done(t, d, steps), to, with
			wantScan(t, d, api.Found{Txns: l, Next: seq + len(l), At: r.Head}, api.OK)
		}
		f, _ := scan.Scan(d)
		if got := scan.Replay(f.Txns); !slices.Equal(got, seal.Newest(l)) {
			t.Errorf("%+v: %+v", l, got)
		}
	}
	if len(met) != 2 || met[0] == 0 || met[1] == 0 {
		t.Errorf("met: %v", met)
	}
}

// A log that began anew holds elder transactions still, in the circle: none of them counts.
func TestScanBehindACheck(t *testing.T) {
	draw, d, r := draws(), laid(1, 0), api.Ring{}
	l := []api.Txn{}
	for seq := 1; seq < 300; seq++ {
		x := sealable(draw, seq)
		to, steps, e := seal.Commit(r, x)
		if e == api.ErrSpace {
			home, _ := seal.Check(scan.Replay(l), r.Head, seq)
			d, r.Used, l = done(t, d, home), 0, nil
			wantScan(t, d, api.Found{Next: seq, At: r.Head}, api.OK)
			to, steps, e = seal.Commit(r, x)
		}
		if e != api.OK {
			t.Fatalf("%+v, %+v: %d", r, x, e)
		}
		x.Data = nil
		d, r, l = done(t, d, steps), to, append(l, x)
		wantScan(t, d, api.Found{Txns: l, Next: seq + 1, At: r.Head}, api.OK)
	}
}

func wantReplay(t *testing.T, l []api.Txn, to []api.Copy) {
	t.Helper()
	was := cloneAll(l)
	if got := scan.Replay(l); !slices.Equal(got, to) {
		t.Errorf("Replay %+v: %+v, want %+v", l, got, to)
	}
	if !slices.EqualFunc(l, was, like) {
		t.Errorf("Replay %+v: that is now %+v", was, l)
	}
}

func TestReplayByHand(t *testing.T) {
	one := func(b int, s string) []api.Copy { return []api.Copy{{Block: b, Text: text(s)}} }
	for what, c := range map[string]struct {
		l  []api.Txn
		to []api.Copy
	}{
		"no transactions":             {nil, nil},
		"an empty list":               {[]api.Txn{}, nil},
		"nothing in it":               {[]api.Txn{{Seq: 1}, {Seq: 2, Meta: []api.Copy{}, Revoked: []int{}}}, nil},
		"one change":                  {[]api.Txn{{Seq: 1, Meta: one(5, "a")}}, one(5, "a")},
		"changed in several":          {[]api.Txn{{Seq: 1, Meta: one(5, "a")}, {Seq: 2, Meta: one(5, "b")}, {Seq: 3, Meta: one(5, "c")}}, one(5, "c")},
		"the list says which is last": {[]api.Txn{{Seq: 9, Meta: one(5, "a")}, {Seq: 4, Meta: one(5, "b")}}, one(5, "b")},
		"numbers that are alike":      {[]api.Txn{{Seq: 4, Meta: one(5, "a")}, {Seq: 4, Revoked: []int{5}}, {Seq: 4, Meta: one(6, "b")}}, one(6, "b")},
		"changed and then revoked":    {[]api.Txn{{Seq: 1, Meta: one(5, "a")}, {Seq: 2, Revoked: []int{5}}}, nil},
		"revoked and then changed":    {[]api.Txn{{Seq: 1, Revoked: []int{5}}, {Seq: 2, Meta: one(5, "b")}}, one(5, "b")},
		"changed, revoked, changed":   {[]api.Txn{{Seq: 1, Meta: one(5, "a")}, {Seq: 2, Revoked: []int{5}}, {Seq: 3, Meta: one(5, "c")}}, one(5, "c")},
		"revoked, changed, revoked":   {[]api.Txn{{Seq: 1, Revoked: []int{5}}, {Seq: 2, Meta: one(5, "b")}, {Seq: 3, Revoked: []int{5}}}, nil},
		"revoked alone":               {[]api.Txn{{Seq: 1, Revoked: []int{0, 5, 11}}}, nil},
		"the first block of the first one, revoked in the first one": {[]api.Txn{{Seq: 1, Revoked: []int{0}}}, nil},
		"block 0 in the first one":                                   {[]api.Txn{{Seq: 1, Meta: one(0, "a")}, {Seq: 2, Meta: one(1, "b")}}, []api.Copy{{Block: 0, Text: text("a")}, {Block: 1, Text: text("b")}}},
		"data alone":                                                 {[]api.Txn{{Seq: 1, Data: one(5, "a")}}, nil},
		"data names nothing":                                         {[]api.Txn{{Seq: 1, Meta: one(5, "a")}, {Seq: 2, Data: one(5, "b")}}, one(5, "a")},
		"revoked, and then data":                                     {[]api.Txn{{Seq: 1, Meta: one(5, "a")}, {Seq: 2, Revoked: []int{5}}, {Seq: 3, Data: one(5, "b")}}, nil},
		"another is revoked":                                         {[]api.Txn{{Seq: 1, Meta: one(5, "a")}, {Seq: 2, Revoked: []int{4, 6}}}, one(5, "a")},
		"another in the same one":                                    {[]api.Txn{{Seq: 1, Meta: one(5, "a"), Revoked: []int{4, 6}}}, one(5, "a")},
		"nothing in the last one":                                    {[]api.Txn{{Seq: 1, Meta: one(5, "a")}, {Seq: 2}}, one(5, "a")},
		"as they are, not escaped":                                   {[]api.Txn{{Seq: 1, Meta: one(0, "WBK1x")}, {Seq: 2, Meta: one(11, "")}}, []api.Copy{{Block: 0, Text: text("WBK1x")}, {Block: 11, Text: text("")}}},
		"by number, the last ahead":                                  {[]api.Txn{{Seq: 1, Meta: copies(11)}, {Seq: 2, Meta: copies(3, 7)}, {Seq: 3, Meta: copies(0, 5)}}, copies(0, 3, 5, 7, 11)},
		"all":                                                        {[]api.Txn{{Seq: 1, Meta: copies(upTo(12)...)}}, copies(upTo(12)...)},
		"all, and then revoked":                                      {[]api.Txn{{Seq: 1, Meta: copies(upTo(12)...)}, {Seq: 2, Revoked: upTo(12)}}, nil},
		"all but the first and last":                                 {[]api.Txn{{Seq: 1, Meta: copies(upTo(12)...)}, {Seq: 2, Revoked: []int{0, 11}}}, copies(fromTo(1, 11)...)},
	} {
		t.Run(what, func(t *testing.T) { wantReplay(t, c.l, c.to) })
	}
}

// history is transactions, and what is known of blocks behind them, from the eldest on.
type history struct {
	l     []api.Txn
	known map[int]string
}

// add puts a transaction behind the others, by the role of each block: nothing, Meta, Data or Revoked.
func (h *history) add(roles map[int]int) {
	x := api.Txn{Seq: 1 + len(h.l)}
	for b := range 12 {
		s := text(fmt.Sprint(x.Seq, "/", b))
		switch roles[b] {
		case 1:
			x.Meta = append(x.Meta, api.Copy{Block: b, Text: s})
			h.known[b] = s
		case 2:
			x.Data = append(x.Data, api.Copy{Block: b, Text: s})
		case 3:
			x.Revoked = append(x.Revoked, b)
			delete(h.known, b)
		}
	}
	h.l = append(h.l, x)
}

func (h *history) newest() []api.Copy {
	l := []api.Copy{}
	for b := range 12 {
		if s, is := h.known[b]; is {
			l = append(l, api.Copy{Block: b, Text: s})
		}
	}
	return l
}

// As Newest: that is asked beside the model.
func (h *history) want(t *testing.T) {
	t.Helper()
	wantReplay(t, h.l, h.newest())
	if !slices.Equal(scan.Replay(h.l), seal.Newest(h.l)) {
		t.Errorf("%+v: %+v, Newest %+v", h.l, scan.Replay(h.l), seal.Newest(h.l))
	}
}

func TestReplayOfAllShortHistories(t *testing.T) {
	for n := range 1 << 12 {
		h := history{known: map[int]string{}}
		for i := range 3 {
			h.add(map[int]int{0: n >> (4 * i) & 3, 11: n >> (4*i + 2) & 3})
		}
		h.want(t)
	}
}

func TestReplayOfLongHistories(t *testing.T) {
	draw := draws()
	for range 100 {
		h := history{known: map[int]string{}}
		for range 30 {
			roles := map[int]int{}
			for range draw(6) {
				roles[draw(12)] = draw(4)
			}
			h.add(roles)
			if !txn.Good(h.l[len(h.l)-1]) {
				t.Fatalf("%+v is not good", h.l)
			}
			h.want(t)
		}
	}
}

// Maps are gone through in any order: that is not to be seen.
func TestTheSameEachTime(t *testing.T) {
	l := []api.Txn{{Seq: 1, Meta: copies(upTo(12)...)}, {Seq: 2, Revoked: []int{3, 4}}}
	for range 200 {
		wantReplay(t, l, append(copies(0, 1, 2), copies(fromTo(5, 12)...)...))
	}
}

// roomy has the lists of a transaction with spare room behind each, of which whole is all.
func roomy(x api.Txn) (thin, whole api.Txn) {
	whole = clone(x)
	for range 30 {
		whole.Meta = append(whole.Meta, api.Copy{Block: 7, Text: "spare"})
		whole.Data = append(whole.Data, api.Copy{Block: 7, Text: "spare"})
		whole.Revoked = append(whole.Revoked, 7)
	}
	thin = whole
	thin.Meta, thin.Data, thin.Revoked = whole.Meta[:len(x.Meta)], whole.Data[:len(x.Data)], whole.Revoked[:len(x.Revoked)]
	return thin, whole
}

func TestWhatIsHandedInStays(t *testing.T) {
	draw := draws()
	disks := []api.Disk{laid(6, 22, descriptor(6, 1), text("a"), list(6, 2), commit(6)), disk.New()}
	for _, d := range badDisks() {
		disks = append(disks, d)
	}
	for _, d := range disks {
		whole := api.Disk{Safe: append(slices.Clone(d.Safe), "spare", "spare"), Writes: append(slices.Clone(d.Writes), api.Write{At: 0, Text: super(6, 1)}, api.Write{At: 99})}
		was := cloneDisk(whole)
		thin := api.Disk{Safe: whole.Safe[:len(d.Safe)], Writes: whole.Writes[:len(d.Writes)]}
		got, gotE := scan.Scan(thin)
		f, e := scan.Scan(d)
		if !likeDisk(whole, was) || !likeFound(got, f) || gotE != e {
			t.Errorf("%+v is now %+v: %+v, %d; want %+v, %d", was, whole, got, gotE, f, e)
		}
	}
	for seq := range 50 {
		x := sealable(draw, 1+seq)
		thin, whole := roomy(x)
		was := clone(whole)
		l := []api.Txn{thin, thin, {Seq: 5}, {Seq: 6}}
		wantReplay(t, l[:2], x.Meta)
		if !like(whole, was) || !like(l[0], thin) || !like(l[1], thin) || l[2].Seq != 5 || l[3].Seq != 6 {
			t.Errorf("%+v is now %+v, %+v", was, whole, l)
		}
	}
}

// What is answered is written over, its spare room too: nobody else's list is there.
func TestAnswersAreNewMemory(t *testing.T) {
	log := []string{
		descriptor(6, 1, 2), text("a"), text("b"), list(6, 3), list(6, 4, 5), descriptor(6, 7), text("c"), commit(6),
		list(7, 8), descriptor(7, 9), text("d"), commit(7), commit(8), list(9, 1), commit(9),
	}
	d := laid(6, 20, log...)
	want := []api.Txn{
		{Seq: 6, Meta: []api.Copy{{Block: 1, Text: text("a")}, {Block: 2, Text: text("b")}, {Block: 7, Text: text("c")}}, Revoked: []int{3, 4, 5}},
		{Seq: 7, Meta: []api.Copy{{Block: 9, Text: text("d")}}, Revoked: []int{8}}, {Seq: 8}, {Seq: 9, Revoked: []int{1}},
	}
	spoil := func(x api.Txn) {
		for i := range x.Meta[:cap(x.Meta)] {
			x.Meta[:cap(x.Meta)][i] = api.Copy{Block: 99, Text: "spoilt"}
		}
		for i := range x.Revoked[:cap(x.Revoked)] {
			x.Revoked[:cap(x.Revoked)][i] = 99
		}
	}
	for i := range want {
		f, _ := scan.Scan(d)
		spoil(f.Txns[i])
		for k := range want {
			if k != i && !like(f.Txns[k], want[k]) {
				t.Errorf("%d spoilt: %d is %+v", i, k, f.Txns[k])
			}
		}
		clear(f.Txns[:cap(f.Txns)])
		wantFound(t, d, 6, 20, len(log), want...)
	}
	l := cloneAll(want)
	got := scan.Replay(l)
	kept := slices.Clone(got)
	for i := range got[:cap(got)] {
		got[:cap(got)][i] = api.Copy{Block: 99, Text: "spoilt"}
	}
	wantReplay(t, l, kept)
	if !slices.EqualFunc(l, want, like) {
		t.Errorf("%+v is now %+v", want, l)
	}
}

func TestListsWithoutElementsMayBeNil(t *testing.T) {
	full := api.Txn{Seq: 4, Meta: copies(1, 9), Data: copies(3), Revoked: []int{5}}
	for bits := range 8 {
		x, empty := full, full
		if bits&1 == 1 {
			x.Meta, empty.Meta = nil, []api.Copy{}
		}
		if bits&2 == 2 {
			x.Data, empty.Data = nil, []api.Copy{}
		}
		if bits&4 == 4 {
			x.Revoked, empty.Revoked = nil, []int{}
		}
		wantReplay(t, []api.Txn{{Seq: 3, Meta: copies(5)}, x, {Seq: 5}}, scan.Replay([]api.Txn{{Seq: 3, Meta: copies(5)}, empty, {Seq: 5, Meta: []api.Copy{}, Revoked: []int{}}}))
		wantReplay(t, []api.Txn{empty}, x.Meta)
	}
	d := laid(6, 22, list(6, 2), commit(6))
	wantFound(t, api.Disk{Safe: d.Safe, Writes: nil}, 6, 22, 2, api.Txn{Seq: 6, Revoked: []int{2}})
	wantFound(t, api.Disk{Safe: d.Safe, Writes: []api.Write{}}, 6, 22, 2, api.Txn{Seq: 6, Revoked: []int{2}})
}

// Replay is said of good ones; of others it answers what Newest does.
func TestNoPanic(t *testing.T) {
	wild := []api.Txn{
		{},
		{Seq: -1, Meta: slices.Repeat(copies(0, 11, 3), 1000), Revoked: slices.Repeat([]int{math.MinInt, math.MaxInt, 3}, 1000)},
		{Meta: []api.Copy{{Block: -1}, {Block: math.MaxInt, Text: "a"}, {Block: math.MinInt}, {Block: 12, Text: text("a")}, {Block: 5, Text: "short"}}},
		{Meta: []api.Copy{{Block: 4, Text: "first"}, {Block: 4, Text: "second"}}, Revoked: []int{-1, 12, 11, 11, 5}},
		{Handles: [3]api.Handle{{Left: math.MaxInt}, {On: true, Left: math.MinInt}}, Data: copies(0, 0)},
	}
	for i := range wild {
		for k := range wild {
			l := []api.Txn{wild[i], wild[k]}
			wantReplay(t, l, seal.Newest(l))
		}
	}
	wantReplay(t, wild, seal.Newest(wild))
	long := slices.Repeat([]api.Txn{{Seq: 1, Meta: copies(1, 2), Revoked: []int{3}}}, 20000)
	wantReplay(t, long, copies(1, 2))
	draw := draws()
	for range 3000 {
		d := disk.New()
		for n := range d.Safe {
			b := make([]byte, 28)
			for i := range b {
				b[i] = byte(draw(5))
			}
			d.Safe[n] = "WBK1" + string(b)
		}
		d.Safe[0] = super(1+draw(4), draw(24))
		scan.Scan(d)
	}
}
