package stamp_test

import (
	"math"
	"reflect"
	"slices"
	"strings"
	"testing"

	"wastebook/api"
	"wastebook/stamp"
)

var kinds = []int{api.Super, api.Descriptor, api.List, api.Commit}
var noKinds = []int{0, 5, -1, 256 + api.Super, 256 + api.Commit, math.MinInt, math.MaxInt}
var edgeSeqs = []int{1, 2, 255, 256, 1<<16 - 1, 1 << 16, 1<<24 - 1, 1 << 24, 0x01020304, api.MaxSeq - 1, api.MaxSeq}
var noSeqs = []int{0, -1, api.MaxSeq + 1, 1<<32 + 1, math.MinInt, math.MaxInt}
var noAts = []int{-1, api.LogSize, 256, math.MinInt, math.MaxInt}
var noBlocks = []int{-1, api.Blocks, 256, math.MinInt, math.MaxInt}

// block is bytes with noughts behind them, up to the size of a block.
func block(s string) string { return s + strings.Repeat("\x00", 32-len(s)) }

// upTo are the blocks from 0 on.
func upTo(n int) []int {
	blocks := []int{}
	for b := range n {
		blocks = append(blocks, b)
	}
	return blocks
}

// tagsOf are tags of blocks, of which those are escaped whose bit is set.
func tagsOf(blocks []int, escaped int) []api.Tag {
	tags := []api.Tag{}
	for i, b := range blocks {
		tags = append(tags, api.Tag{Block: b, Escaped: escaped>>i&1 == 1})
	}
	return tags
}

// chosen are the blocks whose bit is set, by number.
func chosen(bits int) []int {
	blocks := []int{}
	for b := range api.Blocks {
		if bits>>b&1 == 1 {
			blocks = append(blocks, b)
		}
	}
	return blocks
}

func like(a, b api.Mark) bool {
	return a.Kind == b.Kind && a.Seq == b.Seq && a.At == b.At && slices.Equal(a.Tags, b.Tags) && slices.Equal(a.Blocks, b.Blocks)
}

func isZero(m api.Mark) bool { return like(m, api.Mark{}) }

// good is a mark of a kind, with no more in it than it needs.
func good(kind int) api.Mark {
	m := api.Mark{Kind: kind, Seq: 7}
	switch kind {
	case api.Descriptor:
		m.Tags = tagsOf([]int{1, 4}, 2)
	case api.List:
		m.Blocks = []int{1, 4}
	}
	return m
}

type form struct {
	m api.Mark
	s string
}

// forms are marks and, written out by hand, their bytes.
func forms() []form {
	return []form{
		{api.Mark{Kind: api.Super, Seq: 1}, "WBK1\x01\x00\x00\x00\x01\x00"},
		{api.Mark{Kind: api.Super, Seq: 1, At: 1}, "WBK1\x01\x00\x00\x00\x01\x01"},
		{api.Mark{Kind: api.Super, Seq: api.MaxSeq, At: api.LogSize - 1}, "WBK1\x01\x7f\xff\xff\xff\x17"},
		{api.Mark{Kind: api.Super, Seq: 1, Tags: []api.Tag{}, Blocks: []int{}}, "WBK1\x01\x00\x00\x00\x01\x00"},
		{api.Mark{Kind: api.Commit, Seq: 1}, "WBK1\x04\x00\x00\x00\x01"},
		{api.Mark{Kind: api.Commit, Seq: 0x01020304}, "WBK1\x04\x01\x02\x03\x04"},
		{api.Mark{Kind: api.Commit, Seq: api.MaxSeq, Tags: []api.Tag{}, Blocks: []int{}}, "WBK1\x04\x7f\xff\xff\xff"},
		{api.Mark{Kind: api.List, Seq: 1, Blocks: []int{0}}, "WBK1\x03\x00\x00\x00\x01\x01\x00"},
		{api.Mark{Kind: api.List, Seq: 256, Blocks: []int{11}}, "WBK1\x03\x00\x00\x01\x00\x01\x0b"},
		{api.Mark{Kind: api.List, Seq: 3, Blocks: []int{2, 3, 11}, Tags: []api.Tag{}}, "WBK1\x03\x00\x00\x00\x03\x03\x02\x03\x0b"},
		{
			api.Mark{Kind: api.List, Seq: api.MaxSeq, Blocks: upTo(api.Blocks)},
			"WBK1\x03\x7f\xff\xff\xff\x0c\x00\x01\x02\x03\x04\x05\x06\x07\x08\x09\x0a\x0b",
		},
		{api.Mark{Kind: api.Descriptor, Seq: 1, Tags: []api.Tag{{}}}, "WBK1\x02\x00\x00\x00\x01\x01\x00\x00"},
		{api.Mark{Kind: api.Descriptor, Seq: 1, Tags: []api.Tag{{Block: 11, Escaped: true}}}, "WBK1\x02\x00\x00\x00\x01\x01\x0b\x01"},
		{
			api.Mark{Kind: api.Descriptor, Seq: 9, Tags: []api.Tag{{Block: 0, Escaped: true}, {Block: 4}, {Block: 5, Escaped: true}}, Blocks: []int{}},
			"WBK1\x02\x00\x00\x00\x09\x03\x00\x01\x04\x00\x05\x01",
		},
		{
			api.Mark{Kind: api.Descriptor, Seq: api.MaxSeq, Tags: tagsOf(upTo(api.MaxTags), 1<<9|1<<2)},
			"WBK1\x02\x7f\xff\xff\xff\x0a\x00\x00\x01\x00\x02\x01\x03\x00\x04\x00\x05\x00\x06\x00\x07\x00\x08\x00\x09\x01",
		},
	}
}

func TestEncodeByHand(t *testing.T) {
	for _, f := range forms() {
		if e := stamp.Good(f.m); e != api.OK {
			t.Errorf("Good %+v: %d", f.m, e)
		}
		if s, e := stamp.Encode(f.m); s != block(f.s) || e != api.OK {
			t.Errorf("Encode %+v: %q, %d; want %q", f.m, s, e, block(f.s))
		}
	}
}

func TestDecodeByHand(t *testing.T) {
	for _, f := range forms() {
		if m, e := stamp.Decode(block(f.s)); !like(m, f.m) || e != api.OK {
			t.Errorf("Decode %q: %+v, %d; want %+v", block(f.s), m, e, f.m)
		}
	}
}

// wantBack is that a mark is good, and what it is written as is read as that mark.
func wantBack(t *testing.T, m api.Mark) {
	t.Helper()
	if e := stamp.Good(m); e != api.OK {
		t.Errorf("Good %+v: %d", m, e)
	}
	s, e := stamp.Encode(m)
	if e != api.OK || len(s) != api.Size {
		t.Errorf("Encode %+v: %q, %d", m, s, e)
	}
	if back, e := stamp.Decode(s); e != api.OK || !like(back, m) {
		t.Errorf("%+v comes back as %+v, %d", m, back, e)
	}
}

func wantError(t *testing.T, m api.Mark, want api.Errno) {
	t.Helper()
	if e := stamp.Good(m); e != want {
		t.Errorf("Good %+v: %d, want %d", m, e, want)
	}
	if s, e := stamp.Encode(m); s != "" || e != want {
		t.Errorf("Encode %+v: %q, %d; want %d", m, s, e, want)
	}
}

func TestMarksComeBack(t *testing.T) {
	for _, seq := range edgeSeqs {
		for at := range api.LogSize {
			wantBack(t, api.Mark{Kind: api.Super, Seq: seq, At: at})
		}
		for _, kind := range kinds {
			m := good(kind)
			m.Seq = seq
			wantBack(t, m)
		}
	}
	for bits := 1; bits < 1<<api.Blocks; bits++ {
		blocks := chosen(bits)
		wantBack(t, api.Mark{Kind: api.List, Seq: bits, Blocks: blocks})
		d := api.Mark{Kind: api.Descriptor, Seq: bits, Tags: tagsOf(blocks, bits*31)}
		if len(blocks) <= api.MaxTags {
			wantBack(t, d)
		} else {
			wantError(t, d, api.ErrRange)
		}
	}
	for escaped := range 1 << api.MaxTags {
		wantBack(t, api.Mark{Kind: api.Descriptor, Seq: 1, Tags: tagsOf(upTo(api.MaxTags), escaped)})
	}
}

func TestNoTwoMarksHaveTheSameBytes(t *testing.T) {
	seen := map[string]api.Mark{}
	add := func(m api.Mark) {
		s, e := stamp.Encode(m)
		if other, is := seen[s]; is || e != api.OK {
			t.Errorf("%+v and %+v: %q, %d", m, other, s, e)
		}
		seen[s] = m
	}
	for _, seq := range edgeSeqs {
		add(api.Mark{Kind: api.Commit, Seq: seq})
		for at := range api.LogSize {
			add(api.Mark{Kind: api.Super, Seq: seq, At: at})
		}
		for bits := 1; bits < 1<<8; bits++ {
			add(api.Mark{Kind: api.List, Seq: seq, Blocks: chosen(bits)})
			add(api.Mark{Kind: api.Descriptor, Seq: seq, Tags: tagsOf(chosen(bits), 0)})
			add(api.Mark{Kind: api.Descriptor, Seq: seq, Tags: tagsOf(chosen(bits), 1)})
		}
	}
}

func TestWrongNumbers(t *testing.T) {
	for _, kind := range noKinds {
		wantError(t, api.Mark{Kind: kind, Seq: 1}, api.ErrKind)
	}
	for _, kind := range kinds {
		for _, seq := range noSeqs {
			m := good(kind)
			m.Seq = seq
			wantError(t, m, api.ErrRange)
		}
		for _, at := range noAts {
			m := good(kind)
			m.At = at
			wantError(t, m, api.ErrRange)
		}
	}
	wantError(t, api.Mark{}, api.ErrKind)
}

func TestPartsWhereTheyMayNotBe(t *testing.T) {
	for _, kind := range kinds {
		if kind != api.Super {
			for _, at := range []int{1, api.LogSize - 1} {
				m := good(kind)
				m.At = at
				wantError(t, m, api.ErrForm)
			}
		}
		if kind != api.Descriptor {
			m := good(kind)
			m.Tags = []api.Tag{{}}
			wantError(t, m, api.ErrForm)
		}
		if kind != api.List {
			m := good(kind)
			m.Blocks = []int{0}
			wantError(t, m, api.ErrForm)
		}
	}
}

// wantNames is what both kinds say that name blocks.
func wantNames(t *testing.T, blocks []int, want api.Errno) {
	t.Helper()
	for _, m := range []api.Mark{
		{Kind: api.List, Seq: 1, Blocks: blocks},
		{Kind: api.Descriptor, Seq: 1, Tags: tagsOf(blocks, 5)},
	} {
		if want == api.OK {
			wantBack(t, m)
		} else {
			wantError(t, m, want)
		}
	}
}

func TestNamesRiseEachOnce(t *testing.T) {
	for _, blocks := range [][]int{{0}, {11}, {0, 11}, {10, 11}, {0, 1}, {0, 1, 2, 3, 4, 5, 6, 7, 8, 9}, {2, 3, 4, 5, 6, 7, 8, 9, 10, 11}} {
		wantNames(t, blocks, api.OK)
	}
	for _, blocks := range [][]int{nil, {}, {0, 0}, {11, 11}, {1, 0}, {11, 10}, {0, 2, 1}, {1, 2, 2}, {3, 3, 4}, {0, 1, 2, 3, 4, 5, 6, 7, 8, 8}, {1, 2, 3, 0}} {
		wantNames(t, blocks, api.ErrRange)
	}
	for _, b := range noBlocks {
		for _, blocks := range [][]int{{b}, {b, 5}, {5, b}, {0, 1, b}, {b, b}} {
			wantNames(t, blocks, api.ErrRange)
		}
	}
}

// A list may name MaxList, but there are fewer blocks than that, and each is named once at most.
func TestHowManyAreNamed(t *testing.T) {
	wantBack(t, api.Mark{Kind: api.List, Seq: 1, Blocks: upTo(api.Blocks)})
	for _, n := range []int{api.Blocks + 1, api.MaxList - 1, api.MaxList, api.MaxList + 1, 256, 257, 1000} {
		wantError(t, api.Mark{Kind: api.List, Seq: 1, Blocks: upTo(n)}, api.ErrRange)
	}
	wantBack(t, api.Mark{Kind: api.Descriptor, Seq: 1, Tags: tagsOf(upTo(api.MaxTags), 0)})
	for _, n := range []int{api.MaxTags + 1, api.Blocks, api.Blocks + 1, 256, 257, 1000} {
		wantError(t, api.Mark{Kind: api.Descriptor, Seq: 1, Tags: tagsOf(upTo(n), 0)}, api.ErrRange)
	}
}

// Every mark with some of the things that are wrong says the one that the chapter names first.
func TestErrorsInTheirOrder(t *testing.T) {
	for kind := -1; kind <= 6; kind++ {
		for _, seq := range []int{0, 1, api.MaxSeq, api.MaxSeq + 1} {
			for _, at := range []int{-1, 0, 1, api.LogSize - 1, api.LogSize} {
				for _, tagged := range [][]int{nil, {3}, {4, 4}, {-1}, upTo(11)} {
					for _, listed := range [][]int{nil, {3}, {4, 4}, {12}, upTo(21)} {
						m := api.Mark{Kind: kind, Seq: seq, At: at, Tags: tagsOf(tagged, 0), Blocks: listed}
						if want := firstWrong(m); want != api.OK {
							wantError(t, m, want)
						} else {
							wantBack(t, m)
						}
					}
				}
			}
		}
	}
}

// firstWrong goes through what may be wrong from the last on, so that what is named first is what stays.
func firstWrong(m api.Mark) api.Errno {
	e := api.OK
	say := func(wrong bool, what api.Errno) {
		if wrong {
			e = what
		}
	}
	oneBlock := len(m.Tags)+len(m.Blocks) == 1 && !slices.Contains(m.Blocks, 12) && !slices.Contains(m.Tags, api.Tag{Block: -1})
	say((m.Kind == api.Descriptor || m.Kind == api.List) && !oneBlock, api.ErrRange)
	say(m.Kind != api.Super && m.At != 0, api.ErrForm)
	say(m.Kind != api.Descriptor && len(m.Tags) != 0, api.ErrForm)
	say(m.Kind != api.List && len(m.Blocks) != 0, api.ErrForm)
	say(m.At < 0 || m.At >= 24, api.ErrRange)
	say(m.Seq < 1 || m.Seq > 2147483647, api.ErrRange)
	say(!slices.Contains(kinds, m.Kind), api.ErrKind)
	return e
}

// isMark asks of bytes alone whether there is a mark that has them.
func isMark(s string) bool {
	if len(s) != 32 || s[:4] != "WBK1" || s[5] > 127 || s[5:9] == "\x00\x00\x00\x00" {
		return false
	}
	end, least := 9, 0
	names := func(most, step int) bool {
		n := int(s[9])
		if n < 1 || n > most {
			return false
		}
		for end = 10; end < 10+n*step; end += step {
			if int(s[end]) < least || s[end] > 11 || step == 2 && s[end+1] > 1 {
				return false
			}
			least = int(s[end]) + 1
		}
		return true
	}
	is := s[4] == 4
	switch s[4] {
	case 1:
		is, end = s[9] < 24, 10
	case 2:
		is = names(10, 2)
	case 3:
		is = names(12, 1)
	}
	return is && s[end:] == strings.Repeat("\x00", 32-end)
}

// wantDecode is that bytes are a mark that has just these, if there is one, else none.
func wantDecode(t *testing.T, s string) {
	t.Helper()
	m, e := stamp.Decode(s)
	if !isMark(s) {
		if e != api.ErrForm || !isZero(m) {
			t.Errorf("Decode %q: %+v, %d", s, m, e)
		}
		return
	}
	if e != api.OK {
		t.Errorf("Decode %q: %d", s, e)
	}
	if again, e := stamp.Encode(m); again != s || e != api.OK {
		t.Errorf("%q is read as %+v, that is %q, %d", s, m, again, e)
	}
}

func TestDecodeWithEachByteChanged(t *testing.T) {
	for _, f := range forms() {
		s := block(f.s)
		for at := range api.Size {
			for c := range 256 {
				wantDecode(t, s[:at]+string([]byte{byte(c)})+s[at+1:])
			}
		}
	}
}

func TestDecodeWithTwoBytesChanged(t *testing.T) {
	some := []byte{0, 1, 2, 3, 4, 10, 11, 12, 23, 24, 127, 128, 255}
	for _, f := range forms() {
		for at := 4; at < api.Size; at++ {
			for also := at + 1; also < api.Size; also++ {
				for _, c := range some {
					for _, d := range some {
						b := []byte(block(f.s))
						b[at], b[also] = c, d
						wantDecode(t, string(b))
					}
				}
			}
		}
	}
}

func TestDecodeOfAnotherLength(t *testing.T) {
	for _, f := range forms() {
		s := block(f.s)
		for n := range api.Size {
			wantDecode(t, s[:n])
		}
		for _, more := range []string{"\x00", "x", s, strings.Repeat("\x00", 1000)} {
			wantDecode(t, s+more)
		}
		wantDecode(t, "\x00"+s)
		wantDecode(t, f.s)
	}
	for n := range 70 {
		wantDecode(t, strings.Repeat("\x00", n))
		wantDecode(t, strings.Repeat("\xff", n))
		wantDecode(t, "WBK1"+strings.Repeat("\x03", n))
	}
}

func TestDecodeOfWhatIsNoMark(t *testing.T) {
	for name, s := range map[string]string{
		"noughts":             "",
		"Magic alone":         "WBK1",
		"another beginning":   "WBK2\x04\x00\x00\x00\x01",
		"escaped":             "\x00\x00\x00\x00\x04\x00\x00\x00\x01",
		"kind 0":              "WBK1\x00\x00\x00\x00\x01",
		"kind 5":              "WBK1\x05\x00\x00\x00\x01",
		"Seq 0":               "WBK1\x04\x00\x00\x00\x00",
		"Seq above MaxSeq":    "WBK1\x04\x80\x00\x00\x00",
		"Seq of all bits":     "WBK1\x04\xff\xff\xff\xff",
		"At is LogSize":       "WBK1\x01\x00\x00\x00\x01\x18",
		"commit with an At":   "WBK1\x04\x00\x00\x00\x01\x01",
		"no tags":             "WBK1\x02\x00\x00\x00\x01\x00",
		"eleven tags":         "WBK1\x02\x00\x00\x00\x01\x0b\x00\x00\x01\x00\x02\x00\x03\x00\x04\x00\x05\x00\x06\x00\x07\x00\x08\x00\x09\x00\x0a\x00",
		"255 tags":            "WBK1\x02\x00\x00\x00\x01\xff\x00\x01",
		"Escaped is 2":        "WBK1\x02\x00\x00\x00\x01\x01\x00\x02",
		"Escaped is 255":      "WBK1\x02\x00\x00\x00\x01\x02\x00\x00\x01\xff",
		"a tag of block 12":   "WBK1\x02\x00\x00\x00\x01\x01\x0c\x00",
		"tags that fall":      "WBK1\x02\x00\x00\x00\x01\x02\x04\x00\x03\x00",
		"a tag twice":         "WBK1\x02\x00\x00\x00\x01\x02\x04\x00\x04\x01",
		"no blocks":           "WBK1\x03\x00\x00\x00\x01\x00",
		"255 blocks":          "WBK1\x03\x00\x00\x00\x01\xff\x00\x01",
		"MaxList blocks":      "WBK1\x03\x00\x00\x00\x01\x14\x00\x01\x02\x03\x04\x05\x06\x07\x08\x09\x0a\x0b\x0c\x0d\x0e\x0f\x10\x11\x12\x13",
		"a list of block 12":  "WBK1\x03\x00\x00\x00\x01\x01\x0c",
		"a list that falls":   "WBK1\x03\x00\x00\x00\x01\x02\x04\x03",
		"a block twice":       "WBK1\x03\x00\x00\x00\x01\x02\x04\x04",
		"a byte behind a At":  "WBK1\x01\x00\x00\x00\x01\x00\x01",
		"a byte behind tags":  "WBK1\x02\x00\x00\x00\x01\x01\x00\x00\x01",
		"a byte behind list":  "WBK1\x03\x00\x00\x00\x01\x01\x00\x01",
		"a byte at the end":   "WBK1\x04\x00\x00\x00\x01" + strings.Repeat("\x00", 22) + "\x01",
		"noughts, then Magic": strings.Repeat("\x00", 23) + "WBK1\x04\x00\x00\x00\x01",
	} {
		if m, e := stamp.Decode(block(s)); e != api.ErrForm || !isZero(m) {
			t.Errorf("%s: %+v, %d", name, m, e)
		}
	}
}

func TestEscape(t *testing.T) {
	long := strings.Repeat("0123456789", 5)
	for _, c := range []struct {
		in, want string
		is       bool
	}{
		{"", "", false}, {"W", "W", false}, {"WBK", "WBK", false}, {"\x00\x00\x00", "\x00\x00\x00", false},
		{"WBK1", "\x00\x00\x00\x00", true}, {"WBK1x", "\x00\x00\x00\x00x", true},
		{"WBK1WBK1", "\x00\x00\x00\x00WBK1", true}, {"WBK1" + long, "\x00\x00\x00\x00" + long, true},
		{"WBK2", "WBK2", false}, {"WBk1", "WBk1", false}, {"xWBK1", "xWBK1", false}, {"WB\x00K1", "WB\x00K1", false},
		{"\x00\x00\x00\x00", "\x00\x00\x00\x00", false}, {"\x00\x00\x00\x00WBK1", "\x00\x00\x00\x00WBK1", false},
		{long, long, false}, {"\xff\xfe\xfd\xfc", "\xff\xfe\xfd\xfc", false}, {"WBK1\xff", "\x00\x00\x00\x00\xff", true},
	} {
		s, is := stamp.Escape(c.in)
		if s != c.want || is != c.is {
			t.Errorf("Escape %q: %q, %v; want %q, %v", c.in, s, is, c.want, c.is)
		}
		if back := stamp.Unescape(s, is); back != c.in {
			t.Errorf("%q comes back as %q", c.in, back)
		}
	}
}

// What an escaped copy has in the place of Magic is not asked.
func TestUnescape(t *testing.T) {
	for _, c := range []struct{ in, want string }{
		{"", ""}, {"\x00", "\x00"}, {"\x00\x00\x00", "\x00\x00\x00"}, {"WBK", "WBK"},
		{"\x00\x00\x00\x00", "WBK1"}, {"\x00\x00\x00\x00abc", "WBK1abc"}, {"\x00\x00\x00\x00\x00", "WBK1\x00"},
		{"abcd", "WBK1"}, {"abcdefg", "WBK1efg"}, {"WBK1x", "WBK1x"}, {block(""), "WBK1" + strings.Repeat("\x00", 28)},
	} {
		if s := stamp.Unescape(c.in, true); s != c.want {
			t.Errorf("Unescape %q: %q, want %q", c.in, s, c.want)
		}
		if s := stamp.Unescape(c.in, false); s != c.in {
			t.Errorf("Unescape %q that is not escaped: %q", c.in, s)
		}
	}
}

// An escaped block is no mark, whatever was in it.
func TestEscapedBlocksAreNoMarks(t *testing.T) {
	for _, f := range forms() {
		s, is := stamp.Escape(block(f.s))
		if _, e := stamp.Decode(s); !is || e != api.ErrForm || len(s) != api.Size {
			t.Errorf("%q: %v, %d", s, is, e)
		}
	}
}

// What is handed in stays, its spare room too.
func TestWhatIsHandedInStays(t *testing.T) {
	tags, blocks := tagsOf(upTo(12), 77), upTo(12)
	for n := range 12 {
		for _, kind := range kinds {
			m := api.Mark{Kind: kind, Seq: 1, Tags: tags[:n], Blocks: blocks[:n]}
			stamp.Good(m)
			stamp.Encode(m)
		}
		stamp.Encode(api.Mark{Kind: api.Descriptor, Seq: 1, Tags: tags[:n]})
		stamp.Encode(api.Mark{Kind: api.List, Seq: 1, Blocks: blocks[:n]})
	}
	if !reflect.DeepEqual(tags, tagsOf(upTo(12), 77)) || !reflect.DeepEqual(blocks, upTo(12)) {
		t.Errorf("changed: %v, %v", tags, blocks)
	}
}

// What is read from the same bytes twice shares nothing.
func TestMarksAreNewMemory(t *testing.T) {
	for _, f := range forms() {
		one, _ := stamp.Decode(block(f.s))
		for i := range one.Tags {
			one.Tags[i] = api.Tag{Block: -1}
		}
		for i := range one.Blocks {
			one.Blocks[i] = -1
		}
		if two, e := stamp.Decode(block(f.s)); e != api.OK || !like(two, f.m) {
			t.Errorf("%q: %+v, %d", f.s, two, e)
		}
	}
}
