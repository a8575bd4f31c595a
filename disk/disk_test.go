package disk_test

import (
	"math"
	"math/big"
	"reflect"
	"slices"
	"strconv"
	"strings"
	"testing"

	"wastebook/api"
	"wastebook/disk"
)

var edgePlaces = []int{0, 1, api.LogSize, api.Home, api.Total - 1}
var noPlaces = []int{-1, api.Total, api.Total + 1, math.MinInt, math.MaxInt}

// text is a block's text that tells where it comes from.
func text(parts ...int) string {
	var words []string
	for _, p := range parts {
		words = append(words, strconv.Itoa(p))
	}
	return disk.Fit(strings.Join(words, "/"))
}

// named is a disk on which no two places are alike.
func named() api.Disk {
	var d api.Disk
	for n := range api.Total {
		d.Safe = append(d.Safe, text(n, -1))
	}
	return d
}

func put(t *testing.T, d api.Disk, n int, s string) api.Disk {
	t.Helper()
	x, e := disk.Put(d, n, s)
	if e != api.OK {
		t.Fatalf("Put at %d: %d", n, e)
	}
	return x
}

// spread is a named disk with so many writes, to places that lie stride apart in the circle.
func spread(t *testing.T, writes, stride int) api.Disk {
	t.Helper()
	d := named()
	for i := range writes {
		n := i * stride % api.Total
		d = put(t, d, n, text(n, i))
	}
	return d
}

func clone(d api.Disk) api.Disk {
	return api.Disk{Safe: slices.Clone(d.Safe), Writes: slices.Clone(d.Writes)}
}

// badDisks are disks that are not good, each by one thing.
func badDisks() map[string]api.Disk {
	write := func(n int, s string) api.Disk {
		d := named()
		d.Writes = []api.Write{{At: 1, Text: text(1)}, {At: n, Text: s}}
		return d
	}
	safe := func(n int, s string) api.Disk {
		d := named()
		d.Safe[n] = s
		return d
	}
	fewer, more, many := named(), named(), named()
	fewer.Safe = fewer.Safe[:api.Total-1]
	more.Safe = append(more.Safe, text(api.Total))
	for range api.MaxWrite + 1 {
		many.Writes = append(many.Writes, api.Write{At: 2, Text: text(2)})
	}
	bad := map[string]api.Disk{
		"zero value":        {},
		"no texts":          {Safe: []string{}, Writes: []api.Write{}},
		"fewer texts":       fewer,
		"more texts":        more,
		"more writes":       many,
		"short first text":  safe(0, text(0)[1:]),
		"long first text":   safe(0, text(0)+"x"),
		"short last text":   safe(api.Total-1, ""),
		"long last text":    safe(api.Total-1, text(0)+text(0)),
		"short write":       write(3, text(3)[1:]),
		"empty write":       write(3, ""),
		"long write":        write(3, text(3)+"\x00"),
		"fewer, with write": {Safe: fewer.Safe, Writes: []api.Write{{At: api.Total - 1, Text: text(1)}}},
	}
	for _, n := range noPlaces {
		bad["write at "+strconv.Itoa(n)] = write(n, text(3))
	}
	return bad
}

func TestFit(t *testing.T) {
	long := strings.Repeat("0123456789", 7)
	for _, c := range []struct{ in, want string }{
		{"", strings.Repeat("\x00", 32)},
		{"ab", "ab" + strings.Repeat("\x00", 30)},
		{"a\x00b", "a\x00b" + strings.Repeat("\x00", 29)},
		{long[:31], long[:31] + "\x00"},
		{long[:32], long[:32]},
		{long[:33], long[:32]},
		{long, long[:32]},
		{long[:31] + "é", long[:31] + "\xc3"},
		{"\xff\xfe", "\xff\xfe" + strings.Repeat("\x00", 30)},
	} {
		if got := disk.Fit(c.in); got != c.want {
			t.Errorf("Fit(%q) = %q, want %q", c.in, got, c.want)
		}
	}
}

func TestNewIsNoughtsAllSafe(t *testing.T) {
	d := disk.New()
	if len(d.Safe) != 37 || len(d.Writes) != 0 {
		t.Fatalf("%d texts, %d writes", len(d.Safe), len(d.Writes))
	}
	for n, s := range d.Safe {
		if s != strings.Repeat("\x00", 32) {
			t.Errorf("place %d: %q", n, s)
		}
	}
	if !disk.Good(d) {
		t.Error("New is not good")
	}
	d.Safe[0] = text(1)
	if disk.New().Safe[0] != disk.Fit("") {
		t.Error("two new disks share their texts")
	}
}

func TestGood(t *testing.T) {
	good := map[string]api.Disk{
		"named":          named(),
		"no writes":      {Safe: named().Safe, Writes: []api.Write{}},
		"MaxWrite":       spread(t, api.MaxWrite, 1),
		"one place only": spread(t, api.MaxWrite, api.Total),
		"edges":          spread(t, 2, api.Total-1),
	}
	for name, d := range good {
		if !disk.Good(d) {
			t.Errorf("%s: not good", name)
		}
	}
	for name, d := range badDisks() {
		if disk.Good(d) {
			t.Errorf("%s: good", name)
		}
	}
}

// Whatever else is wrong, too, a disk that is not good is told first.
func TestBadDiskIsRefusedFirst(t *testing.T) {
	for name, d := range badDisks() {
		was := clone(d)
		for _, n := range append(slices.Clone(noPlaces), edgePlaces...) {
			if s, e := disk.Read(d, n); s != "" || e != api.ErrRange {
				t.Errorf("%s: Read at %d: %q, %d", name, n, s, e)
			}
			for _, s := range []string{text(9), "", text(9) + "x"} {
				x, e := disk.Put(d, n, s)
				wantRefused(t, name+": Put", was, x, e, api.ErrRange)
			}
			x, e := disk.Crash(d, n)
			wantRefused(t, name+": Crash", was, x, e, api.ErrRange)
		}
		x, e := disk.Flush(d)
		wantRefused(t, name+": Flush", was, x, e, api.ErrRange)
		if !reflect.DeepEqual(d, was) {
			t.Errorf("%s: what was handed in is changed", name)
		}
	}
}

func wantRefused(t *testing.T, what string, was, got api.Disk, e, want api.Errno) {
	t.Helper()
	if e != want {
		t.Errorf("%s: error %d, want %d", what, e, want)
	}
	if !reflect.DeepEqual(got, was) {
		t.Errorf("%s: the disk is not as it was", what)
	}
}

func TestReadIsTheLastWriteElseTheSafeText(t *testing.T) {
	d := named()
	for _, n := range edgePlaces {
		wantRead(t, d, n, text(n, -1))
		for i := range 3 {
			d = put(t, d, n, text(n, i))
			wantRead(t, d, n, text(n, i))
		}
	}
	for _, n := range edgePlaces {
		wantRead(t, d, n, text(n, 2))
	}
	wantRead(t, d, 2, text(2, -1))
	wantRead(t, d, api.Total-2, text(api.Total-2, -1))
	d = put(t, d, 1, text(1, 0))
	wantRead(t, d, 1, text(1, 0))
}

func wantRead(t *testing.T, d api.Disk, n int, want string) {
	t.Helper()
	if s, e := disk.Read(d, n); s != want || e != api.OK {
		t.Errorf("Read at %d: %q, %d; want %q", n, s, e, want)
	}
}

func TestReadOfNoPlace(t *testing.T) {
	d := spread(t, 5, 1)
	for _, n := range noPlaces {
		if s, e := disk.Read(d, n); s != "" || e != api.ErrRange {
			t.Errorf("Read at %d: %q, %d", n, s, e)
		}
	}
}

func TestPutIsOneWriteMoreTheLastOne(t *testing.T) {
	d, want := named(), []api.Write{}
	for i := range api.MaxWrite {
		n := edgePlaces[i%len(edgePlaces)]
		d = put(t, d, n, text(n, i))
		want = append(want, api.Write{At: n, Text: text(n, i)})
		if !slices.Equal(d.Writes, want) || !slices.Equal(d.Safe, named().Safe) {
			t.Fatalf("behind write %d: %v", i, d)
		}
	}
}

// A write that changes nothing is a write all the same.
func TestPutOfTheSameTextCounts(t *testing.T) {
	d := put(t, put(t, disk.New(), 4, disk.Fit("")), 4, disk.Fit(""))
	if len(d.Writes) != 2 {
		t.Errorf("%d writes", len(d.Writes))
	}
}

func TestPutErrorsInTheirOrder(t *testing.T) {
	some, full := spread(t, 5, 1), spread(t, api.MaxWrite, 7)
	wrong := []string{"", "x", text(1)[1:], text(1) + "\x00", text(1) + text(1)}
	for _, d := range []api.Disk{some, full} {
		was := clone(d)
		for _, s := range append(slices.Clone(wrong), text(1)) {
			for _, n := range noPlaces {
				x, e := disk.Put(d, n, s)
				wantRefused(t, "no place", was, x, e, api.ErrRange)
			}
		}
		for _, s := range wrong {
			x, e := disk.Put(d, 3, s)
			wantRefused(t, "wrong length", was, x, e, api.ErrForm)
		}
	}
	for _, n := range edgePlaces {
		x, e := disk.Put(full, n, text(1))
		wantRefused(t, "full", clone(full), x, e, api.ErrFull)
	}
	if x, e := disk.Put(spread(t, api.MaxWrite-1, 7), 3, text(1)); e != api.OK || len(x.Writes) != api.MaxWrite {
		t.Errorf("the last write that there is room for: %d", e)
	}
}

func TestFlushMakesAllSafeAsItIsRead(t *testing.T) {
	for _, d := range []api.Disk{
		disk.New(), named(), spread(t, 1, 1), spread(t, 2, api.Total-1), spread(t, 60, 5),
		spread(t, api.MaxWrite, 1), spread(t, api.MaxWrite, api.Total),
	} {
		x, e := disk.Flush(d)
		if e != api.OK || len(x.Safe) != api.Total || len(x.Writes) != 0 {
			t.Fatalf("%d, %d texts, %d writes", e, len(x.Safe), len(x.Writes))
		}
		for n := range api.Total {
			wantRead(t, d, n, x.Safe[n])
		}
	}
}

func TestFlushTakesTheLastOfSeveral(t *testing.T) {
	d := put(t, put(t, put(t, named(), 0, text(0, 8)), 36, text(36, 1)), 0, text(0, 7))
	want := named()
	want.Safe[0], want.Safe[36] = text(0, 7), text(36, 1)
	x, e := disk.Flush(d)
	if e != api.OK || !slices.Equal(x.Safe, want.Safe) || len(x.Writes) != 0 {
		t.Errorf("%d, %v", e, x)
	}
}

// Two writes of place 0 and one each of 5 and 36: the draw counts them off by 3, 2 and 2, the first place as the lowest.
func TestCrashByHand(t *testing.T) {
	d := named()
	for i, n := range []int{36, 0, 5, 0} {
		d = put(t, d, n, text(n, i))
	}
	a := []string{text(0, -1), text(0, 1), text(0, 3)}
	b := []string{text(5, -1), text(5, 2)}
	c := []string{text(36, -1), text(36, 0)}
	for draw, want := range [][3]int{
		{0, 0, 0}, {1, 0, 0}, {2, 0, 0}, {0, 1, 0}, {1, 1, 0}, {2, 1, 0},
		{0, 0, 1}, {1, 0, 1}, {2, 0, 1}, {0, 1, 1}, {1, 1, 1}, {2, 1, 1},
		{0, 0, 0}, {1, 0, 0},
	} {
		safe := named().Safe
		safe[0], safe[5], safe[36] = a[want[0]], b[want[1]], c[want[2]]
		x, e := disk.Crash(d, draw)
		if e != api.OK || len(x.Writes) != 0 || !slices.Equal(x.Safe, safe) {
			t.Errorf("draw %d: %d, %q, %q, %q", draw, e, x.Safe[0], x.Safe[5], x.Safe[36])
		}
	}
}

// Texts that are alike are ways of their own, or the places behind would be drawn otherwise.
func TestCrashCountsTextsThatAreAlike(t *testing.T) {
	a, b, nought := disk.Fit("a"), disk.Fit("b"), disk.Fit("")
	d := put(t, put(t, put(t, put(t, disk.New(), 2, a), 2, nought), 2, a), 3, b)
	for draw, want := range [][2]string{
		{nought, nought}, {a, nought}, {nought, nought}, {a, nought},
		{nought, b}, {a, b}, {nought, b}, {a, b}, {nought, nought},
	} {
		x, e := disk.Crash(d, draw)
		if e != api.OK || x.Safe[2] != want[0] || x.Safe[3] != want[1] {
			t.Errorf("draw %d: %q, %q", draw, x.Safe[2], x.Safe[3])
		}
	}
}

// ways is which of its texts each place has, put together to a draw again, and how many draws there are.
func ways(t *testing.T, d, x api.Disk) (drawn, all *big.Int) {
	t.Helper()
	drawn, all = new(big.Int), big.NewInt(1)
	for n := range api.Total {
		texts := []string{d.Safe[n]}
		for _, w := range d.Writes {
			if w.At == n {
				texts = append(texts, w.Text)
			}
		}
		i := slices.Index(texts, x.Safe[n])
		if i < 0 {
			t.Fatalf("place %d has %q, which it never had", n, x.Safe[n])
		}
		drawn.Add(drawn, new(big.Int).Mul(all, big.NewInt(int64(i))))
		all.Mul(all, big.NewInt(int64(len(texts))))
	}
	return drawn, all
}

func TestCrashIsTheDrawTakenApart(t *testing.T) {
	draws := []int{0, 1, 2, 5, 36, 37, 200, 201, 12345, 1 << 31, 1<<62 + 98765, math.MaxInt - 1, math.MaxInt}
	for _, d := range []api.Disk{
		named(), spread(t, 1, 1), spread(t, 2, api.Total-1), spread(t, 9, 4), spread(t, 40, 3), spread(t, api.Total, 1),
		spread(t, 100, 11), spread(t, api.MaxWrite, 1), spread(t, api.MaxWrite, api.Total),
	} {
		for _, draw := range draws {
			x, e := disk.Crash(d, draw)
			if e != api.OK || len(x.Safe) != api.Total || len(x.Writes) != 0 {
				t.Fatalf("draw %d: %d, %d texts, %d writes", draw, e, len(x.Safe), len(x.Writes))
			}
			drawn, all := ways(t, d, x)
			if want := new(big.Int).Mod(big.NewInt(int64(draw)), all); drawn.Cmp(want) != 0 {
				t.Errorf("%d writes, draw %d: taken apart as %v, want %v", len(d.Writes), draw, drawn, want)
			}
		}
	}
}

func TestCrashDrawZeroKeepsWhatIsSafe(t *testing.T) {
	d := spread(t, api.MaxWrite, 1)
	if x, e := disk.Crash(d, 0); e != api.OK || !slices.Equal(x.Safe, d.Safe) {
		t.Errorf("%d, %q", e, x.Safe)
	}
}

func TestCrashDrawBelowZero(t *testing.T) {
	for _, d := range []api.Disk{named(), spread(t, 5, 1), spread(t, api.MaxWrite, 1)} {
		for _, draw := range []int{-1, -2, math.MinInt} {
			was := clone(d)
			x, e := disk.Crash(d, draw)
			wantRefused(t, "draw below 0", was, x, e, api.ErrRange)
		}
	}
}

// What is handed in stays, its spare room too, and what is answered is not tied to it.
func TestWhatIsHandedInStays(t *testing.T) {
	calls := map[string]func(api.Disk) (api.Disk, api.Errno){
		"Put":   func(d api.Disk) (api.Disk, api.Errno) { return disk.Put(d, 3, text(99)) },
		"Flush": disk.Flush,
		"Crash": func(d api.Disk) (api.Disk, api.Errno) { return disk.Crash(d, math.MaxInt) },
	}
	for name, call := range calls {
		whole := spread(t, 50, 3)
		whole.Safe = append(whole.Safe, "spare", "room")
		was := clone(whole)
		in := api.Disk{Safe: whole.Safe[:api.Total], Writes: whole.Writes[:40]}
		x, e := call(in)
		if e != api.OK {
			t.Fatalf("%s: %d", name, e)
		}
		spoil(x)
		if !reflect.DeepEqual(whole, was) {
			t.Errorf("%s: what was handed in is changed", name)
		}
	}
}

func spoil(d api.Disk) {
	for i := range d.Safe {
		d.Safe[i] = "spoilt"
	}
	for i := range d.Writes {
		d.Writes[i] = api.Write{At: -1, Text: "spoilt"}
	}
}

// Two writes upon one and the same disk do not meet.
func TestPutTwiceUponOneDisk(t *testing.T) {
	d := spread(t, 3, 1)
	x, y := put(t, d, 8, text(8, 1)), put(t, d, 8, text(8, 2))
	wantRead(t, d, 8, text(8, -1))
	wantRead(t, x, 8, text(8, 1))
	wantRead(t, y, 8, text(8, 2))
}

func TestListsWithoutElementsMayBeNil(t *testing.T) {
	for _, writes := range [][]api.Write{nil, {}} {
		d := api.Disk{Safe: named().Safe, Writes: writes}
		wantRead(t, d, 36, text(36, -1))
		if x := put(t, d, 36, text(1)); len(x.Writes) != 1 {
			t.Errorf("Put: %d writes", len(x.Writes))
		}
		for _, call := range []func() (api.Disk, api.Errno){
			func() (api.Disk, api.Errno) { return disk.Flush(d) },
			func() (api.Disk, api.Errno) { return disk.Crash(d, 7) },
		} {
			if x, e := call(); e != api.OK || !slices.Equal(x.Safe, d.Safe) || len(x.Writes) != 0 {
				t.Errorf("%d, %v", e, x)
			}
		}
	}
}
