package safe_test

import (
	"math"
	"testing"

	"eiderdown/api"
	"eiderdown/image"
	"eiderdown/safe"
)

// pair is what the functions of the package are asked of.
type pair struct{ now, disk api.Image }

// empty is a pair of images without files.
func empty() *pair { return &pair{image.New(), image.New()} }

// both sets the same in now and in disk.
func (x *pair) both(set func(m *api.Image)) *pair {
	set(&x.now)
	set(&x.disk)
	return x
}

func (x *pair) inNow(set func(m *api.Image)) *pair {
	set(&x.now)
	return x
}

func (x *pair) inDisk(set func(m *api.Image)) *pair {
	set(&x.disk)
	return x
}

func file(n, stamp, links, p, q int) func(m *api.Image) {
	return func(m *api.Image) {
		m.Inode[n] = api.Inode{Live: true, Stamp: stamp, Links: links, Part: [api.Parts]int{p, q}}
	}
}

func entry(d, s int, name string, ino, stamp int) func(m *api.Image) {
	return func(m *api.Image) { m.Dir[d][s] = api.Entry{Name: name, Ino: ino, Stamp: stamp} }
}

func data(x, of int, text string) func(m *api.Image) {
	return func(m *api.Image) { m.Data[x] = api.Data{Of: of, Text: text} }
}

// unchanged fails if a call between changed what it was given.
func unchanged(t *testing.T, x *pair, call func()) {
	t.Helper()
	ahead := *x
	call()
	if *x != ahead {
		t.Errorf("was changed: %+v, is %+v", ahead, *x)
	}
}

func wantInode(t *testing.T, x *pair, n int, want api.Inode) {
	t.Helper()
	unchanged(t, x, func() {
		if got := safe.Inode(&x.now, &x.disk, n); got != want {
			t.Errorf("Inode(%d) is %+v, want %+v", n, got, want)
		}
	})
}

func wantEntry(t *testing.T, x *pair, d, s int, want api.Entry) {
	t.Helper()
	unchanged(t, x, func() {
		if got := safe.Entry(&x.now, &x.disk, d, s); got != want {
			t.Errorf("Entry(%d, %d) is %+v, want %+v", d, s, got, want)
		}
	})
}

func wantUnion(t *testing.T, x *pair, n, want int) {
	t.Helper()
	unchanged(t, x, func() {
		if got := safe.Union(&x.now, &x.disk, n); got != want {
			t.Errorf("Union(%d) is %d, want %d", n, got, want)
		}
	})
}

// wantWrite: is disk with the block written what it is with set?
func wantWrite(t *testing.T, x *pair, b int, set ...func(m *api.Image)) {
	t.Helper()
	want := x.disk
	for _, s := range set {
		s(&want)
	}
	unchanged(t, x, func() {
		if got, ok := safe.Write(&x.now, &x.disk, b); got != want || !ok {
			t.Errorf("Write(%d) is %+v, %v, want %+v", b, got, ok, want)
		}
	})
}

func TestUnion(t *testing.T) {
	x := empty()
	wantUnion(t, x, 0, 0)
	x.inNow(entry(0, 0, "a", 3, 5))
	wantUnion(t, x, 3, 1)
	wantUnion(t, x, 0, 0)
	x.inDisk(entry(2, 3, "b", 3, 5))
	wantUnion(t, x, 3, 2)
	x.inDisk(entry(0, 0, "a", 3, 5))
	wantUnion(t, x, 3, 2)
}

func TestUnionCountsSlotsNotEntries(t *testing.T) {
	x := empty().inNow(entry(1, 1, "a", 3, 5)).inDisk(entry(1, 1, "b", 3, 9))
	wantUnion(t, x, 3, 1)
	x.inDisk(entry(1, 1, "b", 4, 9))
	wantUnion(t, x, 3, 1)
	wantUnion(t, x, 4, 1)
	x.inNow(entry(1, 1, "", 3, 5))
	wantUnion(t, x, 3, 0)
	x.inDisk(entry(1, 1, "", 4, 9))
	wantUnion(t, x, 4, 0)
}

func TestUnionOfAllSlots(t *testing.T) {
	x := empty()
	for d := range api.Dirs {
		for s := range api.Slots {
			if (d+s)%2 == 0 {
				x.inNow(entry(d, s, "a", 7, 1))
			} else {
				x.inDisk(entry(d, s, "a", 7, 1))
			}
		}
	}
	wantUnion(t, x, 7, api.Dirs*api.Slots)
	wantUnion(t, x, 0, 0)
}

func TestUnionOfNumbersThatAreNone(t *testing.T) {
	for _, n := range []int{-1, api.Inodes, math.MaxInt, math.MinInt} {
		wantUnion(t, empty(), n, 0)
		wantUnion(t, empty().inNow(entry(0, 0, "a", n, 1)).inDisk(entry(0, 1, "A", n, 1)), n, 2)
	}
}

func TestBlock(t *testing.T) {
	for _, c := range []struct {
		b    int
		kind string
		n    int
	}{
		{0, "inodes", 0}, {1, "inodes", 4},
		{2, "dir", 0}, {3, "dir", 1}, {4, "dir", 2},
		{5, "data", 0}, {6, "data", 1}, {9, "data", 4}, {12, "data", 7}, {13, "data", 8},
		{14, "", 0}, {15, "", 0}, {-1, "", 0}, {-2, "", 0}, {math.MaxInt, "", 0}, {math.MinInt, "", 0},
	} {
		if kind, n := safe.Block(c.b); kind != c.kind || n != c.n {
			t.Errorf("Block(%d) is %q, %d, want %q, %d", c.b, kind, n, c.kind, c.n)
		}
	}
}

func TestInodeLiveInNeither(t *testing.T) {
	wantInode(t, empty(), 0, image.Free())
	wantInode(t, empty(), 7, image.Free())
	// Not even what lies in it, nor names that lead to it, make it other.
	rest := func(m *api.Image) { m.Inode[2] = api.Inode{Stamp: 4, Links: 1, Part: [api.Parts]int{1, 2}} }
	wantInode(t, empty().both(rest), 2, image.Free())
	wantInode(t, empty().both(rest).both(entry(0, 0, "a", 2, 4)), 2, image.Free())
}

func TestInodeLiveInDiskAlone(t *testing.T) {
	x := empty().inDisk(file(2, 5, 9, 3, -1))
	wantInode(t, x, 2, image.Free())
	x.inDisk(entry(1, 0, "a", 2, 5))
	wantInode(t, x, 2, api.Inode{Live: true, Stamp: 5, Links: 1, Part: [api.Parts]int{3, -1}})
	x.inDisk(entry(0, 3, "b", 2, 5))
	wantInode(t, x, 2, api.Inode{Live: true, Stamp: 5, Links: 2, Part: [api.Parts]int{3, -1}})
	// A name in now alone keeps it, too.
	x = empty().inDisk(file(2, 5, 9, -7, 99)).inNow(entry(1, 0, "a", 2, 6))
	wantInode(t, x, 2, api.Inode{Live: true, Stamp: 5, Links: 1, Part: [api.Parts]int{-7, 99}})
	// What lies in now of an inode that is not live there is not told.
	x.inNow(func(m *api.Image) { m.Inode[2] = api.Inode{Stamp: 8, Links: 8, Part: [api.Parts]int{8, 8}} })
	wantInode(t, x, 2, api.Inode{Live: true, Stamp: 5, Links: 1, Part: [api.Parts]int{-7, 99}})
}

func TestInodeLiveInNowAlone(t *testing.T) {
	x := empty().inNow(file(7, 5, 3, -1, -1))
	wantInode(t, x, 7, api.Inode{Live: true, Stamp: 5, Links: 0, Part: [api.Parts]int{-1, -1}})
	x.inNow(entry(0, 0, "a", 7, 5))
	wantInode(t, x, 7, api.Inode{Live: true, Stamp: 5, Links: 1, Part: [api.Parts]int{-1, -1}})
	x.inDisk(entry(0, 1, "a", 7, 5))
	wantInode(t, x, 7, api.Inode{Live: true, Stamp: 5, Links: 2, Part: [api.Parts]int{-1, -1}})
}

func TestInodeLiveInBoth(t *testing.T) {
	x := empty().inNow(file(0, 6, 1, -1, -1)).inDisk(file(0, 5, 4, 1, 2))
	wantInode(t, x, 0, api.Inode{Live: true, Stamp: 6, Links: 0, Part: [api.Parts]int{-1, -1}})
	x.inDisk(entry(2, 2, "a", 0, 5))
	wantInode(t, x, 0, api.Inode{Live: true, Stamp: 6, Links: 1, Part: [api.Parts]int{-1, -1}})
}

// TestPart: each way of a part, in each place.
func TestPart(t *testing.T) {
	own := data(3, 5, "x")
	other := data(3, 6, "x")
	for _, c := range []struct {
		why  string
		next int // the part in now, of the file 5
		set  []func(m *api.Image)
		want int
	}{
		{"none in now", -1, []func(m *api.Image){file(2, 5, 1, 4, 4)}, -1},
		{"below -1 in now", -2, []func(m *api.Image){file(2, 5, 1, 4, 4)}, -1},
		{"least in now", math.MinInt, []func(m *api.Image){file(2, 5, 1, 4, 4)}, -1},
		{"beyond all in now", api.Datas, []func(m *api.Image){file(2, 5, 1, 4, 4)}, -1},
		{"greatest in now", math.MaxInt, []func(m *api.Image){file(2, 5, 1, 4, 4)}, -1},
		{"its own there", 3, []func(m *api.Image){own}, 3},
		{"its own there, another one ahead", 3, []func(m *api.Image){own, file(2, 5, 1, 4, 4)}, 3},
		{"its own there, the inode another file's", 3, []func(m *api.Image){own, file(2, 6, 1, 4, 4)}, 3},
		{"not its own, no inode there", 3, []func(m *api.Image){other}, -1},
		{"not its own, the inode another file's", 3, []func(m *api.Image){other, file(2, 6, 1, 4, 4)}, -1},
		{"not its own, the same file's", 3, []func(m *api.Image){other, file(2, 5, 1, 4, 4)}, 4},
		{"of none, the same file's", 3, []func(m *api.Image){file(2, 5, 1, 8, 8)}, 8},
		{"of none, the same file's, none there", 3, []func(m *api.Image){file(2, 5, 1, -1, -1)}, -1},
		{"of none, the same file's, leads outside", 3, []func(m *api.Image){file(2, 5, 1, -9, -9)}, -9},
		{"of none, the same file's, leads beyond", 3, []func(m *api.Image){file(2, 5, 1, 99, 99)}, 99},
		{"of none, the same Stamp, not live there", 3, []func(m *api.Image){file(2, 5, 1, 4, 4), dead(2)}, -1},
		{"the first data, its own", 0, []func(m *api.Image){data(0, 5, "")}, 0},
		{"the first data, not its own", 0, []func(m *api.Image){data(0, 4, "")}, -1},
		{"the last data, its own", 8, []func(m *api.Image){data(8, 5, "")}, 8},
		{"the last data, not its own", 8, []func(m *api.Image){data(7, 5, "")}, -1},
	} {
		for p := range api.Parts {
			x := empty().inNow(file(2, 5, 1, -1, -1))
			x.now.Inode[2].Part[p] = c.next
			for _, set := range c.set {
				x.inDisk(set)
			}
			if got := safe.Inode(&x.now, &x.disk, 2).Part[p]; got != c.want {
				t.Errorf("%s: part %d is %d, want %d", c.why, p, got, c.want)
			}
		}
	}
}

func dead(n int) func(m *api.Image) {
	return func(m *api.Image) { m.Inode[n].Live = false }
}

// TestPartsApart: the parts of one inode are each by itself, and Of in now is
// not asked.
func TestPartsApart(t *testing.T) {
	x := empty().inNow(file(2, 5, 1, 3, 4)).inDisk(file(2, 5, 1, 6, 7)).inDisk(data(4, 5, "x")).inNow(data(3, 5, "y"))
	wantInode(t, x, 2, api.Inode{Live: true, Stamp: 5, Part: [api.Parts]int{6, 4}})
}

func TestEntryTheSame(t *testing.T) {
	wantEntry(t, empty(), 0, 0, api.Entry{})
	for _, e := range []api.Entry{
		{Name: "a", Ino: 2, Stamp: 5}, {Name: "A", Ino: -1, Stamp: -5}, {Name: "", Ino: 4, Stamp: 4}, {Name: "a", Ino: math.MaxInt},
	} {
		x := empty().both(func(m *api.Image) { m.Dir[2][3] = e })
		wantEntry(t, x, 2, 3, e)
		x.both(entry(0, 0, "b", e.Ino, e.Stamp)).both(file(4, 4, 9, -1, -1))
		wantEntry(t, x, 2, 3, e)
	}
}

func TestEntryThatComes(t *testing.T) {
	next := api.Entry{Name: "a", Ino: 2, Stamp: 5}
	for _, c := range []struct {
		why   string
		inode api.Inode // in disk
		refs  int       // entries in disk that lead to it
		comes bool
	}{
		{"not live", api.Inode{Stamp: 5, Links: 1}, 0, false},
		{"another file", api.Inode{Live: true, Stamp: 6, Links: 1}, 0, false},
		{"not counted", api.Inode{Live: true, Stamp: 5, Links: 0}, 0, false},
		{"less than not counted", api.Inode{Live: true, Stamp: 5, Links: -1}, 0, false},
		{"counted", api.Inode{Live: true, Stamp: 5, Links: 1}, 0, true},
		{"counted for another name", api.Inode{Live: true, Stamp: 5, Links: 1}, 1, false},
		{"counted for both", api.Inode{Live: true, Stamp: 5, Links: 2}, 1, true},
		{"counted for two others", api.Inode{Live: true, Stamp: 5, Links: 2}, 2, false},
		{"counted for more than there are", api.Inode{Live: true, Stamp: 5, Links: 9}, 2, true},
	} {
		x := empty().inNow(func(m *api.Image) { m.Dir[1][2] = next })
		x.disk.Inode[2] = c.inode
		for s := range c.refs {
			x.inDisk(entry(0, s, "b", 2, 5))
		}
		want := api.Entry{}
		if c.comes {
			want = next
		}
		t.Run(c.why, func(t *testing.T) { wantEntry(t, x, 1, 2, want) })
	}
}

// TestEntryThatComesHangsOnDisk: neither the inode in now nor the names there
// are asked.
func TestEntryThatComesHangsOnDisk(t *testing.T) {
	x := empty().inNow(entry(0, 0, "a", 2, 5)).inNow(entry(0, 1, "b", 2, 5)).inDisk(file(2, 5, 1, -1, -1))
	wantEntry(t, x, 0, 0, api.Entry{Name: "a", Ino: 2, Stamp: 5})
	wantEntry(t, x, 0, 1, api.Entry{Name: "b", Ino: 2, Stamp: 5})
	x = empty().inNow(entry(0, 0, "a", 2, 5)).inNow(file(2, 5, 1, -1, -1))
	wantEntry(t, x, 0, 0, api.Entry{})
}

func TestEntryThatComesWithoutName(t *testing.T) {
	x := empty().inDisk(entry(0, 0, "", 3, 3)).inDisk(file(0, 0, 1, -1, -1))
	wantEntry(t, x, 0, 0, api.Entry{})
	x.inDisk(file(0, 1, 1, -1, -1))
	wantEntry(t, x, 0, 0, api.Entry{Ino: 3, Stamp: 3})
}

func TestEntryThatLeadsOutside(t *testing.T) {
	for _, n := range []int{-1, -2, api.Inodes, math.MaxInt, math.MinInt} {
		wantEntry(t, empty().inNow(entry(0, 0, "a", n, 0)), 0, 0, api.Entry{})
		// In disk, it goes like any other.
		x := empty().inDisk(entry(0, 0, "a", n, 0))
		wantEntry(t, x, 0, 0, api.Entry{})
		x.inNow(entry(2, 0, "a", n, 0))
		wantEntry(t, x, 0, 0, x.disk.Dir[0][0])
		x.inDisk(entry(2, 1, "b", n, 0))
		wantEntry(t, x, 0, 0, api.Entry{})
	}
	for _, n := range []int{0, api.Inodes - 1} {
		x := empty().inNow(entry(0, 0, "a", n, 1)).inDisk(file(n, 1, 1, -1, -1))
		wantEntry(t, x, 0, 0, api.Entry{Name: "a", Ino: n, Stamp: 1})
	}
}

func TestEntryThatGoes(t *testing.T) {
	old := entry(1, 2, "a", 2, 5)
	elsewhere := entry(0, 3, "b", 2, 5)
	for _, c := range []struct {
		why  string
		x    *pair
		goes bool
	}{
		{"no name in now", empty(), true},
		{"its only name there, a name in now", empty().inNow(elsewhere), false},
		{"two names there, a name in now", empty().both(elsewhere), true},
		{"two names there, none in now", empty().inDisk(elsewhere), true},
		{"a name without a name in now", empty().inNow(entry(0, 3, "", 2, 5)), true},
		{"a second one without a name there", empty().inNow(elsewhere).inDisk(entry(0, 3, "", 2, 5)), false},
		{"another name of the same in its place", empty().inNow(entry(1, 2, "b", 2, 5)), false},
		{"the name with another Stamp in its place", empty().inNow(entry(1, 2, "a", 2, 6)), false},
		{"the name of another one in its place", empty().inNow(entry(1, 2, "a", 3, 5)), true},
		{"another file's name, that may come", empty().inNow(entry(1, 2, "c", 3, 7)).inDisk(file(3, 7, 1, -1, -1)), true},
		{"a name that is none, in its place", empty().inNow(entry(1, 2, "", 1, 1)), true},
	} {
		c.x.inDisk(old)
		want := api.Entry{}
		if !c.goes {
			want = c.x.disk.Dir[1][2]
		}
		t.Run(c.why, func(t *testing.T) { wantEntry(t, c.x, 1, 2, want) })
	}
}

func TestNumbersThatAreNone(t *testing.T) {
	x := empty().both(file(0, 1, 1, -1, -1)).inNow(entry(0, 0, "a", 0, 1)).both(file(7, 2, 1, -1, -1))
	for _, n := range []int{-1, 8, 9, math.MaxInt, math.MinInt} {
		wantInode(t, x, n, image.Free())
		wantEntry(t, x, n, 0, api.Entry{})
		wantEntry(t, x, 0, n, api.Entry{})
		wantEntry(t, x, n, n, api.Entry{})
	}
	wantEntry(t, x, api.Dirs, 0, api.Entry{})
	wantEntry(t, x, 0, api.Slots, api.Entry{})
}

func TestWriteInodes(t *testing.T) {
	x := empty()
	for n := range api.Inodes {
		x.inNow(file(n, n+1, 4, -1, n)).inNow(data(n, n+1, "x"))
	}
	x.inDisk(data(3, 4, "x")).inDisk(data(4, 5, "x"))
	wantWrite(t, x, 0, file(0, 1, 0, -1, -1), file(1, 2, 0, -1, -1), file(2, 3, 0, -1, -1), file(3, 4, 0, -1, 3))
	wantWrite(t, x, 1, file(4, 5, 0, -1, 4), file(5, 6, 0, -1, -1), file(6, 7, 0, -1, -1), file(7, 8, 0, -1, -1))
}

func TestWriteDir(t *testing.T) {
	x := empty()
	for d := range api.Dirs {
		for s := range api.Slots {
			x.inNow(entry(d, s, "a", d, 5+d))
		}
		x.inDisk(file(d, 5+d, 9, -1, -1))
	}
	for d := range api.Dirs {
		wantWrite(t, x, 2+d, func(m *api.Image) { m.Dir[d] = x.now.Dir[d] })
	}
}

// TestWriteDirSlotBySlot: what comes of a slot hangs on the slots ahead of it
// as they come, and not on those behind it.
func TestWriteDirSlotBySlot(t *testing.T) {
	none := func(s int) func(m *api.Image) { return entry(1, s, "", 0, 0) }
	t.Run("of two new names one is counted", func(t *testing.T) {
		x := empty().inNow(entry(1, 1, "a", 2, 5)).inNow(entry(1, 3, "b", 2, 5)).inDisk(file(2, 5, 1, -1, -1))
		wantWrite(t, x, 3, entry(1, 1, "a", 2, 5))
	})
	t.Run("of four new names three are counted", func(t *testing.T) {
		x := empty().inDisk(file(2, 5, 3, -1, -1))
		for s, name := range []string{"a", "b", "c", "d"} {
			x.inNow(entry(1, s, name, 2, 5))
		}
		wantWrite(t, x, 3, entry(1, 0, "a", 2, 5), entry(1, 1, "b", 2, 5), entry(1, 2, "c", 2, 5))
	})
	t.Run("of three old names the last one stays", func(t *testing.T) {
		x := empty().inNow(entry(0, 0, "d", 2, 5)).inDisk(file(2, 5, 3, -1, -1))
		x.inDisk(entry(1, 0, "a", 2, 5)).inDisk(entry(1, 1, "b", 2, 5)).inDisk(entry(1, 3, "c", 2, 5))
		wantWrite(t, x, 3, none(0), none(1))
	})
	t.Run("the new name ahead of the old one: both are done", func(t *testing.T) {
		x := empty().inNow(entry(1, 0, "b", 2, 5)).inDisk(entry(1, 1, "a", 2, 5)).inDisk(file(2, 5, 2, -1, -1))
		wantWrite(t, x, 3, entry(1, 0, "b", 2, 5), none(1))
	})
	t.Run("the new name behind the old one: that stays", func(t *testing.T) {
		x := empty().inNow(entry(1, 1, "b", 2, 5)).inDisk(entry(1, 0, "a", 2, 5)).inDisk(file(2, 5, 2, -1, -1))
		wantWrite(t, x, 3, entry(1, 1, "b", 2, 5))
	})
	t.Run("an old name that goes makes room in the count", func(t *testing.T) {
		x := empty().both(entry(0, 0, "c", 2, 5)).inDisk(file(2, 5, 2, -1, -1))
		x.inNow(entry(1, 2, "b", 2, 5)).inDisk(entry(1, 1, "a", 2, 5))
		wantWrite(t, x, 3, none(1), entry(1, 2, "b", 2, 5))
	})
	t.Run("in its own place it goes, and comes with the next one", func(t *testing.T) {
		x := empty().inNow(entry(1, 1, "b", 3, 6)).inDisk(entry(1, 1, "a", 2, 5)).inDisk(file(2, 5, 1, -1, -1)).inDisk(file(3, 6, 1, -1, -1))
		wantWrite(t, x, 3, none(1))
		x.disk, _ = safe.Write(&x.now, &x.disk, 3)
		wantWrite(t, x, 3, entry(1, 1, "b", 3, 6))
	})
}

func TestWriteData(t *testing.T) {
	x := empty()
	for k := range api.Datas {
		x.inNow(data(k, k+1, "now")).inDisk(data(k, -k, "disk"))
	}
	for k := range api.Datas {
		wantWrite(t, x, 5+k, data(k, k+1, "now"))
	}
}

func TestWriteOfNoBlock(t *testing.T) {
	x := empty().inNow(file(0, 1, 1, -1, -1)).inNow(entry(0, 0, "a", 0, 1)).inDisk(data(8, 3, "x"))
	for _, b := range []int{-1, api.Blocks, api.Blocks + 1, math.MaxInt, math.MinInt} {
		unchanged(t, x, func() {
			if got, ok := safe.Write(&x.now, &x.disk, b); ok || got != x.disk {
				t.Errorf("Write(%d) is %+v, %v", b, got, ok)
			}
		})
	}
}

// TestNewMemory: what is answered is no part of what was handed in, also where
// both images are one.
func TestNewMemory(t *testing.T) {
	m := image.New()
	data(0, 1, "x")(&m)
	ahead := m
	for b := -1; b <= api.Blocks; b++ {
		got, _ := safe.Write(&m, &m, b)
		if got != ahead {
			t.Errorf("Write(%d) of one image is %+v", b, got)
		}
		for k := range got.Data {
			got.Data[k].Of, got.Inode[k%api.Inodes].Stamp, got.Dir[k%api.Dirs][k%api.Slots].Name = 9, 9, "z"
		}
	}
	if m != ahead {
		t.Errorf("was changed: %+v", m)
	}
}
