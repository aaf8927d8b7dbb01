package cache_test

import (
	"math"
	"testing"

	"eiderdown/api"
	"eiderdown/cache"
	"eiderdown/image"
)

func wantInode(t *testing.T, c *cache.Cache, want int) {
	t.Helper()
	unchanged(t, c, func() {
		if got := c.Inode(); got != want {
			t.Errorf("Inode is %d, want %d", got, want)
		}
	})
}

func wantSlot(t *testing.T, c *cache.Cache, d, want int) {
	t.Helper()
	unchanged(t, c, func() {
		if got := c.Slot(d); got != want {
			t.Errorf("Slot(%d) is %d, want %d", d, got, want)
		}
	})
}

func wantData(t *testing.T, c *cache.Cache, want int) {
	t.Helper()
	unchanged(t, c, func() {
		if got := c.Data(); got != want {
			t.Errorf("Data is %d, want %d", got, want)
		}
	})
}

// wantFree: which are the first inode, slots and data that are free?
func wantFree(t *testing.T, c *cache.Cache, inode int, slots [api.Dirs]int, data int) {
	t.Helper()
	wantInode(t, c, inode)
	for d, s := range slots {
		wantSlot(t, c, d, s)
	}
	wantData(t, c, data)
}

// live has these inodes live, without names or parts.
func live(inodes ...int) api.Image {
	m := image.New()
	for _, n := range inodes {
		file(n, n+1, 1, -1, -1)(&m)
	}
	return m
}

// named has a file with a name in as many slots as are told, beginning with
// the last directory's last one.
func named(inodes ...int) api.Image {
	m := live(inodes...)
	for k, n := range inodes {
		entry(api.Dirs-1-k/api.Slots, api.Slots-1-k%api.Slots, "a"+string(rune('a'+k)), n, n+1)(&m)
	}
	return m
}

func TestInodeInNow(t *testing.T) {
	wantInode(t, on(t, image.New(), live(1, 2, 7)), 0)
	wantInode(t, on(t, image.New(), live(0)), 1)
	wantInode(t, on(t, image.New(), live(0, 1, 3)), 2)
	wantInode(t, on(t, image.New(), live(0, 1, 2, 3, 4, 5, 6)), 7)
	wantInode(t, on(t, image.New(), live(0, 1, 2, 3, 4, 5, 6, 7)), -1)
}

// TestInodeOnTheDisk: there it is names that count, not what is live.
func TestInodeOnTheDisk(t *testing.T) {
	wantInode(t, on(t, named(1, 2, 7), image.New()), 0)
	wantInode(t, on(t, named(0), image.New()), 1)
	wantInode(t, on(t, named(0, 1, 2, 4), image.New()), 3)
	wantInode(t, on(t, named(0, 1, 2, 3, 4, 5, 6), image.New()), 7)
	wantInode(t, on(t, named(0, 1, 2, 3, 4, 5, 6, 7), image.New()), -1)
	wantInode(t, on(t, live(0, 1, 2, 3, 4, 5, 6, 7), image.New()), 0)
}

// TestInodeInBoth: some are not free in Now alone, some not on the disk alone.
func TestInodeInBoth(t *testing.T) {
	wantInode(t, on(t, named(0, 2), live(1, 3)), 4)
	wantInode(t, on(t, named(0, 2, 4, 6), live(1, 3, 5, 7)), -1)
	wantInode(t, on(t, named(0, 1), live(0, 1)), 2)
	wantInode(t, on(t, one(), one()), 0)
}

// TestInodeWhatDoesNotCount: names in Now, and what else lies in an inode
// that is not live, keep none.
func TestInodeWhatDoesNotCount(t *testing.T) {
	c := on(t, image.New(), with(entry(0, 0, "a", 0, 1), func(m *api.Image) { m.Inode[0].Stamp, m.Inode[0].Links = 1, 1 }))
	wantInode(t, c, 0)
	// A live inode without a stamp is live all the same.
	c.Now.Inode[0] = api.Inode{Live: true}
	wantInode(t, c, 1)
}

// TestInodeLeftBySlotWithoutName: an entry without a name, which a Now of the
// caller's brought to the disk, leads nowhere.
func TestInodeLeftBySlotWithoutName(t *testing.T) {
	c := on(t, with(file(0, 1, 1, -1, -1)), with(file(0, 1, 1, -1, -1), entry(0, 0, "", 0, 1)))
	c.Write(2)
	if want := (api.Entry{Ino: 0, Stamp: 1}); c.Disk().Dir[0][0] != want {
		t.Fatalf("the slot is %+v, want %+v", c.Disk().Dir[0][0], want)
	}
	c.Now = image.New()
	wantInode(t, c, 0)
	wantSlot(t, c, 0, 0)
}

// TestInodeWhileANameGoes: it is free when the name is gone from the disk,
// whether or not the inode itself is.
func TestInodeWhileANameGoes(t *testing.T) {
	c := on(t, named(0), image.New())
	wantInode(t, c, 1)
	c.Write(0)
	wantInode(t, c, 1)
	c.Write(4)
	if !c.Disk().Inode[0].Live {
		t.Fatalf("the inode is gone ahead of its Write")
	}
	wantInode(t, c, 0)
	c.Write(0)
	wantInode(t, c, 0)
}

// slots has a name in these slots of a directory, of the file 0.
func slots(d int, which ...int) api.Image {
	m := with(file(0, 1, len(which), -1, -1))
	for _, s := range which {
		entry(d, s, string(rune('a'+s)), 0, 1)(&m)
	}
	return m
}

func TestSlot(t *testing.T) {
	for _, x := range []struct {
		disk, now []int
		want      int
	}{
		{nil, nil, 0},
		{nil, []int{1, 2, 3}, 0}, {[]int{1, 2, 3}, nil, 0},
		{nil, []int{0}, 1}, {[]int{0}, nil, 1}, {[]int{0}, []int{0}, 1},
		{[]int{0}, []int{1}, 2}, {[]int{1}, []int{0}, 2}, {[]int{0, 3}, []int{1}, 2},
		{[]int{0, 2}, []int{1, 2}, 3},
		{nil, []int{0, 1, 2}, 3}, {[]int{0, 1, 2}, nil, 3},
		{nil, []int{0, 1, 2, 3}, -1}, {[]int{0, 1, 2, 3}, nil, -1},
		{[]int{0, 2}, []int{1, 3}, -1}, {[]int{0, 1, 2}, []int{3}, -1},
		{[]int{0, 1, 2, 3}, []int{0, 1, 2, 3}, -1},
	} {
		for d := range api.Dirs {
			c := on(t, slots(d, x.disk...), slots(d, x.now...))
			for e := range api.Dirs {
				if e == d {
					wantSlot(t, c, e, x.want)
				} else {
					wantSlot(t, c, e, 0)
				}
			}
		}
	}
}

// TestSlotWhatDoesNotCount: without a name it is free, whatever else lies
// there; with one it is not, even if that is no right one.
func TestSlotWhatDoesNotCount(t *testing.T) {
	c := cache.New()
	c.Now.Dir[1][0] = api.Entry{Ino: 3, Stamp: 4}
	wantSlot(t, c, 1, 0)
	c.Now.Dir[1][0] = api.Entry{Name: "\x00"}
	wantSlot(t, c, 1, 1)
	c.Now.Dir[1][1] = api.Entry{Name: "too long a name", Ino: -1}
	wantSlot(t, c, 1, 2)
}

func TestSlotOfNoDirectory(t *testing.T) {
	full := cache.New()
	spoil(&full.Now)
	for _, c := range []*cache.Cache{cache.New(), cache.Of(one()), full} {
		for _, d := range append(far(), api.Dirs, api.Dirs+1, -api.Dirs) {
			wantSlot(t, c, d, -1)
		}
	}
}

// TestSlotWhileANameGoes: it is free when the disk has not that name any more.
func TestSlotWhileANameGoes(t *testing.T) {
	c := on(t, slots(1, 0), image.New())
	wantSlot(t, c, 1, 1)
	c.Write(2)
	wantSlot(t, c, 1, 1)
	c.Write(3)
	wantSlot(t, c, 1, 0)
}

// held has these data held, by the inodes from the last one on.
func held(datas ...int) api.Image {
	m := image.New()
	for k, x := range datas {
		n := api.Inodes - 1 - k/api.Parts
		if k%api.Parts == 0 {
			file(n, n+1, 0, -1, -1)(&m)
		}
		m.Inode[n].Part[api.Parts-1-k%api.Parts] = x
		m.Data[x].Of = n + 1
	}
	return m
}

func TestData(t *testing.T) {
	all := []int{0, 1, 2, 3, 4, 5, 6, 7, 8}
	for _, x := range []struct {
		disk, now []int
		want      int
	}{
		{nil, nil, 0},
		{nil, all[1:], 0}, {all[1:], nil, 0},
		{nil, []int{0}, 1}, {[]int{0}, nil, 1}, {[]int{0}, []int{0}, 1},
		{[]int{0, 2, 5}, []int{1, 3}, 4}, {[]int{1, 3}, []int{0, 2, 5}, 4},
		{nil, all[:8], 8}, {all[:8], nil, 8}, {all[:5], all[5:8], 8},
		{nil, all, -1}, {all, nil, -1}, {all[:5], all[5:], -1}, {all[5:], all[:5], -1}, {all, all, -1},
	} {
		wantData(t, on(t, held(x.disk...), held(x.now...)), x.want)
	}
}

// TestDataWhatDoesNotCount: what lies in a data keeps it not, nor do the
// parts of an inode that is not live, nor those that lead to none.
func TestDataWhatDoesNotCount(t *testing.T) {
	m := with(data(0, 5, "left"))
	wantData(t, on(t, m, m), 0)
	c := cache.New()
	c.Now.Inode[0] = api.Inode{Stamp: 1, Part: [api.Parts]int{0, 1}}
	wantData(t, c, 0)
	c.Now.Inode[0] = api.Inode{Live: true, Part: [api.Parts]int{math.MinInt, api.Datas}}
	wantData(t, c, 0)
	// Parts 0 of an inode that is live hold the data 0, whosever that is.
	c.Now.Inode[0].Part = [api.Parts]int{}
	wantData(t, c, 1)
}

// TestDataWhileAPartGoes: it is free when no inode on the disk holds it.
func TestDataWhileAPartGoes(t *testing.T) {
	c := on(t, with(file(0, 1, 0, 0, -1), data(0, 1, "x")), with(file(0, 1, 0, -1, -1)))
	wantData(t, c, 1)
	c.Write(5)
	wantData(t, c, 1)
	c.Write(0)
	wantData(t, c, 0)
}
