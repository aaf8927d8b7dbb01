package cache_test

import (
	"math"
	"testing"

	"eiderdown/api"
	"eiderdown/cache"
	"eiderdown/image"
	"eiderdown/safe"
)

// dice tells numbers by a fixed rule, so that each run sees the same images.
type dice uint64

func (d *dice) below(n int) int {
	*d = *d*6364136223846793005 + 1442695040888963407
	return int(uint64(*d)>>33) % n
}

// near is small: numbers that meet each other are the ones that matter.
func (d *dice) near() int {
	if d.below(8) == 0 {
		far := []int{7, 8, 9, -1, -2, math.MaxInt, math.MinInt}
		return far[d.below(len(far))]
	}
	return d.below(4)
}

func (d *dice) name() string {
	names := []string{"", "a", "b", "abcdef", "abcdefg", "A", "\x00"}
	return names[d.below(len(names))]
}

// change sets something of an image to something near; most of what comes of
// it may not be mended.
func (d *dice) change(m *api.Image) {
	switch d.below(4) {
	case 0:
		m.Inode[d.below(api.Inodes)] = api.Inode{Live: d.below(4) > 0, Stamp: d.near(), Links: d.near(), Part: [api.Parts]int{d.near(), d.near()}}
	case 1:
		m.Dir[d.below(api.Dirs)][d.below(api.Slots)] = api.Entry{Name: d.name(), Ino: d.near(), Stamp: d.near()}
	case 2:
		m.Data[d.below(api.Datas)] = api.Data{Of: d.near(), Text: d.name()}
	case 3:
		d.makeFile(m)
	}
}

// makeFile sets a file with a name and a part that agree, so that some of
// what is set comes to the disk.
func (d *dice) makeFile(m *api.Image) {
	n, x, at := d.below(api.Inodes), d.below(api.Datas), d.below(api.Dirs*api.Slots)
	stamp := 1 + d.below(4)
	m.Inode[n] = api.Inode{Live: true, Stamp: stamp, Links: 1, Part: [api.Parts]int{x, -1}}
	m.Dir[at/api.Slots][at%api.Slots] = api.Entry{Name: "a", Ino: n, Stamp: stamp}
	m.Data[x] = api.Data{Of: stamp, Text: "x"}
}

// plain is a cache, told a second time.
type plain struct{ now, disk api.Image }

func (x *plain) write(b int) bool {
	if b < 0 || b > 13 {
		return false
	}
	x.disk, _ = safe.Write(&x.now, &x.disk, b)
	return true
}

// dirty compares by the places of the blocks, written out.
func (x *plain) dirty(b int) bool {
	m := x.disk
	switch b {
	case 0, 1:
		copy(m.Inode[4*b:4*b+4], x.now.Inode[4*b:])
	case 2, 3, 4:
		m.Dir[b-2] = x.now.Dir[b-2]
	case 5, 6, 7, 8, 9, 10, 11, 12, 13:
		m.Data[b-5] = x.now.Data[b-5]
	}
	return m != x.disk
}

func (x *plain) clean() bool {
	for b := range 14 {
		if x.dirty(b) {
			return false
		}
	}
	return true
}

func (x *plain) sync() int {
	for k := range 8 {
		if x.clean() {
			return k
		}
		for b := range 14 {
			x.write(13 - b)
		}
	}
	return 8
}

func (x *plain) inode() int {
	var taken [api.Inodes]bool
	for n, i := range x.now.Inode {
		taken[n] = i.Live
	}
	for _, dir := range x.disk.Dir {
		for _, e := range dir {
			if len(e.Name) > 0 && e.Ino >= 0 && e.Ino < api.Inodes {
				taken[e.Ino] = true
			}
		}
	}
	return firstOpen(taken[:])
}

func (x *plain) slot(d int) int {
	for k := range api.Dirs {
		if k != d {
			continue
		}
		var taken [api.Slots]bool
		for s := range taken {
			taken[s] = x.now.Dir[k][s].Name+x.disk.Dir[k][s].Name != ""
		}
		return firstOpen(taken[:])
	}
	return -1
}

func (x *plain) data() int {
	var taken [api.Datas]bool
	for _, m := range []*api.Image{&x.now, &x.disk} {
		for _, i := range m.Inode {
			for _, p := range i.Part {
				if i.Live && p >= 0 && p < api.Datas {
					taken[p] = true
				}
			}
		}
	}
	return firstOpen(taken[:])
}

func firstOpen(taken []bool) int {
	for k, is := range taken {
		if !is {
			return k
		}
	}
	return -1
}

// wantLike: do both answer the same, and have both the same?
func wantLike(t *testing.T, c *cache.Cache, x *plain, d *dice) {
	t.Helper()
	wantBoth(t, c, x.now, x.disk)
	for b := -2; b < api.Blocks+2; b++ {
		if got, want := c.Dirty(b), x.dirty(b); got != want {
			t.Errorf("Dirty(%d) is %v, want %v", b, got, want)
		}
	}
	if got, want := c.Clean(), x.clean(); got != want {
		t.Errorf("Clean is %v, want %v", got, want)
	}
	wantInode(t, c, x.inode())
	wantData(t, c, x.data())
	for _, k := range []int{-1, 0, 1, 2, api.Dirs, d.near()} {
		wantSlot(t, c, k, x.slot(k))
	}
	if t.Failed() {
		t.Fatalf("now %+v, disk %+v", x.now, x.disk)
	}
}

// TestWild: whatever Now is set to, whichever blocks are written, a cache
// answers as the plain one, none of its calls panics, and all of them end.
func TestWild(t *testing.T) {
	d := dice(4)
	var often [9]int
	for range 300 {
		m := image.New()
		for range d.below(3) {
			next := m
			d.makeFile(&next)
			if image.Check(&next) == 0 {
				m = next
			}
		}
		c, x := cache.Of(m), &plain{m, m}
		for range 60 {
			switch d.below(6) {
			case 0, 1, 2:
				d.change(&x.now)
				c.Now = x.now
			case 3, 4:
				b := d.below(api.Blocks+4) - 2
				if got, want := c.Write(b), x.write(b); got != want {
					t.Errorf("Write(%d) is %v, want %v", b, got, want)
				}
			case 5:
				if d.below(3) == 0 {
					x.now = x.disk
					c.Now = x.now
				}
				got, want := c.Sync(), x.sync()
				if got != want {
					t.Errorf("Sync is %d, want %d", got, want)
				}
				often[want]++
			}
			wantLike(t, c, x, &d)
		}
	}
	if often[0] == 0 || often[1] == 0 || often[2] == 0 || often[8] == 0 {
		t.Errorf("so often Sync wrote 0 to 8 times: %v", often)
	}
}

// TestWildOf: there is a cache of what may be mended, of nothing else.
func TestWildOf(t *testing.T) {
	d := dice(9)
	are, none := 0, 0
	for range 5000 {
		m := image.New()
		for range d.below(4) {
			d.change(&m)
		}
		c := cache.Of(m)
		if image.Check(&m) != 0 {
			none++
			if c != nil {
				t.Fatalf("there is a cache of %+v", m)
			}
			continue
		}
		are++
		if c == nil {
			t.Fatalf("there is no cache of %+v", m)
		}
		wantBoth(t, c, m, m)
	}
	if are < 100 || none < 100 {
		t.Errorf("%d alone may be mended, %d may not", are, none)
	}
}
