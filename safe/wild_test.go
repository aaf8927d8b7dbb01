package safe_test

import (
	"math"
	"testing"

	"eiderdown/api"
	"eiderdown/image"
	"eiderdown/safe"
)

// dice tells numbers by a fixed rule, so that each run sees the same images.
type dice uint64

func (d *dice) below(n int) int {
	*d = *d*6364136223846793005 + 1442695040888963407
	return int(uint64(*d)>>33) % n
}

func (d *dice) number() int {
	near := []int{0, 1, 2, 3, 7, 8, 9, -1, -2, math.MaxInt, math.MinInt}
	return near[d.below(len(near))]
}

func (d *dice) name() string {
	names := []string{"", "a", "b", "abcdef", "abcdefg", "A", "\x00"}
	return names[d.below(len(names))]
}

// near is small: numbers that meet each other are the ones that matter.
func (d *dice) near() int {
	if d.below(8) == 0 {
		return d.number()
	}
	return d.below(3)
}

// wild is an image of any kind; most of them may not be mended.
func (d *dice) wild() api.Image {
	m := image.New()
	for k := range m.Dir {
		for s := range m.Dir[k] {
			if d.below(3) > 0 {
				m.Dir[k][s] = api.Entry{Name: d.name(), Ino: d.near(), Stamp: d.near()}
			}
		}
	}
	for n := range m.Inode {
		if d.below(3) > 0 {
			m.Inode[n] = api.Inode{Live: d.below(4) > 0, Stamp: d.near(), Links: d.near() + d.below(4), Part: [api.Parts]int{d.near(), d.near()}}
		}
	}
	for k := range m.Data {
		m.Data[k] = api.Data{Of: d.near(), Text: d.name()}
	}
	return m
}

// wildPair is two images that have some in common.
func (d *dice) wildPair() *pair {
	x := &pair{d.wild(), d.wild()}
	for k := range api.Dirs * api.Slots {
		if d.below(3) == 0 {
			x.disk.Dir[k/api.Slots][k%api.Slots] = x.now.Dir[k/api.Slots][k%api.Slots]
		}
	}
	return x
}

// to are the slots of an image whose names lead to an inode.
func to(m *api.Image, ino int) map[[2]int]int {
	slots := map[[2]int]int{}
	for d, dir := range m.Dir {
		for s, e := range dir {
			if len(e.Name) > 0 && e.Ino == ino {
				slots[[2]int{d, s}]++
			}
		}
	}
	return slots
}

// plainInode is point 1, told a second time.
func plainInode(x *pair, n int) api.Inode {
	slots := to(&x.now, n)
	for at := range to(&x.disk, n) {
		slots[at]++
	}
	next, old := x.now.Inode[n], x.disk.Inode[n]
	want := api.Inode{Part: [api.Parts]int{-1, -1}}
	if !next.Live && old.Live && len(slots) > 0 {
		want = api.Inode{Live: true, Stamp: old.Stamp, Links: len(slots), Part: old.Part}
	}
	if next.Live {
		want.Live, want.Stamp, want.Links = true, next.Stamp, len(slots)
		for p := range want.Part {
			for k, y := range x.disk.Data {
				if k != next.Part[p] {
					continue
				}
				if old.Live && old.Stamp == next.Stamp {
					want.Part[p] = old.Part[p]
				}
				if y.Of == next.Stamp {
					want.Part[p] = k
				}
			}
		}
	}
	return want
}

// plainEntry is point 2, told a second time.
func plainEntry(x *pair, d, s int) api.Entry {
	next, old := x.now.Dir[d][s], x.disk.Dir[d][s]
	if next == old {
		return next
	}
	if len(old.Name) > 0 {
		if len(to(&x.disk, old.Ino)) <= 1 && len(to(&x.now, old.Ino)) >= 1 {
			return old
		}
		return api.Entry{}
	}
	for n, i := range x.disk.Inode {
		if n == next.Ino && i.Live && i.Stamp == next.Stamp && len(to(&x.disk, n)) < i.Links {
			return next
		}
	}
	return old
}

// plainWrite is point 3, told a second time.
func plainWrite(x *pair, b int) (api.Image, bool) {
	y := *x
	switch {
	case b == 0 || b == 1:
		for n := 4 * b; n <= 4*b+3; n++ {
			y.disk.Inode[n] = plainInode(x, n)
		}
	case b >= 2 && b <= 4:
		for s := range api.Slots {
			y.disk.Dir[b-2][s] = plainEntry(&y, b-2, s)
		}
	case b >= 5 && b <= 13:
		y.disk.Data[b-5] = x.now.Data[b-5]
	default:
		return y.disk, false
	}
	return y.disk, true
}

// TestWildPairs: what is answered of any two images is what the points say,
// none panics, and neither image is changed.
func TestWildPairs(t *testing.T) {
	d := dice(3)
	mended := 0
	for range 6000 {
		x := d.wildPair()
		ahead := *x
		if image.Check(&x.disk) == 0 {
			mended++
		}
		for n := range api.Inodes {
			if got, want := safe.Inode(&x.now, &x.disk, n), plainInode(x, n); got != want {
				t.Fatalf("Inode(%d) is %+v, want %+v: %+v", n, got, want, x)
			}
		}
		for k := range api.Dirs * api.Slots {
			at, s := k/api.Slots, k%api.Slots
			if got, want := safe.Entry(&x.now, &x.disk, at, s), plainEntry(x, at, s); got != want {
				t.Fatalf("Entry(%d, %d) is %+v, want %+v: %+v", at, s, got, want, x)
			}
		}
		for b := -1; b <= api.Blocks; b++ {
			got, ok := safe.Write(&x.now, &x.disk, b)
			if want, is := plainWrite(x, b); got != want || ok != is {
				t.Fatalf("Write(%d) is %+v, %v, want %+v, %v: %+v", b, got, ok, want, is, x)
			}
			if again, so := safe.Write(&x.now, &x.disk, b); again != got || so != ok {
				t.Fatalf("Write(%d), asked again, answers otherwise: %+v", b, x)
			}
		}
		if *x != ahead {
			t.Fatalf("was changed: %+v, is %+v", ahead, *x)
		}
	}
	if mended > 600 {
		t.Errorf("%d images may be mended: they are not wild enough", mended)
	}
}

func TestWildUnions(t *testing.T) {
	d := dice(4)
	for range 3000 {
		x := d.wildPair()
		for _, n := range []int{-2, -1, 0, 1, 2, 7, 8, 9, math.MaxInt, math.MinInt} {
			slots := to(&x.now, n)
			for at := range to(&x.disk, n) {
				slots[at]++
			}
			if got := safe.Union(&x.now, &x.disk, n); got != len(slots) {
				t.Fatalf("Union(%d) is %d, want %d: %+v", n, got, len(slots), x)
			}
		}
	}
}
