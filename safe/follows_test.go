package safe_test

import (
	"testing"

	"eiderdown/api"
	"eiderdown/image"
	"eiderdown/safe"
)

// files take the steps of layer 5 in now, so that disk is written of images
// that came of it as that layer lets them.
type files struct {
	pair
	stamp int
}

// on are files that begin with what lies on a disk.
func on(m api.Image) *files {
	f := &files{pair: pair{m, m}}
	for _, i := range m.Inode {
		f.stamp = max(f.stamp, i.Stamp)
	}
	return f
}

// firstOf is the first number below n of which it is so; -1: none.
func firstOf(n int, so func(k int) bool) int {
	for k := range n {
		if so(k) {
			return k
		}
	}
	return -1
}

func (f *files) freeInode() int {
	return firstOf(api.Inodes, func(k int) bool { return !f.now.Inode[k].Live && image.Refs(&f.disk, k) == 0 })
}

func (f *files) freeSlot(d int) int {
	return firstOf(api.Slots, func(k int) bool { return f.now.Dir[d][k].Name == "" && f.disk.Dir[d][k].Name == "" })
}

func (f *files) freeData() int {
	return firstOf(api.Datas, func(k int) bool { return !image.Holds(&f.now, k) && !image.Holds(&f.disk, k) })
}

// room is the slot for a new name; -1: it is there, or there is none.
func (f *files) room(d int, name string) int {
	if image.Find(&f.now, d, name) >= 0 || image.Find(&f.disk, d, name) >= 0 {
		return -1
	}
	return f.freeSlot(d)
}

func (f *files) name(d, s, ino int, name string) {
	f.now.Dir[d][s] = api.Entry{Name: name, Ino: ino, Stamp: f.now.Inode[ino].Stamp}
	f.now.Inode[ino].Links++
}

func (f *files) make(d int, name string) {
	n, s := f.freeInode(), f.room(d, name)
	if n < 0 || s < 0 {
		return
	}
	f.stamp++
	f.now.Inode[n] = api.Inode{Live: true, Stamp: f.stamp, Part: [api.Parts]int{-1, -1}}
	f.name(d, s, n, name)
}

// link names the file of a slot again; false: there is no file, or no room.
func (f *files) link(d, s, e int, name string) bool {
	at := f.room(e, name)
	if f.now.Dir[d][s].Name == "" || at < 0 {
		return false
	}
	f.name(e, at, f.now.Dir[d][s].Ino, name)
	return true
}

func (f *files) unlink(d, s int) {
	if f.now.Dir[d][s].Name == "" {
		return
	}
	n := f.now.Dir[d][s].Ino
	f.now.Dir[d][s] = api.Entry{}
	f.now.Inode[n].Links--
	if image.Refs(&f.now, n) == 0 {
		f.now.Inode[n] = image.Free()
	}
}

func (f *files) put(d, s, p int, text string) {
	e := f.now.Dir[d][s]
	if e.Name == "" {
		return
	}
	x := f.now.Inode[e.Ino].Part[p]
	if x < 0 {
		x = f.freeData()
	}
	if x >= 0 {
		f.now.Inode[e.Ino].Part[p] = x
		f.now.Data[x] = api.Data{Of: e.Stamp, Text: text}
	}
}

func (f *files) cut(d, s, p int) {
	if e := f.now.Dir[d][s]; e.Name != "" {
		f.now.Inode[e.Ino].Part[p] = -1
	}
}

// step takes a step of any kind.
func (f *files) step(dice *dice) {
	d, s, e, p := dice.below(api.Dirs), dice.below(api.Slots), dice.below(api.Dirs), dice.below(api.Parts)
	name := []string{"a", "b", "c", "d", "e"}[dice.below(5)]
	switch dice.below(7) {
	case 0, 1:
		f.make(d, name)
	case 2:
		f.link(d, s, e, name)
	case 3:
		f.unlink(d, s)
	case 4:
		if f.link(d, s, e, name) {
			f.unlink(d, s)
		}
	case 5:
		f.put(d, s, p, name)
	case 6:
		f.cut(d, s, p)
	}
}

// wantMended: may disk be mended, and behind a Write of each block?
func wantMended(t *testing.T, f *files) {
	t.Helper()
	if code := image.Check(&f.disk); code != 0 {
		t.Fatalf("disk has the code %d: %+v", code, f.disk)
	}
	for b := range api.Blocks {
		m, _ := safe.Write(&f.now, &f.disk, b)
		if code := image.Check(&m); code != 0 {
			t.Fatalf("behind Write(%d) it has the code %d: now %+v, disk %+v", b, code, f.now, f.disk)
		}
	}
}

// TestWhatFollows: whatever steps are taken, whichever blocks are written and
// wherever it is torn (then now is what lies there, mended or not), disk may
// be mended, and behind each Write.
func TestWhatFollows(t *testing.T) {
	dice := dice(5)
	wrote, torn := 0, 0
	for run := range 300 {
		f := on(image.New())
		// Some runs write rarely, so that much is to be written at once.
		rare := 1 + run%6
		for range 150 {
			f.step(&dice)
			if dice.below(rare) == 0 {
				ahead := f.disk
				f.disk, _ = safe.Write(&f.now, &f.disk, dice.below(api.Blocks))
				if f.disk != ahead {
					wrote++
				}
			}
			wantMended(t, f)
			if dice.below(40) == 0 {
				f = on(f.disk)
				torn++
			}
		}
	}
	if wrote < 1000 || torn < 200 {
		t.Errorf("%d writes alone had something to write, and it was torn %d times", wrote, torn)
	}
}

// TestWhatFollowsOfAnyDisk: so it is from any disk that may be mended.
func TestWhatFollowsOfAnyDisk(t *testing.T) {
	dice := dice(6)
	begun := 0
	for range 3000 {
		m := anyMendable(&dice)
		if image.Check(&m) != 0 {
			continue
		}
		begun++
		f := on(m)
		for range 20 {
			f.step(&dice)
			wantMended(t, f)
			f.disk, _ = safe.Write(&f.now, &f.disk, dice.below(api.Blocks))
		}
	}
	if begun < 1000 {
		t.Errorf("%d disks alone may be mended", begun)
	}
}

// anyMendable is an image with counts that are too high, files without names,
// and data that nothing holds; nearly always it may be mended.
func anyMendable(d *dice) api.Image {
	m := image.New()
	for k := range m.Data {
		m.Data[k].Of = d.below(12)
	}
	for n := range m.Inode {
		if d.below(2) == 0 {
			continue
		}
		m.Inode[n] = api.Inode{Live: true, Stamp: n + 1, Links: d.below(3), Part: [api.Parts]int{-1, -1}}
		for k := range m.Data {
			if m.Data[k].Of == n+1 {
				m.Inode[n].Part[d.below(api.Parts)] = k
			}
		}
	}
	names := []string{"a", "b", "c", "d", "e"}
	for k := range api.Dirs * api.Slots {
		n := d.below(api.Inodes)
		if m.Inode[n].Live && d.below(2) == 0 {
			m.Dir[k/api.Slots][k%api.Slots] = api.Entry{Name: names[k%api.Slots+d.below(2)*(k%2)], Ino: n, Stamp: n + 1}
			m.Inode[n].Links++
		}
	}
	return m
}

// writeAll writes the blocks, one behind the other.
func (x *pair) writeAll(blocks ...int) {
	for _, b := range blocks {
		x.disk, _ = safe.Write(&x.now, &x.disk, b)
	}
}

// TestNewFile: a name comes when its inode lies there, and counts it.
func TestNewFile(t *testing.T) {
	f := on(image.New())
	f.make(1, "a")
	f.writeAll(3)
	if f.disk != image.New() {
		t.Errorf("the name came ahead of its inode: %+v", f.disk)
	}
	f.writeAll(0, 3)
	if f.disk != f.now {
		t.Errorf("disk is %+v, want %+v", f.disk, f.now)
	}
	f.put(1, 0, 1, "x")
	f.writeAll(0)
	if f.disk.Inode[0].Part != [api.Parts]int{-1, -1} {
		t.Errorf("the inode leads to a data ahead of it: %+v", f.disk.Inode[0])
	}
	f.writeAll(5, 0)
	if f.disk != f.now {
		t.Errorf("disk is %+v, want %+v", f.disk, f.now)
	}
}

// TestRenamedFile: it is counted twice, comes, goes, and is counted once; torn
// anywhere between it has one name, or both.
func TestRenamedFile(t *testing.T) {
	f := on(image.New())
	f.make(1, "a")
	f.writeAll(0, 3)
	f.link(1, 0, 0, "b")
	f.unlink(1, 0)
	for _, c := range []struct{ b, links, old, next int }{
		{3, 1, 0, -1}, {2, 1, 0, -1}, {0, 2, 0, -1}, {3, 2, 0, -1}, {2, 2, 0, 0}, {0, 2, 0, 0}, {3, 2, -1, 0}, {0, 1, -1, 0},
	} {
		f.writeAll(c.b)
		if links := f.disk.Inode[0].Links; links != c.links {
			t.Errorf("behind block %d it counts %d, want %d", c.b, links, c.links)
		}
		if old, next := image.Find(&f.disk, 1, "a"), image.Find(&f.disk, 0, "b"); old != c.old || next != c.next {
			t.Errorf("behind block %d the names lie at %d and %d, want %d and %d", c.b, old, next, c.old, c.next)
		}
	}
	if f.disk != f.now {
		t.Errorf("disk is %+v, want %+v", f.disk, f.now)
	}
}

// TestFileThatGoes: its name goes first, then its inode.
func TestFileThatGoes(t *testing.T) {
	f := on(image.New())
	f.make(2, "a")
	f.writeAll(0, 4)
	f.unlink(2, 0)
	f.writeAll(0)
	if !f.disk.Inode[0].Live || f.disk.Inode[0].Links != 1 {
		t.Errorf("the inode went ahead of its name: %+v", f.disk.Inode[0])
	}
	f.writeAll(4)
	if f.disk.Dir != f.now.Dir || !f.disk.Inode[0].Live {
		t.Errorf("the name is to go first: %+v", f.disk)
	}
	f.writeAll(0)
	if f.disk != f.now {
		t.Errorf("disk is %+v, want %+v", f.disk, f.now)
	}
}
