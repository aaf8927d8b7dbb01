package cache_test

import (
	"testing"

	"eiderdown/api"
	"eiderdown/cache"
	"eiderdown/image"
)

// wantSync: how often is all written, and is it clean behind that?
func wantSync(t *testing.T, c *cache.Cache, want int, clean bool) {
	t.Helper()
	now := c.Now
	if got := c.Sync(); got != want {
		t.Errorf("Sync is %d, want %d", got, want)
	}
	if c.Clean() != clean {
		t.Errorf("Clean is %v, want %v", !clean, clean)
	}
	if c.Now != now {
		t.Errorf("Now is %+v, was %+v", c.Now, now)
	}
}

func TestSync(t *testing.T) {
	named := with(file(0, 1, 1, -1, -1), entry(0, 0, "a", 0, 1))
	for _, x := range []struct {
		what      string
		disk, now api.Image
		want      int
	}{
		{"nothing of nothing", image.New(), image.New(), 0},
		{"nothing of a file", one(), one(), 0},
		{"a data", image.New(), with(data(8, 5, "x")), 1},
		{"a file without a name", image.New(), with(file(7, 1, 0, -1, -1)), 1},
		{"a part, its data ahead of it", with(file(0, 1, 0, -1, -1)), with(file(0, 1, 0, 8, 0), data(0, 1, "x"), data(8, 1, "y")), 1},
		{"a name that its inode counts", with(file(0, 1, 1, -1, -1)), named, 1},
		{"a name that goes, ahead of its inode", named, image.New(), 1},
		{"a new file", image.New(), named, 2},
		{"a new file with a part", image.New(), one(), 2},
		{"a name more", named, with(file(0, 1, 2, -1, -1), entry(0, 0, "a", 0, 1), entry(2, 3, "b", 0, 1)), 2},
		{"renamed, the new name is written first", named, with(file(0, 1, 1, -1, -1), entry(2, 0, "a", 0, 1)), 2},
		{"renamed, the old name is written first", named, with(file(0, 1, 1, -1, -1), entry(0, 1, "b", 0, 1)), 3},
	} {
		c := on(t, x.disk, x.now)
		t.Log(x.what)
		wantSync(t, c, x.want, true)
		wantBoth(t, c, x.now, x.now)
		wantSync(t, c, 0, true)
	}
}

// TestSyncBehindWrites: what was written ahead is not to be written again.
func TestSyncBehindWrites(t *testing.T) {
	c := on(t, image.New(), one())
	c.Write(0)
	wantSync(t, c, 1, true)
	c = on(t, image.New(), one())
	c.Write(8)
	c.Write(0)
	c.Write(3)
	wantSync(t, c, 0, true)
}

// TestSyncNever: what may never be written is tried eight times, each time.
func TestSyncNever(t *testing.T) {
	for _, bad := range []set{
		entry(1, 0, "a", 0, 9),
		entry(1, 0, "a", api.Inodes, 1),
		entry(2, 3, "", 0, 1),
		file(0, 1, 3, -1, -1),
		file(0, 1, 0, 2, -1),
		func(m *api.Image) { m.Inode[5] = api.Inode{} },
	} {
		now := with(data(6, 5, "x"), bad)
		c := on(t, image.New(), now)
		wantSync(t, c, 8, false)
		wantSync(t, c, 8, false)
		// All else lies there.
		if c.Disk().Data[6] != now.Data[6] || c.Dirty(11) {
			t.Errorf("the data 6 is not written: %+v", c.Disk())
		}
	}
}

// shifted has files 0 to n - 1 with one name each, all of them by places from
// the first one on: places are the slots of the directory 0, then of 1, of 2.
func shifted(n, from int) api.Image {
	m := image.New()
	for k := range n {
		m.Inode[k] = api.Inode{Live: true, Stamp: k + 1, Links: 1, Part: [api.Parts]int{-1, -1}}
		at := from + k
		m.Dir[at/api.Slots][at%api.Slots] = api.Entry{Name: string(rune('a' + at)), Ino: k, Stamp: k + 1}
	}
	return m
}

// TestSyncLong: each name waits till the one in its place is gone, and goes
// when the new one lies there, so that more names take more rounds: eight at
// most in one Sync, the rest in another one. It is one round for the counts
// and two for each name, but one for a name that comes from the directory
// ahead, as that is written behind its new one.
func TestSyncLong(t *testing.T) {
	for _, x := range []struct{ files, want, more int }{
		{1, 3, 0}, {2, 5, 0}, {3, 7, 0}, {4, 8, 0}, {5, 8, 2}, {6, 8, 4}, {8, 8, 7},
	} {
		disk, now := shifted(x.files, 0), shifted(x.files, 1)
		t.Logf("%d files", x.files)
		c := on(t, disk, now)
		wantSync(t, c, x.want, x.more == 0)
		wantSync(t, c, x.more, true)
		wantBoth(t, c, now, now)
	}
}

// TestSyncFromLastToFirst: a round that begins with the last block needs no
// other one where the first one leans on the later ones, but where it is the
// other way round.
func TestSyncFromLastToFirst(t *testing.T) {
	disk := with(file(0, 1, 2, -1, -1), entry(0, 0, "a", 0, 1))
	// The name in the last directory comes, then the one in the first goes.
	wantSync(t, on(t, disk, with(file(0, 1, 1, -1, -1), entry(2, 0, "b", 0, 1))), 1, true)
	// Here the old one is asked first, and has to wait.
	disk = with(file(0, 1, 2, -1, -1), entry(2, 0, "a", 0, 1))
	wantSync(t, on(t, disk, with(file(0, 1, 1, -1, -1), entry(0, 0, "b", 0, 1))), 2, true)
}
