package cache_test

import (
	"math"
	"slices"
	"testing"

	"eiderdown/api"
	"eiderdown/cache"
	"eiderdown/image"
)

// set changes an image.
type set func(m *api.Image)

func file(n, stamp, links, p, q int) set {
	return func(m *api.Image) {
		m.Inode[n] = api.Inode{Live: true, Stamp: stamp, Links: links, Part: [api.Parts]int{p, q}}
	}
}

func entry(d, s int, name string, ino, stamp int) set {
	return func(m *api.Image) { m.Dir[d][s] = api.Entry{Name: name, Ino: ino, Stamp: stamp} }
}

func data(x, of int, text string) set {
	return func(m *api.Image) { m.Data[x] = api.Data{Of: of, Text: text} }
}

// with is an image without files, but for what is set.
func with(sets ...set) api.Image {
	m := image.New()
	for _, s := range sets {
		s(&m)
	}
	return m
}

// one has a file with a name and a part.
func one() api.Image {
	return with(file(2, 5, 1, -1, 3), data(3, 5, "x"), entry(1, 2, "a", 2, 5))
}

// on is a cache with that disk, which may be mended, and that Now.
func on(t *testing.T, disk, now api.Image) *cache.Cache {
	t.Helper()
	c := cache.Of(disk)
	if c == nil {
		t.Fatalf("there is no cache of %+v", disk)
	}
	c.Now = now
	return c
}

// wantBoth: is it Now, and does it lie on the disk?
func wantBoth(t *testing.T, c *cache.Cache, now, disk api.Image) {
	t.Helper()
	if c.Now != now {
		t.Errorf("Now is %+v, want %+v", c.Now, now)
	}
	if got := c.Disk(); got != disk {
		t.Errorf("Disk is %+v, want %+v", got, disk)
	}
}

// unchanged fails if a call between changed the cache.
func unchanged(t *testing.T, c *cache.Cache, call func()) {
	t.Helper()
	now, disk := c.Now, c.Disk()
	call()
	wantBoth(t, c, now, disk)
}

// far are numbers that are no block, directory, inode or data.
func far() []int {
	return []int{-1, -2, -4, -14, api.Blocks, api.Blocks + 1, 100, math.MaxInt, math.MinInt, math.MaxInt32 + 1}
}

func TestNew(t *testing.T) {
	c := cache.New()
	wantBoth(t, c, image.New(), image.New())
	if !c.Clean() {
		t.Errorf("a new cache is not clean")
	}
	wantFree(t, c, 0, [api.Dirs]int{0, 0, 0}, 0)
}

func TestOf(t *testing.T) {
	for k, m := range []api.Image{
		image.New(),
		one(),
		with(file(7, math.MaxInt, 12, 8, -1), data(8, math.MaxInt, "")), // it counts names that it has not
		with(file(0, 1, 0, -1, -1)),                                     // without a name
		with(data(4, 77, "left"), data(0, -3, "any")),                   // data that nothing holds
		with(file(0, 1, 2, -1, -1), entry(0, 0, "abcdef", 0, 1), entry(2, 3, "abcdef", 0, 1)),
	} {
		c := cache.Of(m)
		if c == nil {
			t.Errorf("%d: there is no cache", k)
			continue
		}
		wantBoth(t, c, m, m)
		if !c.Clean() {
			t.Errorf("%d: it is not clean", k)
		}
	}
}

func TestOfWhatMayNotBeMended(t *testing.T) {
	for _, x := range []struct {
		code int
		m    api.Image
	}{
		{api.ErrForm, api.Image{}},
		{api.ErrForm, with(entry(0, 0, "", 1, 0))},
		{api.ErrForm, with(func(m *api.Image) { m.Inode[7].Stamp = 1 })},
		{api.ErrName, with(file(0, 1, 1, -1, -1), entry(2, 3, "A", 0, 1))},
		{api.ErrThere, with(file(0, 1, 2, -1, -1), entry(2, 2, "a", 0, 1), entry(2, 3, "a", 0, 1))},
		{api.ErrRange, with(entry(0, 0, "a", api.Inodes, 1))},
		{api.ErrRange, with(file(0, 1, 0, api.Datas, -1))},
		{api.ErrLink, with(entry(0, 0, "a", 0, 1))},
		{api.ErrLink, with(file(0, 2, 1, -1, -1), entry(0, 0, "a", 0, 1))},
		{api.ErrCount, with(file(0, 1, 0, -1, -1), entry(0, 0, "a", 0, 1))},
		{api.ErrCount, with(file(0, 0, 1, -1, -1))},
		{api.ErrData, with(file(0, 1, 1, 0, -1))},
		{api.ErrTwice, with(file(0, 1, 1, -1, -1), file(7, 1, 1, -1, -1))},
		{api.ErrTwice, with(file(0, 1, 1, 2, 2), data(2, 1, "x"))},
	} {
		if code := image.Check(&x.m); code != x.code {
			t.Errorf("the code is %d, want %d: %+v", code, x.code, x.m)
		}
		if cache.Of(x.m) != nil {
			t.Errorf("code %d: there is a cache of %+v", x.code, x.m)
		}
	}
}

// TestCopies: what a cache was made of and what it answered is the caller's.
func TestCopies(t *testing.T) {
	m := one()
	c := cache.Of(m)
	spoil(&m)
	wantBoth(t, c, one(), one())
	m = c.Disk()
	spoil(&m)
	wantBoth(t, c, one(), one())
	spoil(&c.Now)
	if c.Disk() != one() {
		t.Errorf("Disk changed with Now: %+v", c.Disk())
	}
	// What was answered does not change with the cache, either.
	c = on(t, image.New(), one())
	m = c.Disk()
	c.Sync()
	if m != image.New() || c.Disk() != one() {
		t.Errorf("an answer of Disk changed with the disk: %+v", m)
	}
}

func spoil(m *api.Image) {
	*m = api.Image{}
	for n := range m.Inode {
		m.Inode[n] = api.Inode{Live: true, Stamp: -n, Links: n, Part: [api.Parts]int{n, 99}}
	}
	for d := range m.Dir {
		m.Dir[d] = [api.Slots]api.Entry{{Name: "spoilt", Ino: -1, Stamp: d}}
	}
	m.Data[3].Text = "spoilt"
}

// TestApart: what is asked of one cache changes no other one.
func TestApart(t *testing.T) {
	a, b, c := cache.New(), cache.New(), cache.Of(one())
	d := cache.Of(one())
	a.Now = one()
	a.Sync()
	c.Now = image.New()
	c.Sync()
	wantBoth(t, a, one(), one())
	wantBoth(t, b, image.New(), image.New())
	wantBoth(t, c, image.New(), image.New())
	wantBoth(t, d, one(), one())
	wantBoth(t, cache.New(), image.New(), image.New())
}

// wantWrite: is the disk what it is with sets, behind a Write of the block?
func wantWrite(t *testing.T, c *cache.Cache, b int, sets ...set) {
	t.Helper()
	now, disk := c.Now, c.Disk()
	for _, s := range sets {
		s(&disk)
	}
	if !c.Write(b) {
		t.Errorf("there is no block %d", b)
	}
	wantBoth(t, c, now, disk)
}

func TestWriteInodes(t *testing.T) {
	now := with(file(0, 1, 0, -1, -1), file(3, 2, 0, -1, -1), file(4, 3, 0, -1, -1), file(7, 4, 0, -1, -1))
	c := on(t, image.New(), now)
	wantWrite(t, c, 0, file(0, 1, 0, -1, -1), file(3, 2, 0, -1, -1))
	wantWrite(t, c, 0)
	wantWrite(t, c, 1, file(4, 3, 0, -1, -1), file(7, 4, 0, -1, -1))
	if !c.Clean() {
		t.Errorf("it is not clean")
	}
}

func TestWriteDirectories(t *testing.T) {
	files := []set{file(0, 1, 2, -1, -1), file(7, 2, 2, -1, -1)}
	names := []set{entry(0, 0, "a", 0, 1), entry(0, 3, "b", 7, 2), entry(2, 0, "c", 0, 1), entry(2, 3, "d", 7, 2)}
	c := on(t, with(files...), with(slices.Concat(files, names)...))
	wantWrite(t, c, 3)
	wantWrite(t, c, 2, names[0], names[1])
	wantWrite(t, c, 4, names[2], names[3])
	if !c.Clean() {
		t.Errorf("it is not clean")
	}
}

func TestWriteDatas(t *testing.T) {
	c := on(t, image.New(), with(data(0, 1, "x"), data(4, -9, "y"), data(8, 2, "z")))
	wantWrite(t, c, 6)
	wantWrite(t, c, 5, data(0, 1, "x"))
	wantWrite(t, c, 13, data(8, 2, "z"))
	wantWrite(t, c, 9, data(4, -9, "y"))
	if !c.Clean() {
		t.Errorf("it is not clean")
	}
}

// TestWriteWhatMayBe: not all of Now comes, but what does no harm.
func TestWriteWhatMayBe(t *testing.T) {
	c := on(t, image.New(), one())
	wantWrite(t, c, 3) // not ahead of its inode
	wantWrite(t, c, 0, file(2, 5, 1, -1, -1))
	wantWrite(t, c, 3, entry(1, 2, "a", 2, 5))
	wantWrite(t, c, 8, data(3, 5, "x"))
	wantWrite(t, c, 0, file(2, 5, 1, -1, 3))
	wantBoth(t, c, one(), one())
	// Nor does all go.
	c.Now = image.New()
	wantWrite(t, c, 0)
	wantWrite(t, c, 8, data(3, 0, ""))
	wantWrite(t, c, 3, entry(1, 2, "", 0, 0))
	wantWrite(t, c, 0, func(m *api.Image) { m.Inode[2] = image.Free() })
	wantBoth(t, c, image.New(), image.New())
}

func TestWriteNoBlock(t *testing.T) {
	c := on(t, image.New(), one())
	for _, b := range far() {
		unchanged(t, c, func() {
			if c.Write(b) {
				t.Errorf("there is a block %d", b)
			}
		})
	}
}

// wantDirty: are these blocks dirty, and no other ones?
func wantDirty(t *testing.T, c *cache.Cache, want ...int) {
	t.Helper()
	unchanged(t, c, func() {
		var got []int
		for b := -3; b < api.Blocks+3; b++ {
			if c.Dirty(b) {
				got = append(got, b)
			}
		}
		if !slices.Equal(got, want) {
			t.Errorf("dirty are %v, want %v", got, want)
		}
		if clean := len(want) == 0; c.Clean() != clean {
			t.Errorf("Clean is %v, want %v", !clean, clean)
		}
	})
}

func TestDirty(t *testing.T) {
	for _, x := range []struct {
		block int
		set   set
	}{
		{0, file(0, 1, 0, -1, -1)}, {0, file(1, 1, 0, -1, -1)}, {0, file(3, 1, 0, -1, -1)},
		{1, file(4, 1, 0, -1, -1)}, {1, file(7, 1, 0, -1, -1)},
		{0, func(m *api.Image) { m.Inode[2].Live = true }},
		{0, func(m *api.Image) { m.Inode[2].Stamp = 1 }},
		{1, func(m *api.Image) { m.Inode[6].Links = -1 }},
		{1, func(m *api.Image) { m.Inode[6].Part[0] = 0 }},
		{1, func(m *api.Image) { m.Inode[6].Part[1] = -2 }},
		{2, entry(0, 0, "a", 0, 0)}, {2, entry(0, 3, "a", 0, 0)},
		{3, entry(1, 1, "a", 0, 0)}, {3, entry(1, 2, "", 1, 0)},
		{4, entry(2, 0, "", 0, 1)}, {4, entry(2, 3, "a", 7, 1)},
		{5, data(0, 1, "")}, {5, data(0, 0, "x")},
		{9, data(4, -1, "")}, {13, data(8, 1, "")}, {13, data(8, 0, "x")},
	} {
		c := cache.New()
		x.set(&c.Now)
		wantDirty(t, c, x.block)
		c.Now = image.New()
		wantDirty(t, c)
	}
}

func TestDirtyOnTheDiskAlone(t *testing.T) {
	m := with(file(7, 5, 1, 0, 8), data(0, 5, "x"), data(8, 5, "y"), entry(2, 3, "a", 7, 5))
	c := on(t, m, image.New())
	wantDirty(t, c, 1, 4, 5, 13)
	c.Now = m
	wantDirty(t, c)
	// Other in both is dirty, too.
	c.Now.Dir[2][3].Name = "b"
	wantDirty(t, c, 4)
}

func TestDirtyOfEachBlock(t *testing.T) {
	c := cache.New()
	spoil(&c.Now)
	for x := range c.Now.Data {
		c.Now.Data[x].Of = 1
	}
	all := make([]int, api.Blocks)
	for b := range all {
		all[b] = b
	}
	wantDirty(t, c, all...)
	for _, b := range far() {
		if c.Dirty(b) {
			t.Errorf("the block %d, which is none, is dirty", b)
		}
	}
}

// TestDirtyIsNotWrite: a block is dirty as long as it is other, whether or
// not it may be written.
func TestDirtyIsNotWrite(t *testing.T) {
	c := on(t, image.New(), one())
	wantDirty(t, c, 0, 3, 8)
	c.Write(3)
	wantDirty(t, c, 0, 3, 8)
	c.Write(0)
	wantDirty(t, c, 0, 3, 8)
	c.Write(3)
	wantDirty(t, c, 0, 8)
	c.Write(8)
	wantDirty(t, c, 0)
	c.Write(0)
	wantDirty(t, c)
}
