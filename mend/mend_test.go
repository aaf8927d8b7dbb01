package mend_test

import (
	"math"
	"testing"

	"eiderdown/api"
	"eiderdown/image"
	"eiderdown/mend"
)

const (
	lastInode = api.Inodes - 1
	lastData  = api.Datas - 1
	lastDir   = api.Dirs - 1
	lastSlot  = api.Slots - 1
)

// set changes an image.
type set func(m *api.Image)

func file(n, stamp, links, p, q int) set {
	return func(m *api.Image) {
		m.Inode[n] = api.Inode{Live: true, Stamp: stamp, Links: links, Part: [api.Parts]int{p, q}}
	}
}

// dead is an inode that is not live, but may be other than a free one.
func dead(n, stamp, links, p, q int) set {
	return func(m *api.Image) {
		file(n, stamp, links, p, q)(m)
		m.Inode[n].Live = false
	}
}

func free(n int) set { return dead(n, 0, 0, -1, -1) }

func links(n, count int) set { return func(m *api.Image) { m.Inode[n].Links = count } }

func entry(d, s int, name string, ino, stamp int) set {
	return func(m *api.Image) { m.Dir[d][s] = api.Entry{Name: name, Ino: ino, Stamp: stamp} }
}

func empty(d, s int) set { return entry(d, s, "", 0, 0) }

func data(x, of int, text string) set {
	return func(m *api.Image) { m.Data[x] = api.Data{Of: of, Text: text} }
}

func none(x int) set { return data(x, 0, "") }

// with is the image with what is set.
func with(m api.Image, sets ...set) api.Image {
	for _, s := range sets {
		s(&m)
	}
	return m
}

// full is exact, and all of its data are held: the first inode has two names
// and both parts, one of them empty; the last one has a name and no part; the
// inode 2 a name and one part.
func full() api.Image {
	return with(image.New(),
		file(0, 1, 2, 0, lastData), data(0, 1, "x"), data(lastData, 1, ""),
		entry(0, 0, "a", 0, 1), entry(lastDir, lastSlot, "abcdef", 0, 1),
		file(lastInode, 9, 1, -1, -1), entry(1, 2, "a", lastInode, 9),
		file(2, 5, 1, -1, 3), data(3, 5, "y"), entry(1, 0, "b", 2, 5))
}

// wantMend: is the image mended to that one, with that lost, and is what is
// mended so that nothing is lost when it is mended again?
func wantMend(t *testing.T, what string, m, want api.Image, lost mend.Lost) {
	t.Helper()
	asked := m
	got, told, code := mend.Mend(m)
	if code != 0 || told != lost {
		t.Errorf("%s: Mend tells %+v, %d, want %+v, 0", what, told, code, lost)
	}
	if got != want {
		t.Errorf("%s: Mend is %+v, want %+v", what, got, want)
	}
	if m != asked {
		t.Errorf("%s: what was handed in is %+v, was %+v", what, m, asked)
	}
	wantFollows(t, what, &m, &got)
	again, told, code := mend.Mend(got)
	if again != got || told != (mend.Lost{}) || code != 0 {
		t.Errorf("%s: again Mend is %+v, %+v, %d, ahead %+v", what, again, told, code, got)
	}
}

// wantFollows: is what is mended exact, with the same entries, and the same
// parts and texts of what they lead to?
func wantFollows(t *testing.T, what string, m, mended *api.Image) {
	t.Helper()
	if !image.Exact(mended) {
		t.Errorf("%s: it is not exact: %+v", what, *mended)
	}
	if mended.Dir != m.Dir {
		t.Errorf("%s: the entries are %+v, were %+v", what, mended.Dir, m.Dir)
	}
	for _, dir := range m.Dir {
		for _, e := range dir {
			if e.Name == "" {
				continue
			}
			old, is := m.Inode[e.Ino], mended.Inode[e.Ino]
			if !is.Live || is.Stamp != old.Stamp || is.Part != old.Part {
				t.Errorf("%s: %q leads to %+v, led to %+v", what, e.Name, is, old)
			}
			for _, x := range old.Part {
				if x >= 0 && mended.Data[x] != m.Data[x] {
					t.Errorf("%s: the data %d of %q is %+v, was %+v", what, x, e.Name, mended.Data[x], m.Data[x])
				}
			}
		}
	}
}

// wantCode: may the image not be mended, with that code and nothing else?
func wantCode(t *testing.T, what string, m api.Image, code int) {
	t.Helper()
	asked := m
	got, told, c := mend.Mend(m)
	if c != code || told != (mend.Lost{}) || got != (api.Image{}) {
		t.Errorf("%s: Mend is %+v, %+v, %d, want the zero image, no counts, %d", what, got, told, c, code)
	}
	if m != asked {
		t.Errorf("%s: what was handed in is %+v, was %+v", what, m, asked)
	}
}

// spoilt has something to mend of each kind.
func spoilt() api.Image {
	return with(full(), links(0, 3), file(4, 7, 1, 6, -1), data(6, 7, "z"), data(7, 0, "w"))
}

func TestMayNotBeMended(t *testing.T) {
	for _, c := range []struct {
		what string
		s    set
		code int
	}{
		{"no name, an Ino", entry(0, 1, "", 1, 0), api.ErrForm},
		{"no name, a Stamp", entry(lastDir, 0, "", 0, 1), api.ErrForm},
		{"no name but a great one", entry(0, 1, "A", 0, 1), api.ErrName},
		{"no name but a long one", entry(0, 1, "abcdefg", 0, 1), api.ErrName},
		{"a name twice", entry(0, 1, "a", 0, 1), api.ErrThere},
		{"a name of two files", entry(1, lastSlot, "a", 0, 1), api.ErrThere},
		{"no inode below", entry(0, 1, "c", -1, 1), api.ErrRange},
		{"no inode beyond", entry(0, 1, "c", api.Inodes, 1), api.ErrRange},
		{"the greatest inode", entry(0, 1, "c", math.MaxInt, 1), api.ErrRange},
		{"the least inode", entry(0, 1, "c", math.MinInt, 1), api.ErrRange},
		{"an inode that is not live", entry(0, 1, "c", 3, 1), api.ErrLink},
		{"an inode with another Stamp", entry(0, 1, "c", 0, 2), api.ErrLink},
		{"not live, a Stamp", dead(3, 1, 0, -1, -1), api.ErrForm},
		{"not live, Links", dead(3, 0, 1, -1, -1), api.ErrForm},
		{"not live, a part", dead(3, 0, 0, -1, 0), api.ErrForm},
		{"no Stamp and no name", file(3, 0, 0, -1, -1), api.ErrCount},
		{"a Stamp below 0", file(3, -4, 0, -1, -1), api.ErrCount},
		{"fewer Links than names", links(0, 1), api.ErrCount},
		{"no Links", links(lastInode, 0), api.ErrCount},
		{"Links below 0, no name", file(3, 2, -1, -1, -1), api.ErrCount},
		{"a part beyond", file(2, 5, 1, api.Datas, 3), api.ErrRange},
		{"a part below", file(2, 5, 1, -2, 3), api.ErrRange},
		{"the greatest part, no name", file(3, 2, 0, math.MaxInt, -1), api.ErrRange},
		{"the least part", file(2, 5, 1, 3, math.MinInt), api.ErrRange},
		{"a part of none", file(2, 5, 1, 4, 3), api.ErrData},
		{"a part of another", file(2, 5, 1, 0, 3), api.ErrData},
		{"a part of another, no name", file(3, 2, 0, 0, -1), api.ErrData},
		{"a Stamp twice, no name", file(3, 5, 0, -1, -1), api.ErrTwice},
		{"a part twice", file(2, 5, 1, 3, 3), api.ErrTwice},
		{"a part twice, no name", file(4, 7, 0, 6, 6), api.ErrTwice},
	} {
		m := with(spoilt(), c.s)
		wantCode(t, c.what, m, c.code)
		if code := image.Check(&m); code != c.code {
			t.Errorf("%s: Check is %d, want %d", c.what, code, c.code)
		}
	}
	wantCode(t, "the zero image", api.Image{}, api.ErrForm)
}

func TestExactIsAsItWas(t *testing.T) {
	for _, c := range []struct {
		what string
		m    api.Image
	}{
		{"a new one", image.New()},
		{"a full one", full()},
		{"one name less", with(full(), links(0, 1), empty(0, 0))},
		{"one name more", with(full(), links(2, 2), entry(0, 1, "c", 2, 5))},
		{"the greatest Stamp", with(image.New(), file(3, math.MaxInt, 1, 2, -1), data(2, math.MaxInt, "x"), entry(0, 0, "a", 3, math.MaxInt))},
		{"empty texts that are held", with(full(), data(0, 1, ""), data(3, 5, ""))},
		{"a long text", with(full(), data(3, 5, "longer than a text may be\x00\xff\n"))},
		{"all slots", allSlots()},
		{"all inodes and all data", allData()},
	} {
		if !image.Exact(&c.m) {
			t.Errorf("%s: it is not exact", c.what)
		}
		wantMend(t, c.what, c.m, c.m, mend.Lost{})
	}
}

// allSlots has one file with all the names that there may be.
func allSlots() api.Image {
	m := with(image.New(), file(5, 3, api.Dirs*api.Slots, -1, 0), data(0, 3, "x"))
	for d := range m.Dir {
		for s := range m.Dir[d] {
			m.Dir[d][s] = api.Entry{Name: string(rune('a' + s)), Ino: 5, Stamp: 3}
		}
	}
	return m
}

// allData has as many files as there may be, and each data is a part of one.
func allData() api.Image {
	m := image.New()
	for n := range m.Inode {
		file(n, n+1, 1, n, -1)(&m)
		data(n, n+1, "x")(&m)
		entry(n/api.Slots, n%api.Slots, string(rune('a'+n)), n, n+1)(&m)
	}
	m.Inode[lastInode].Part[1] = lastData
	data(lastData, lastInode+1, "y")(&m)
	return m
}

// mendCase is an image that is full but for what is set, and behind Mend full
// but for what is left.
type mendCase struct {
	what string
	is   []set
	left []set
	lost mend.Lost
}

func runMends(t *testing.T, cases []mendCase) {
	t.Helper()
	for _, c := range cases {
		wantMend(t, c.what, with(full(), c.is...), with(full(), c.left...), c.lost)
	}
}

func TestFilesWithoutNames(t *testing.T) {
	runMends(t, []mendCase{
		{"no parts, no Links", []set{file(3, 2, 0, -1, -1)}, nil, mend.Lost{Files: 1}},
		{"Links are no Counts of it", []set{file(3, 2, 1, -1, -1)}, nil, mend.Lost{Files: 1}},
		{"the most Links", []set{file(3, 2, math.MaxInt, -1, -1)}, nil, mend.Lost{Files: 1}},
		{"the greatest Stamp", []set{file(3, math.MaxInt, 0, -1, -1)}, nil, mend.Lost{Files: 1}},
		{"a first part", []set{file(3, 2, 0, 4, -1), data(4, 2, "z")}, nil, mend.Lost{Files: 1, Datas: 1}},
		{"a last part", []set{file(3, 2, 1, -1, 4), data(4, 2, "z")}, nil, mend.Lost{Files: 1, Datas: 1}},
		{"both parts", []set{file(3, 2, 0, 4, 1), data(4, 2, "z"), data(1, 2, "w")}, nil, mend.Lost{Files: 1, Datas: 2}},
		{"a part that is empty", []set{file(3, 2, 0, 4, -1), data(4, 2, "")}, nil, mend.Lost{Files: 1, Datas: 1}},
		{"two files", []set{file(3, 2, 0, -1, -1), file(6, 4, 2, -1, 4), data(4, 4, "z")}, nil, mend.Lost{Files: 2, Datas: 1}},
		{"the first inode", []set{empty(0, 0), empty(lastDir, lastSlot)},
			[]set{empty(0, 0), empty(lastDir, lastSlot), free(0), none(0), none(lastData)}, mend.Lost{Files: 1, Datas: 2}},
		{"the last inode", []set{empty(1, 2)}, []set{empty(1, 2), free(lastInode)}, mend.Lost{Files: 1}},
		{"in the midst", []set{empty(1, 0)}, []set{empty(1, 0), free(2), none(3)}, mend.Lost{Files: 1, Datas: 1}},
		{"data of its own that it does not hold", []set{file(3, 2, 0, 4, -1), data(4, 2, "z"), data(5, 2, "w")}, nil, mend.Lost{Files: 1, Datas: 2}},
	})
	m := allData()
	m.Dir = [api.Dirs][api.Slots]api.Entry{}
	wantMend(t, "all files", m, image.New(), mend.Lost{Files: api.Inodes, Datas: api.Datas})
}

func TestCounts(t *testing.T) {
	runMends(t, []mendCase{
		{"one too many of two", []set{links(0, 3)}, nil, mend.Lost{Counts: 1}},
		{"one too many of one", []set{links(lastInode, 2)}, nil, mend.Lost{Counts: 1}},
		{"the most", []set{links(2, math.MaxInt)}, nil, mend.Lost{Counts: 1}},
		{"one name less", []set{empty(0, 0)}, []set{empty(0, 0), links(0, 1)}, mend.Lost{Counts: 1}},
		{"another name less", []set{empty(lastDir, lastSlot)}, []set{empty(lastDir, lastSlot), links(0, 1)}, mend.Lost{Counts: 1}},
		{"two of them", []set{links(0, 4), links(2, 9)}, nil, mend.Lost{Counts: 2}},
		{"all of them", []set{links(0, 5), links(2, 3), links(lastInode, 13)}, nil, mend.Lost{Counts: 3}},
		{"more names, and more Links", []set{links(2, 7), entry(0, 2, "c", 2, 5), entry(2, 0, "b", 2, 5)},
			[]set{links(2, 3), entry(0, 2, "c", 2, 5), entry(2, 0, "b", 2, 5)}, mend.Lost{Counts: 1}},
	})
	m := allData()
	for n := range m.Inode {
		m.Inode[n].Links += n + 1
	}
	wantMend(t, "all inodes", m, allData(), mend.Lost{Counts: api.Inodes})
	wantMend(t, "all slots", with(allSlots(), links(5, 99)), allSlots(), mend.Lost{Counts: 1})
}

func TestDatas(t *testing.T) {
	runMends(t, []mendCase{
		{"of a file, with a text", []set{data(4, 5, "z")}, nil, mend.Lost{Datas: 1}},
		{"of a file, empty", []set{data(4, 5, "")}, nil, mend.Lost{Datas: 1}},
		{"of none, with a text", []set{data(4, 0, "z")}, nil, mend.Lost{Datas: 1}},
		{"of no file there is", []set{data(4, 77, "z")}, nil, mend.Lost{Datas: 1}},
		{"of the greatest", []set{data(4, math.MaxInt, "")}, nil, mend.Lost{Datas: 1}},
		{"of one below 0", []set{data(4, -1, "")}, nil, mend.Lost{Datas: 1}},
		{"of the least", []set{data(4, math.MinInt, "z")}, nil, mend.Lost{Datas: 1}},
		{"a zero byte", []set{data(4, 0, "\x00")}, nil, mend.Lost{Datas: 1}},
		{"several", []set{data(1, 1, "z"), data(2, 0, "w"), data(4, 9, ""), data(7, 3, "")}, nil, mend.Lost{Datas: 4}},
		{"a part that is cut", []set{file(2, 5, 1, -1, -1)}, []set{file(2, 5, 1, -1, -1), none(3)}, mend.Lost{Datas: 1}},
		{"the first and the last one", []set{file(0, 1, 2, -1, -1)}, []set{file(0, 1, 2, -1, -1), none(0), none(lastData)}, mend.Lost{Datas: 2}},
		{"a part that came to another data", []set{file(2, 5, 1, -1, 4), data(4, 5, "z")},
			[]set{file(2, 5, 1, -1, 4), data(4, 5, "z"), none(3)}, mend.Lost{Datas: 1}},
	})
	m := image.New()
	for x := range m.Data {
		data(x, x, "z")(&m)
	}
	wantMend(t, "all data", m, image.New(), mend.Lost{Datas: api.Datas})
	if !image.Exact(&m) {
		t.Errorf("data that nothing holds are no hindrance to be exact: %+v", m)
	}
}

func TestAllThree(t *testing.T) {
	wantMend(t, "one of each", spoilt(), full(), mend.Lost{Files: 1, Counts: 1, Datas: 2})
	runMends(t, []mendCase{
		{"several of each", []set{
			links(0, 4), links(lastInode, 2), file(1, 2, 0, -1, -1), file(6, 8, 3, 5, 6),
			data(5, 8, "v"), data(6, 8, ""), data(1, 0, "w"), data(7, 1, ""),
		}, nil, mend.Lost{Files: 2, Counts: 2, Datas: 4}},
		{"what is lost of named files", []set{links(2, 2), empty(0, 0), empty(1, 2)},
			[]set{links(0, 1), empty(0, 0), empty(1, 2), free(lastInode)}, mend.Lost{Files: 1, Counts: 2}},
	})
}
