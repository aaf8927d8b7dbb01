package soft_test

import (
	"math"
	"slices"
	"strings"
	"testing"

	"eiderdown/api"
	"eiderdown/image"
	"eiderdown/soft"
)

var (
	longest = strings.Repeat("n", api.MaxName)
	tooLong = strings.Repeat("n", api.MaxName+1)
	most    = strings.Repeat("t", api.MaxText)
	tooMany = strings.Repeat("t", api.MaxText+1)
)

func mk(d int, s string) api.Step { return api.Step{Kind: api.SMake, Dir: d, Name: s} }

func rm(d int, s string) api.Step { return api.Step{Kind: api.SUnlink, Dir: d, Name: s} }

func ln(d int, s string, e int, t string) api.Step {
	return api.Step{Kind: api.SLink, Dir: d, Name: s, ToDir: e, To: t}
}

func mv(d int, s string, e int, t string) api.Step {
	return api.Step{Kind: api.SRename, Dir: d, Name: s, ToDir: e, To: t}
}

func put(d int, s string, p int, text string) api.Step {
	return api.Step{Kind: api.SPut, Dir: d, Name: s, P: p, Text: text}
}

func cut(d int, s string, p int) api.Step {
	return api.Step{Kind: api.SCut, Dir: d, Name: s, P: p}
}

// set changes an image.
type set func(m *api.Image)

func file(n, stamp, links, p, q int) set {
	return func(m *api.Image) {
		m.Inode[n] = api.Inode{Live: true, Stamp: stamp, Links: links, Part: [api.Parts]int{p, q}}
	}
}

func free(n int) set { return func(m *api.Image) { m.Inode[n] = image.Free() } }

func entry(d, s int, name string, ino, stamp int) set {
	return func(m *api.Image) { m.Dir[d][s] = api.Entry{Name: name, Ino: ino, Stamp: stamp} }
}

func empty(d, s int) set { return func(m *api.Image) { m.Dir[d][s] = api.Entry{} } }

func data(x, of int, text string) set {
	return func(m *api.Image) { m.Data[x] = api.Data{Of: of, Text: text} }
}

// with is an image without files, but for what is set.
func with(sets ...set) api.Image {
	m := image.New()
	for _, s := range sets {
		s(&m)
	}
	return m
}

// one has a file with a name and a part.
func one() api.Image {
	return with(file(2, 5, 1, -1, 3), data(3, 5, "x"), entry(1, 2, "a", 2, 5))
}

// of is files on a disk that may be mended.
func of(t *testing.T, m api.Image) *soft.Files {
	t.Helper()
	f := soft.Of(m)
	if f == nil {
		t.Fatalf("there are no files of %+v", m)
	}
	return f
}

// take takes the steps, each without a code.
func take(t *testing.T, f *soft.Files, steps ...api.Step) {
	t.Helper()
	for _, x := range steps {
		if code := f.Do(x); code != 0 {
			t.Fatalf("Do(%+v) is %d", x, code)
		}
	}
}

// after is new files with which the steps were taken, and nothing is written.
func after(t *testing.T, steps ...api.Step) *soft.Files {
	t.Helper()
	f := soft.New()
	take(t, f, steps...)
	return f
}

// write writes the blocks, one behind the other.
func write(f *soft.Files, blocks ...int) {
	for _, b := range blocks {
		f.Write(b)
	}
}

// synced is files with which the steps were taken, and all is written.
func synced(t *testing.T, steps ...api.Step) *soft.Files {
	t.Helper()
	f := after(t, steps...)
	f.Sync()
	if !f.Clean() {
		t.Fatalf("it is not clean: now %+v, disk %+v", f.Now, f.Disk())
	}
	return f
}

func wantBoth(t *testing.T, f *soft.Files, now, disk api.Image) {
	t.Helper()
	if f.Now != now {
		t.Errorf("Now is %+v, want %+v", f.Now, now)
	}
	if got := f.Disk(); got != disk {
		t.Errorf("Disk is %+v, want %+v", got, disk)
	}
}

// wantDo: does the step change so much in Now, and nothing else?
func wantDo(t *testing.T, f *soft.Files, x api.Step, sets ...set) {
	t.Helper()
	now, disk := f.Now, f.Disk()
	for _, s := range sets {
		s(&now)
	}
	if code := f.Do(x); code != 0 {
		t.Errorf("Do(%+v) is %d", x, code)
	}
	wantBoth(t, f, now, disk)
	if !image.Exact(&f.Now) {
		t.Errorf("behind Do(%+v) it is not exact: %+v", x, f.Now)
	}
}

// wantCode: has the step that code, and changes nothing?
func wantCode(t *testing.T, f *soft.Files, x api.Step, code int) {
	t.Helper()
	now, disk := f.Now, f.Disk()
	if got := f.Do(x); got != code {
		t.Errorf("Do(%+v) is %d, want %d", x, got, code)
	}
	wantBoth(t, f, now, disk)
}

// wantStamp: has the next file that Stamp? The disk has to have room for it.
func wantStamp(t *testing.T, f *soft.Files, want int) {
	t.Helper()
	ino := f.Inode()
	take(t, f, mk(2, "stamp"))
	if got := f.Now.Inode[ino].Stamp; got != want {
		t.Errorf("the next Stamp is %d, want %d", got, want)
	}
}

func wantList(t *testing.T, f *soft.Files, d int, want ...string) {
	t.Helper()
	if got := f.List(d); !slices.Equal(got, want) {
		t.Errorf("List(%d) is %q, want %q", d, got, want)
	}
}

func wantRead(t *testing.T, f *soft.Files, d int, s string, p int, text string, there bool, code int) {
	t.Helper()
	gotText, gotThere, gotCode := f.Read(d, s, p)
	if gotText != text || gotThere != there || gotCode != code {
		t.Errorf("Read(%d, %q, %d) is %q, %v, %d, want %q, %v, %d", d, s, p, gotText, gotThere, gotCode, text, there, code)
	}
}

func wantSame(t *testing.T, f *soft.Files, d int, s string, e int, u string, want bool) {
	t.Helper()
	if got := f.Same(d, s, e, u); got != want {
		t.Errorf("Same(%d, %q, %d, %q) is %v", d, s, e, u, got)
	}
	if got := f.Same(e, u, d, s); got != want {
		t.Errorf("Same(%d, %q, %d, %q) is %v", e, u, d, s, got)
	}
}

func wantSure(t *testing.T, f *soft.Files, d int, s string, want bool) {
	t.Helper()
	if got := f.Sure(d, s); got != want {
		t.Errorf("Sure(%d, %q) is %v", d, s, got)
	}
}

func TestNew(t *testing.T) {
	f := soft.New()
	wantBoth(t, f, image.New(), image.New())
	if !f.Clean() {
		t.Errorf("new files are not clean")
	}
	for d := range api.Dirs {
		wantList(t, f, d)
		wantRead(t, f, d, "a", 0, "", false, api.ErrNone)
		wantSame(t, f, d, "a", d, "a", false)
		wantSure(t, f, d, "a", false)
	}
	wantStamp(t, f, 1)
}

// TestOf: both are the image, and the next Stamp is one above the greatest.
func TestOf(t *testing.T) {
	for k, x := range []struct {
		m    api.Image
		next int
	}{
		{image.New(), 1},
		{one(), 6},
		{with(file(0, 1, 0, -1, -1)), 2}, // without a name
		{with(file(0, 9, 1, -1, -1), entry(0, 0, "a", 0, 9), file(7, 4, 0, -1, -1)), 10},                   // the first one is the greatest
		{with(file(0, 4, 1, -1, -1), entry(0, 0, "a", 0, 4), file(7, 9, 0, -1, -1)), 10},                   // the last one is
		{with(file(1, 4, 3, -1, -1), file(3, 17, 3, -1, -1), file(5, 6, 3, -1, -1)), 18},                   // one between
		{with(data(4, 77, "left"), data(0, -3, "any")), 1},                                                 // data have none
		{with(file(2, 5, 1, -1, 3), data(3, 5, "x"), data(4, 6, "y"), entry(1, 2, "a", 2, 5)), 6},          // nor those of a later file that is gone
		{with(file(3, math.MaxInt-1, 1, -1, -1), entry(2, 2, "b", 3, math.MaxInt-1)), math.MaxInt},         // the last that there is
		{with(file(7, 1<<40, math.MaxInt, 8, -1), data(8, 1<<40, most), file(0, 3, 0, -1, -1)), 1<<40 + 1}, // it counts names that it has not
	} {
		f := soft.Of(x.m)
		if f == nil {
			t.Errorf("%d: there are no files", k)
			continue
		}
		wantBoth(t, f, x.m, x.m)
		if !f.Clean() {
			t.Errorf("%d: they are not clean", k)
		}
		wantStamp(t, f, x.next)
	}
}

func TestOfHasNames(t *testing.T) {
	f := of(t, one())
	wantList(t, f, 0)
	wantList(t, f, 1, "a")
	wantRead(t, f, 1, "a", 0, "", false, 0)
	wantRead(t, f, 1, "a", 1, "x", true, 0)
	wantSame(t, f, 1, "a", 1, "a", true)
	wantSure(t, f, 1, "a", true)
}

func TestOfWhatMayNotBeMended(t *testing.T) {
	for _, x := range []struct {
		code int
		m    api.Image
	}{
		{api.ErrForm, api.Image{}},
		{api.ErrForm, with(entry(0, 0, "", 1, 0))},
		{api.ErrForm, with(func(m *api.Image) { m.Inode[7].Stamp = 1 })},
		{api.ErrName, with(file(0, 1, 1, -1, -1), entry(2, 3, "A", 0, 1))},
		{api.ErrThere, with(file(0, 1, 2, -1, -1), entry(2, 2, "a", 0, 1), entry(2, 3, "a", 0, 1))},
		{api.ErrRange, with(entry(0, 0, "a", api.Inodes, 1))},
		{api.ErrRange, with(file(0, 1, 0, -2, -1))},
		{api.ErrLink, with(entry(0, 0, "a", 0, 1))},
		{api.ErrLink, with(file(0, 2, 1, -1, -1), entry(0, 0, "a", 0, 1))},
		{api.ErrCount, with(file(0, 1, 0, -1, -1), entry(0, 0, "a", 0, 1))},
		{api.ErrCount, with(file(0, 0, 1, -1, -1))},
		{api.ErrData, with(file(0, 1, 1, 0, -1))},
		{api.ErrTwice, with(file(0, 1, 1, -1, -1), file(7, 1, 1, -1, -1))},
		{api.ErrTwice, with(file(0, 1, 1, 2, 2), data(2, 1, "x"))},
	} {
		if code := image.Check(&x.m); code != x.code {
			t.Errorf("the code is %d, want %d: %+v", code, x.code, x.m)
		}
		if soft.Of(x.m) != nil {
			t.Errorf("code %d: there are files of %+v", x.code, x.m)
		}
	}
}

// TestCopies: what files were made of and what they answered is the caller's.
func TestCopies(t *testing.T) {
	m := one()
	f := of(t, m)
	m.Inode[2], m.Dir[1][2], m.Data[3] = api.Inode{}, api.Entry{}, api.Data{}
	wantBoth(t, f, one(), one())

	take(t, f, mk(1, "b"), mk(1, "c"))
	names := f.List(1)
	names[0], names[1] = "spoilt", "spoilt"
	wantList(t, f, 1, "a", "b", "c")
	names = f.List(1)
	other := f.List(1)
	take(t, f, rm(1, "a"))
	other[0] = "spoilt"
	if !slices.Equal(names, []string{"a", "b", "c"}) {
		t.Errorf("an answer of List changed: %q", names)
	}
}

// TestApart: what is asked of some files changes no other ones.
func TestApart(t *testing.T) {
	a, b, c, d := soft.New(), soft.New(), of(t, one()), of(t, one())
	take(t, a, mk(0, "a"), mk(0, "b"), put(0, "a", 0, "x"))
	a.Sync()
	take(t, c, rm(1, "a"), mk(2, "c"))
	c.Sync()
	wantBoth(t, b, image.New(), image.New())
	wantBoth(t, d, one(), one())
	wantStamp(t, a, 3)
	wantStamp(t, b, 1)
	wantStamp(t, c, 7)
	wantStamp(t, d, 6)
	wantStamp(t, soft.New(), 1)
}

// TestFilesAreACache: what was put into Now is written as any Now is.
func TestFilesAreACache(t *testing.T) {
	f := after(t, mk(1, "a"), put(1, "a", 1, "x"))
	for b, want := range []bool{true, false, false, true, false, true} {
		if f.Dirty(b) != want {
			t.Errorf("Dirty(%d) is %v", b, !want)
		}
	}
	if f.Inode() != 1 || f.Slot(1) != 1 || f.Slot(0) != 0 || f.Data() != 1 {
		t.Errorf("free are %d, %d, %d, %d", f.Inode(), f.Slot(1), f.Slot(0), f.Data())
	}
	if n := f.Sync(); n != 2 || f.Disk() != f.Now {
		t.Errorf("Sync is %d, Disk %+v", n, f.Disk())
	}
}

func TestMake(t *testing.T) {
	f := soft.New()
	wantDo(t, f, mk(1, "a"), file(0, 1, 1, -1, -1), entry(1, 0, "a", 0, 1))
	wantDo(t, f, mk(1, "b"), file(1, 2, 1, -1, -1), entry(1, 1, "b", 1, 2))
	wantDo(t, f, mk(0, "a"), file(2, 3, 1, -1, -1), entry(0, 0, "a", 2, 3))
	wantDo(t, f, mk(2, longest), file(3, 4, 1, -1, -1), entry(2, 0, longest, 3, 4))
	// What the kind does not ask for is nothing.
	x := api.Step{Kind: api.SMake, Dir: 2, Name: "c", ToDir: 9, To: "D", P: 7, Text: tooMany}
	wantDo(t, f, x, file(4, 5, 1, -1, -1), entry(2, 1, "c", 4, 5))
}

// A new file comes to the first inode and slot that are free in Now and on
// the disk; one that a file left behind is cleared.
func TestMakeInTheFirstPlace(t *testing.T) {
	f := synced(t, mk(0, "a"), mk(0, "b"), put(0, "b", 0, "x"), mk(0, "c"))
	take(t, f, rm(0, "b"))
	wantDo(t, f, mk(0, "d"), file(3, 4, 1, -1, -1), entry(0, 3, "d", 3, 4))
	write(f, 2, 0)
	wantDo(t, f, mk(0, "e"), file(1, 5, 1, -1, -1), entry(0, 1, "e", 1, 5))
	// The inode 4 is never on the disk: free in Now, it is free.
	take(t, f, mk(1, "g"), put(1, "g", 1, "y"), rm(1, "g"))
	wantDo(t, f, mk(1, "g"), file(4, 7, 1, -1, -1), entry(1, 0, "g", 4, 7))
}

// An inode that is live on the disk, and has no name there, is taken anew.
func TestMakeOverAnInodeWithoutNames(t *testing.T) {
	f := synced(t, mk(0, "a"), put(0, "a", 0, "x"))
	take(t, f, rm(0, "a"))
	write(f, 2)
	if disk := f.Disk(); !disk.Inode[0].Live {
		t.Fatalf("the inode went: %+v", disk.Inode[0])
	}
	wantDo(t, f, mk(0, "a"), file(0, 2, 1, -1, -1), entry(0, 0, "a", 0, 2))
}

// A Stamp is given once: not again behind the file that had it, nor is one
// spent on a step that has a code.
func TestStamps(t *testing.T) {
	f := after(t, mk(0, "a"), rm(0, "a"), mk(0, "a"), rm(0, "a"))
	wantCode(t, f, mk(0, ""), api.ErrName)
	wantCode(t, f, mk(-1, "a"), api.ErrRange)
	wantDo(t, f, mk(0, "a"), file(0, 3, 1, -1, -1), entry(0, 0, "a", 0, 3))
	wantCode(t, f, mk(0, "a"), api.ErrThere)
	take(t, f, ln(0, "a", 0, "b"), mv(0, "b", 1, "c"), put(0, "a", 0, "x"), cut(0, "a", 0))
	f.Sync()
	take(t, f, rm(0, "a"))
	wantCode(t, f, mk(0, "a"), api.ErrFull)
	wantStamp(t, f, 4)
}

// Behind the greatest number there is no next Stamp: there is no room, and
// the disk may be mended.
func TestLastStamp(t *testing.T) {
	f := of(t, with(file(3, math.MaxInt-1, 1, -1, -1), entry(2, 2, "b", 3, math.MaxInt-1)))
	wantDo(t, f, mk(0, "a"), file(0, math.MaxInt, 1, -1, -1), entry(0, 0, "a", 0, math.MaxInt))
	wantCode(t, f, mk(0, "c"), api.ErrFull)
	wantCode(t, f, mk(0, "a"), api.ErrThere)
	wantDo(t, f, ln(0, "a", 0, "c"), file(0, math.MaxInt, 2, -1, -1), entry(0, 1, "c", 0, math.MaxInt))
	f.Sync()
	if disk := f.Disk(); image.Check(&disk) != 0 || !f.Clean() {
		t.Errorf("disk is %+v", disk)
	}
}

func TestLink(t *testing.T) {
	f := after(t, mk(0, "x"), mk(1, "a"), put(1, "a", 0, "y"))
	wantDo(t, f, ln(1, "a", 1, "b"), file(1, 2, 2, 0, -1), entry(1, 1, "b", 1, 2))
	wantDo(t, f, ln(1, "b", 2, "a"), file(1, 2, 3, 0, -1), entry(2, 0, "a", 1, 2))
	wantDo(t, f, ln(2, "a", 0, "a"), file(1, 2, 4, 0, -1), entry(0, 1, "a", 1, 2))
	wantDo(t, f, ln(0, "x", 2, "x"), file(0, 1, 2, -1, -1), entry(2, 1, "x", 0, 1))
}

// A file lives on while it has a name; with the last one its inode is Free.
// What its parts led to stays as it is, held by none.
func TestUnlink(t *testing.T) {
	f := after(t, mk(0, "x"), mk(1, "a"), put(1, "a", 0, "y"), ln(1, "a", 0, "b"), ln(1, "a", 1, "c"))
	wantDo(t, f, rm(1, "a"), file(1, 2, 2, 0, -1), empty(1, 0))
	wantDo(t, f, rm(0, "b"), file(1, 2, 1, 0, -1), empty(0, 1))
	wantDo(t, f, rm(1, "c"), free(1), empty(1, 1))
	wantDo(t, f, rm(0, "x"), free(0), empty(0, 0))
	if f.Now != with(data(0, 2, "y")) {
		t.Errorf("Now is %+v", f.Now)
	}
	// It is so whether the name lies on the disk or not.
	f = synced(t, mk(2, "a"))
	wantDo(t, f, rm(2, "a"), free(0), empty(2, 0))
}

// A disk may count more names than there are: the file goes with its last
// name all the same.
func TestUnlinkOfAFileThatCountsMore(t *testing.T) {
	f := of(t, with(file(2, 5, 4, -1, -1), entry(1, 2, "a", 2, 5), entry(1, 3, "b", 2, 5)))
	take(t, f, rm(1, "a"))
	if f.Now != with(file(2, 5, 3, -1, -1), entry(1, 3, "b", 2, 5)) {
		t.Errorf("Now is %+v", f.Now)
	}
	take(t, f, rm(1, "b"))
	if f.Now != image.New() {
		t.Errorf("Now is %+v", f.Now)
	}
}

// The new name comes first: to another slot than that of the old one.
func TestRename(t *testing.T) {
	f := after(t, mk(1, "a"), put(1, "a", 1, "x"))
	wantDo(t, f, mv(1, "a", 1, "b"), empty(1, 0), entry(1, 1, "b", 0, 1))
	wantDo(t, f, mv(1, "b", 1, "a"), empty(1, 1), entry(1, 0, "a", 0, 1))
	wantDo(t, f, mv(1, "a", 2, "a"), empty(1, 0), entry(2, 0, "a", 0, 1))
	wantDo(t, f, mv(2, "a", 0, longest), empty(2, 0), entry(0, 0, longest, 0, 1))
	if f.Now != with(file(0, 1, 1, -1, 0), entry(0, 0, longest, 0, 1), data(0, 1, "x")) {
		t.Errorf("Now is %+v", f.Now)
	}
}

// Of several names the one that is asked for goes.
func TestRenameOneOfTwo(t *testing.T) {
	f := after(t, mk(1, "a"), ln(1, "a", 1, "b"), ln(1, "a", 2, "c"), mk(1, "d"))
	wantDo(t, f, mv(1, "b", 2, "b"), empty(1, 1), entry(2, 1, "b", 0, 1))
	wantDo(t, f, mv(2, "c", 1, "c"), empty(2, 0), entry(1, 1, "c", 0, 1))
	wantDo(t, f, mv(1, "d", 2, "d"), empty(1, 2), entry(2, 0, "d", 1, 2))
}

// A name that lies on the disk goes in Now alone; its slot is not free yet.
func TestRenameOfAWrittenName(t *testing.T) {
	f := synced(t, mk(1, "a"))
	wantDo(t, f, mv(1, "a", 1, "b"), empty(1, 0), entry(1, 1, "b", 0, 1))
	wantDo(t, f, mv(1, "b", 1, "c"), empty(1, 1), entry(1, 2, "c", 0, 1))
	wantDo(t, f, mv(1, "c", 1, "b"), empty(1, 2), entry(1, 1, "b", 0, 1))
}

func TestPut(t *testing.T) {
	f := after(t, mk(0, "x"), mk(1, "a"), put(0, "x", 0, "z"))
	wantDo(t, f, put(1, "a", 1, "y"), file(1, 2, 1, -1, 1), data(1, 2, "y"))
	for _, text := range []string{"", most, "\x00\xff", "y"} {
		wantDo(t, f, put(1, "a", 1, text), data(1, 2, text))
	}
	wantDo(t, f, put(1, "a", 0, ""), file(1, 2, 1, 2, 1), data(2, 2, ""))
	f.Sync()
	wantDo(t, f, put(1, "a", 0, "w"), data(2, 2, "w"))
	wantDo(t, f, put(0, "x", 0, "v"), data(0, 1, "v"))
}

// A part that was cut leads to none; what it led to stays as it is.
func TestCut(t *testing.T) {
	f := after(t, mk(1, "a"), put(1, "a", 0, "x"), put(1, "a", 1, "y"))
	wantDo(t, f, cut(1, "a", 0), file(0, 1, 1, -1, 1))
	wantDo(t, f, cut(1, "a", 0))
	wantDo(t, f, cut(1, "a", 1), file(0, 1, 1, -1, -1))
	if f.Now != with(file(0, 1, 1, -1, -1), entry(1, 0, "a", 0, 1), data(0, 1, "x"), data(1, 1, "y")) {
		t.Errorf("Now is %+v", f.Now)
	}
}

// Put again behind a cut, a part leads to the first data that is free in Now
// and on the disk, with nothing of what it was.
func TestPutBehindCut(t *testing.T) {
	f := after(t, mk(1, "a"), put(1, "a", 0, "x"), cut(1, "a", 0))
	wantDo(t, f, put(1, "a", 1, "y"), file(0, 1, 1, -1, 0), data(0, 1, "y"))
	f.Sync()
	take(t, f, cut(1, "a", 1))
	wantDo(t, f, put(1, "a", 1, "z"), file(0, 1, 1, -1, 1), data(1, 1, "z"))
	write(f, 6, 0)
	wantDo(t, f, put(1, "a", 0, "w"), file(0, 1, 1, 0, 1), data(0, 1, "w"))
	take(t, f, cut(1, "a", 0), mk(0, "b"))
	wantDo(t, f, put(0, "b", 0, "v"), file(1, 2, 1, 0, -1), data(0, 2, "v"))
}

func TestRead(t *testing.T) {
	f := after(t, mk(1, "a"), ln(1, "a", 2, "b"), put(1, "a", 0, ""), mk(0, "x"), put(0, "x", 1, most))
	last := api.Parts - 1
	wantRead(t, f, 1, "a", 0, "", true, 0)
	wantRead(t, f, 2, "b", 0, "", true, 0)
	wantRead(t, f, 1, "a", last, "", false, 0)
	wantRead(t, f, 0, "x", 0, "", false, 0)
	wantRead(t, f, 0, "x", last, most, true, 0)
	take(t, f, put(2, "b", last, "y\xff"))
	wantRead(t, f, 1, "a", last, "y\xff", true, 0)
	take(t, f, cut(1, "a", last))
	wantRead(t, f, 2, "b", last, "", false, 0)
}

func TestReadOfNone(t *testing.T) {
	f := after(t, mk(1, "a"), put(1, "a", 0, "x"), put(1, "a", 1, "y"))
	now := f.Now
	for _, x := range []struct {
		d    int
		s    string
		p    int
		code int
	}{
		{-1, "a", 0, api.ErrRange},
		{api.Dirs, "a", 0, api.ErrRange},
		{math.MinInt, "a", 0, api.ErrRange},
		{math.MaxInt, "a", 0, api.ErrRange},
		{api.Dirs, "", -1, api.ErrRange},
		{1, "", 0, api.ErrName},
		{1, tooLong, 0, api.ErrName},
		{1, "A", 0, api.ErrName},
		{1, "", -1, api.ErrName},
		{1, "a", -1, api.ErrRange},
		{1, "a", api.Parts, api.ErrRange},
		{1, "a", math.MinInt, api.ErrRange},
		{1, "a", math.MaxInt, api.ErrRange},
		{1, "b", -1, api.ErrRange},
		{1, "b", 0, api.ErrNone},
		{1, "aa", 0, api.ErrNone},
		{0, "a", 0, api.ErrNone},
		{1, longest, 1, api.ErrNone},
	} {
		wantRead(t, f, x.d, x.s, x.p, "", false, x.code)
	}
	take(t, f, rm(1, "a"))
	wantRead(t, f, 1, "a", 0, "", false, api.ErrNone)
	wantBoth(t, f, with(func(m *api.Image) { m.Data = now.Data }), image.New())
}

// The names rise by their bytes, in whatever order they came.
func TestList(t *testing.T) {
	f := after(t, mk(0, "b"), mk(0, "ab"), mk(0, "z"), mk(0, "a"), mk(2, "c"))
	wantList(t, f, 0, "a", "ab", "b", "z")
	wantList(t, f, 1)
	wantList(t, f, 2, "c")
	take(t, f, rm(0, "ab"), mk(0, longest), rm(2, "c"))
	wantList(t, f, 0, "a", "b", longest, "z")
	wantList(t, f, 2)
	for _, d := range []int{-1, api.Dirs, math.MinInt, math.MaxInt} {
		wantList(t, f, d)
	}
}

func TestSame(t *testing.T) {
	f := after(t, mk(0, "a"), ln(0, "a", 1, "a"), ln(0, "a", 0, "b"), mk(2, "a"), mk(0, "c"))
	wantSame(t, f, 0, "a", 0, "a", true)
	wantSame(t, f, 0, "a", 1, "a", true)
	wantSame(t, f, 1, "a", 0, "b", true)
	wantSame(t, f, 0, "a", 2, "a", false)
	wantSame(t, f, 0, "a", 0, "c", false)
	wantSame(t, f, 2, "a", 0, "c", false)
	for _, s := range []struct {
		d    int
		name string
	}{{0, "x"}, {1, "b"}, {-1, "a"}, {api.Dirs, "a"}, {math.MinInt, "a"}, {math.MaxInt, "a"}, {0, ""}, {1, ""}, {0, "A"}, {0, tooLong}} {
		wantSame(t, f, s.d, s.name, 0, "a", false)
		wantSame(t, f, s.d, s.name, s.d, s.name, false)
		wantSame(t, f, s.d, s.name, 2, "x", false)
	}
	// A new file in the inode of another one is not that one.
	take(t, f, rm(2, "a"), mk(2, "a"))
	wantSame(t, f, 2, "a", 0, "c", false)
	wantSame(t, f, 2, "a", 2, "a", true)
}

// A name is sure when it lies on the disk as it is in Now.
func TestSure(t *testing.T) {
	f := after(t, mk(1, "a"))
	wantSure(t, f, 1, "a", false)
	write(f, 3)
	wantSure(t, f, 1, "a", false)
	write(f, 0)
	wantSure(t, f, 1, "a", false)
	write(f, 3)
	wantSure(t, f, 1, "a", true)
	wantSure(t, f, 0, "a", false)
	wantSure(t, f, 2, "a", false)

	// What else of the file is not written is nothing to its name.
	take(t, f, put(1, "a", 0, "x"), ln(1, "a", 2, "b"))
	wantSure(t, f, 1, "a", true)
	wantSure(t, f, 2, "b", false)
	f.Sync()
	wantSure(t, f, 2, "b", true)

	// A name that went is sure no more, on the disk or not.
	take(t, f, rm(1, "a"))
	wantSure(t, f, 1, "a", false)
	wantSure(t, f, 2, "b", true)
	take(t, f, mv(2, "b", 2, "c"))
	wantSure(t, f, 2, "b", false)
	wantSure(t, f, 2, "c", false)
	f.Sync()
	wantSure(t, f, 2, "b", false)
	wantSure(t, f, 2, "c", true)
}

func TestSureOfNone(t *testing.T) {
	f := synced(t, mk(0, "a"), mk(1, "a"), mk(2, "a"))
	for _, d := range []int{0, 1, 2, -1, api.Dirs, math.MinInt, math.MaxInt} {
		for _, s := range []string{"", "b", "aa", "A", tooLong} {
			wantSure(t, f, d, s, false)
		}
		wantSure(t, f, d, "a", d >= 0 && d < api.Dirs)
	}
}

// No step leads to a slot with one name in Now and another one on the disk,
// so that Now is set here: what lies there is to be the same to the Stamp.
func TestSureOfAnotherEntry(t *testing.T) {
	for _, e := range []api.Entry{
		{Name: "b", Ino: 0, Stamp: 1},
		{Name: "a", Ino: 1, Stamp: 1},
		{Name: "a", Ino: 0, Stamp: 2},
	} {
		f := synced(t, mk(1, "a"))
		f.Now.Dir[1][0] = e
		wantSure(t, f, 1, e.Name, false)
	}
	f := synced(t, mk(1, "a"))
	f.Now.Dir[1][3], f.Now.Dir[1][0] = f.Now.Dir[1][0], api.Entry{}
	wantSure(t, f, 1, "a", false)
}
