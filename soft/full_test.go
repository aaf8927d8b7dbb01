package soft_test

import (
	"math"
	"strconv"
	"testing"

	"eiderdown/api"
	"eiderdown/soft"
)

// The blocks of the first inodes and of the directories.
const (
	inodes = 0
	dir0   = api.Inodes / api.PerBlock
	dir1   = dir0 + 1
	dir2   = dir0 + 2
)

// many is a name for each number.
func many(n int) string { return "n" + string(rune('a'+n)) }

// allInodes makes as many files as there are inodes; the last directory, and
// a part of the one ahead of it, stay without names.
func allInodes() []api.Step {
	var steps []api.Step
	for n := range api.Inodes {
		steps = append(steps, mk(n/api.Slots, many(n)))
	}
	return steps
}

// allSlots makes a file, and names it in all slots of a directory.
func allSlots(d int) []api.Step {
	steps := []api.Step{mk(d, many(0))}
	for n := 1; n < api.Slots; n++ {
		steps = append(steps, ln(d, many(0), d, many(n)))
	}
	return steps
}

// allDatas makes files, and puts a part of them into each data.
func allDatas() []api.Step {
	var steps []api.Step
	for n := range api.Datas {
		if n%api.Parts == 0 {
			steps = append(steps, mk(n/api.Parts/api.Slots, many(n/api.Parts)))
		}
		steps = append(steps, put(n/api.Parts/api.Slots, many(n/api.Parts), n%api.Parts, strconv.Itoa(n)))
	}
	return steps
}

func TestNoInodeInNow(t *testing.T) {
	f := after(t, allInodes()...)
	if f.Inode() != -1 || f.Slot(2) != 0 {
		t.Fatalf("free are %d, %d", f.Inode(), f.Slot(2))
	}
	// On the disk all of them are free.
	wantCode(t, f, mk(2, "x"), api.ErrFull)
	f.Sync()
	wantCode(t, f, mk(2, "x"), api.ErrFull)
	// Nothing else asks for an inode.
	wantDo(t, f, ln(0, many(1), 2, "x"), file(1, 2, 2, -1, -1), entry(2, 0, "x", 1, 2))
	wantDo(t, f, put(2, "x", 1, "y"), file(1, 2, 2, -1, 0), data(0, 2, "y"))
	wantDo(t, f, mv(2, "x", 2, "z"), entry(2, 1, "z", 1, 2), empty(2, 0))
}

func TestInodeFreeInNowAlone(t *testing.T) {
	f := synced(t, allInodes()...)
	take(t, f, rm(0, many(3)))
	wantCode(t, f, mk(2, "x"), api.ErrFull)
	write(f, inodes)
	wantCode(t, f, mk(2, "x"), api.ErrFull)
	write(f, dir0)
	wantDo(t, f, mk(2, "x"), file(3, 9, 1, -1, -1), entry(2, 0, "x", 3, 9))
	wantCode(t, f, mk(2, "y"), api.ErrFull)
}

// An inode that was never on the disk is free when it is so in Now.
func TestInodeFreeAgain(t *testing.T) {
	f := after(t, allInodes()...)
	wantCode(t, f, mk(2, "x"), api.ErrFull)
	take(t, f, rm(1, many(7)))
	wantDo(t, f, mk(2, "x"), file(7, 9, 1, -1, -1), entry(2, 0, "x", 7, 9))
}

func TestNoSlotInNow(t *testing.T) {
	f := after(t, append(allSlots(1), mk(0, "x"))...)
	if f.Slot(1) != -1 {
		t.Fatalf("Slot is %d", f.Slot(1))
	}
	for range 2 {
		wantCode(t, f, mk(1, "y"), api.ErrFull)
		wantCode(t, f, ln(0, "x", 1, "x"), api.ErrFull)
		wantCode(t, f, ln(1, many(0), 1, "x"), api.ErrFull)
		wantCode(t, f, mv(0, "x", 1, "x"), api.ErrFull)
		// The slot of the old name is none, as the new one comes first.
		wantCode(t, f, mv(1, many(2), 1, "x"), api.ErrFull)
		// Then once more with all of it on the disk.
		f.Sync()
	}
	wantDo(t, f, mv(1, many(2), 0, "y"), empty(1, 2), entry(0, 1, "y", 0, 1))
}

func TestSlotFreeInNowAlone(t *testing.T) {
	f := synced(t, append(allSlots(1), mk(0, "x"))...)
	take(t, f, rm(1, many(2)))
	wantCode(t, f, mk(1, "y"), api.ErrFull)
	wantCode(t, f, ln(0, "x", 1, "x"), api.ErrFull)
	wantCode(t, f, mv(0, "x", 1, "x"), api.ErrFull)
	wantCode(t, f, mv(1, many(0), 1, "x"), api.ErrFull)
	write(f, dir1)
	wantDo(t, f, ln(0, "x", 1, "x"), file(1, 2, 2, -1, -1), entry(1, 2, "x", 1, 2))
	wantCode(t, f, mk(1, "y"), api.ErrFull)
}

// Some slots are taken in Now, the others on the disk: none is free.
func TestSlotsTakenInTurn(t *testing.T) {
	f := synced(t, mk(2, "a"), mk(2, "b"))
	take(t, f, mk(2, "c"), mk(2, "d"), rm(2, "a"), rm(2, "b"))
	wantCode(t, f, mk(2, "e"), api.ErrFull)
	wantCode(t, f, mv(2, "c", 2, "e"), api.ErrFull)
	wantCode(t, f, ln(2, "c", 2, "e"), api.ErrFull)
	write(f, dir2)
	wantDo(t, f, mv(2, "c", 2, "e"), empty(2, 2), entry(2, 0, "e", 2, 3))
}

// Room is asked for in the directory that the new name comes to.
func TestSlotOfTheRightDirectory(t *testing.T) {
	f := after(t, allSlots(1)...)
	wantDo(t, f, ln(1, many(0), 0, many(0)), file(0, 1, 5, -1, -1), entry(0, 0, many(0), 0, 1))
	wantDo(t, f, mv(1, many(1), 2, many(1)), empty(1, 1), entry(2, 0, many(1), 0, 1))
	take(t, f, mk(1, "x"))
	// A make has no second directory, whatever stands there.
	x := mk(0, "y")
	x.ToDir, x.To = 1, many(0)
	wantDo(t, f, x, file(2, 3, 1, -1, -1), entry(0, 1, "y", 2, 3))
}

func TestNoDataInNow(t *testing.T) {
	f := after(t, allDatas()...)
	last := many((api.Datas - 1) / api.Parts)
	if f.Data() != -1 {
		t.Fatalf("Data is %d", f.Data())
	}
	for range 2 {
		wantCode(t, f, put(1, last, 1, "x"), api.ErrFull)
		wantCode(t, f, put(1, last, 1, ""), api.ErrFull)
		// A part that it has needs no other data.
		wantDo(t, f, put(1, last, 0, "y"), data(8, 5, "y"))
		f.Sync()
	}
	wantDo(t, f, cut(1, last, 1))
	take(t, f, mk(2, "x"))
	wantCode(t, f, put(2, "x", 0, "x"), api.ErrFull)
}

func TestDataFreeInNowAlone(t *testing.T) {
	f := synced(t, allDatas()...)
	last := many((api.Datas - 1) / api.Parts)
	take(t, f, cut(0, many(1), 1))
	wantCode(t, f, put(1, last, 1, "x"), api.ErrFull)
	// Nor is it given back to the part that it was of.
	wantCode(t, f, put(0, many(1), 1, "x"), api.ErrFull)
	write(f, inodes)
	wantDo(t, f, put(1, last, 1, "x"), file(4, 5, 1, 8, 3), data(3, 5, "x"))
	wantCode(t, f, put(0, many(1), 1, "x"), api.ErrFull)
}

// The data of a file that went are free when its inode went on the disk.
func TestDataOfAFileThatGoes(t *testing.T) {
	f := synced(t, allDatas()...)
	last := many((api.Datas - 1) / api.Parts)
	take(t, f, rm(0, many(0)))
	for _, b := range []int{dir0, inodes} {
		wantCode(t, f, put(1, last, 1, "x"), api.ErrFull)
		write(f, b)
	}
	wantDo(t, f, put(1, last, 1, "x"), file(4, 5, 1, 8, 0), data(0, 5, "x"))
}

// Data that were never held on the disk are free when they are so in Now.
func TestDataFreeAgain(t *testing.T) {
	f := after(t, allDatas()...)
	last := many((api.Datas - 1) / api.Parts)
	wantCode(t, f, put(1, last, 1, "x"), api.ErrFull)
	take(t, f, cut(0, many(2), 0))
	wantDo(t, f, put(1, last, 1, "x"), file(4, 5, 1, 8, 4), data(4, 5, "x"))
}

// A name that lies on the disk still is not given again in its directory till
// that is written; it is in another one.
func TestNameOnTheDiskStill(t *testing.T) {
	goes := []struct {
		what string
		x    api.Step
	}{
		{"unlinked", rm(1, "a")},
		{"renamed here", mv(1, "a", 1, "c")},
		{"renamed away", mv(1, "a", 2, "c")},
	}
	comes := []struct {
		what string
		d    int
		x    api.Step
	}{
		{"made", 1, mk(1, "a")},
		{"linked", 1, ln(0, "b", 1, "a")},
		{"renamed", 1, mv(0, "b", 1, "a")},
		{"made in another", 2, mk(2, "a")},
		{"linked in another", 2, ln(0, "b", 2, "a")},
		{"renamed into another", 2, mv(0, "b", 2, "a")},
	}
	for _, g := range goes {
		for _, c := range comes {
			f := synced(t, mk(1, "a"), mk(0, "b"))
			take(t, f, g.x)
			want := 0
			if c.d == 1 {
				want = api.ErrFull
			}
			now := f.Now
			if got := f.Do(c.x); got != want {
				t.Errorf("%s, %s: Do is %d, want %d", g.what, c.what, got, want)
			}
			if want == 0 {
				continue
			}
			if f.Now != now {
				t.Errorf("%s, %s: Now is %+v, want %+v", g.what, c.what, f.Now, now)
			}
			f.Sync()
			if got := f.Do(c.x); got != 0 {
				t.Errorf("%s, %s, written: Do is %d", g.what, c.what, got)
			}
		}
	}
}

// A rename back is a new name, too.
func TestRenameBack(t *testing.T) {
	f := synced(t, mk(1, "a"))
	take(t, f, mv(1, "a", 1, "b"))
	wantCode(t, f, mv(1, "b", 1, "a"), api.ErrFull)
	f.Sync()
	wantDo(t, f, mv(1, "b", 1, "a"), empty(1, 1), entry(1, 0, "a", 0, 1))
}

// A name that was never on the disk is free when it is so in Now; one that is
// on the disk alone as the second directory's is no hindrance either.
func TestNameFreeAgain(t *testing.T) {
	f := after(t, mk(1, "a"), rm(1, "a"), mk(1, "a"), mv(1, "a", 1, "b"), mk(1, "a"))
	wantList(t, f, 1, "a", "b")
	f = synced(t, mk(2, "a"))
	take(t, f, rm(2, "a"), mk(1, "b"), mk(0, "a"))
	x := mk(1, "a")
	x.ToDir, x.To = 2, "a"
	if code := f.Do(x); code != 0 {
		t.Errorf("Do(%+v) is %d", x, code)
	}
}

// crowded has no inode, no slot in the first two directories, and no data.
func crowded(t *testing.T) *soft.Files {
	t.Helper()
	f := after(t, allInodes()...)
	for n := range api.Datas {
		take(t, f, put(n/api.Parts/api.Slots, many(n/api.Parts), n%api.Parts, "x"))
	}
	if f.Inode() != -1 || f.Slot(0) != -1 || f.Slot(1) != -1 || f.Data() != -1 {
		t.Fatalf("free are %d, %d, %d, %d", f.Inode(), f.Slot(0), f.Slot(1), f.Data())
	}
	return f
}

// TestCodes: each code of a World's Do is told, in its order, and ahead of
// ErrFull, where there is room and where there is none.
func TestCodes(t *testing.T) {
	a, b := many(0), many(api.Slots)
	for _, c := range []struct {
		what string
		x    api.Step
		code int
	}{
		{"zero step", api.Step{}, api.ErrKind},
		{"kind below", api.Step{Kind: -1, Name: a}, api.ErrKind},
		{"write", api.Step{Kind: api.SWrite, Name: a}, api.ErrKind},
		{"sync", api.Step{Kind: api.SSync, Name: a}, api.ErrKind},
		{"crash", api.Step{Kind: api.SCrash, Name: a}, api.ErrKind},
		{"least kind", api.Step{Kind: math.MinInt, Name: a}, api.ErrKind},
		{"greatest kind", api.Step{Kind: math.MaxInt, Name: a}, api.ErrKind},
		{"kind ahead of all", api.Step{Kind: 10, Dir: -1, ToDir: -1, P: -1, Text: tooMany}, api.ErrKind},

		{"make: directory below", mk(-1, "x"), api.ErrRange},
		{"make: directory beyond", mk(api.Dirs, "x"), api.ErrRange},
		{"make: least directory", mk(math.MinInt, "x"), api.ErrRange},
		{"make: greatest directory", mk(math.MaxInt, "x"), api.ErrRange},
		{"make: directory ahead of name", mk(api.Dirs, ""), api.ErrRange},
		{"make: no name", mk(0, ""), api.ErrName},
		{"make: long name", mk(0, tooLong), api.ErrName},
		{"make: there", mk(0, a), api.ErrThere},

		{"link: directory", ln(-1, a, 1, "x"), api.ErrRange},
		{"link: name", ln(0, "A", 3, "x"), api.ErrName},
		{"link: target directory", ln(0, a, api.Dirs, ""), api.ErrRange},
		{"link: least target", ln(0, a, math.MinInt, "x"), api.ErrRange},
		{"link: greatest target", ln(0, a, math.MaxInt, "x"), api.ErrRange},
		{"link: target below", ln(0, a, -1, "x"), api.ErrRange},
		{"link: target name", ln(0, a, 1, ""), api.ErrName},
		{"link: none", ln(0, "x", 1, "y"), api.ErrNone},
		{"link: none ahead of there", ln(0, "x", 1, b), api.ErrNone},
		{"link: there", ln(0, a, 1, b), api.ErrThere},
		{"link: itself", ln(0, a, 0, a), api.ErrThere},

		{"unlink: directory", rm(api.Dirs, a), api.ErrRange},
		{"unlink: name", rm(0, "a b"), api.ErrName},
		{"unlink: none", rm(0, "x"), api.ErrNone},
		{"unlink: none in this one", rm(1, a), api.ErrNone},

		{"rename: directory", mv(-1, a, 1, "x"), api.ErrRange},
		{"rename: name", mv(0, "A", 3, "x"), api.ErrName},
		{"rename: target directory", mv(0, a, api.Dirs, ""), api.ErrRange},
		{"rename: target below", mv(0, a, -1, "x"), api.ErrRange},
		{"rename: target name", mv(0, a, 1, tooLong), api.ErrName},
		{"rename: none", mv(0, "x", 1, "y"), api.ErrNone},
		{"rename: none ahead of there", mv(0, "x", 1, b), api.ErrNone},
		{"rename: there", mv(0, a, 1, b), api.ErrThere},
		{"rename: itself", mv(0, a, 0, a), api.ErrThere},

		{"put: directory", put(-1, a, 0, "x"), api.ErrRange},
		{"put: name", put(0, "", -1, "x"), api.ErrName},
		{"put: part below", put(0, a, -1, tooMany), api.ErrRange},
		{"put: part beyond", put(0, a, api.Parts, "x"), api.ErrRange},
		{"put: least part", put(0, a, math.MinInt, "x"), api.ErrRange},
		{"put: greatest part", put(0, a, math.MaxInt, "x"), api.ErrRange},
		{"put: long", put(0, a, 0, tooMany), api.ErrLong},
		{"put: long ahead of none", put(0, "x", 0, tooMany), api.ErrLong},
		{"put: long ahead of full", put(1, many(7), 1, tooMany), api.ErrLong},
		{"put: none", put(0, "x", 0, "x"), api.ErrNone},

		{"cut: directory", cut(api.Dirs, a, 0), api.ErrRange},
		{"cut: name", cut(0, "", -1), api.ErrName},
		{"cut: part below", cut(0, a, -1), api.ErrRange},
		{"cut: part beyond", cut(0, "x", api.Parts), api.ErrRange},
		{"cut: none", cut(0, "x", 0), api.ErrNone},
	} {
		t.Run(c.what, func(t *testing.T) {
			wantCode(t, after(t, mk(0, a), mk(1, b)), c.x, c.code)
			wantCode(t, crowded(t), c.x, c.code)
		})
	}
}

// There is no room for what comes, but for all that stays or goes.
func TestCrowded(t *testing.T) {
	for _, c := range []struct {
		what string
		x    api.Step
		code int
	}{
		{"make", mk(0, "x"), api.ErrFull},
		{"make where a slot is", mk(2, "x"), api.ErrFull},
		{"link", ln(0, many(0), 1, "x"), api.ErrFull},
		{"link where a slot is", ln(0, many(0), 2, "x"), 0},
		{"unlink", rm(0, many(0)), 0},
		{"rename", mv(0, many(0), 0, "x"), api.ErrFull},
		{"rename where a slot is", mv(0, many(0), 2, "x"), 0},
		{"put", put(1, many(7), 0, "y"), api.ErrFull},
		{"put again", put(0, many(0), 0, "y"), 0},
		{"cut", cut(0, many(0), 0), 0},
		{"cut of none", cut(1, many(7), 0), 0},
	} {
		t.Run(c.what, func(t *testing.T) {
			f := crowded(t)
			if c.code != 0 {
				wantCode(t, f, c.x, c.code)
				return
			}
			take(t, f, c.x)
		})
	}
}
