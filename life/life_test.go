package life_test

import (
	"math"
	"slices"
	"strings"
	"testing"

	"eiderdown/api"
	"eiderdown/image"
	"eiderdown/life"
	"eiderdown/mend"
)

// The first block of each kind.
const (
	inodes = 0
	dirs   = api.Inodes / api.PerBlock
	datas  = dirs + api.Dirs
)

var (
	longest = strings.Repeat("z", api.MaxName)
	tooLong = longest + "z"
	most    = strings.Repeat("m", api.MaxText)
	tooMany = most + "m"
)

// sync and crash have nothing beside their kinds.
var (
	sync  = api.Step{Kind: api.SSync}
	crash = api.Step{Kind: api.SCrash}
)

func mk(d int, s string) api.Step { return api.Step{Kind: api.SMake, Dir: d, Name: s} }

func rm(d int, s string) api.Step { return api.Step{Kind: api.SUnlink, Dir: d, Name: s} }

func ln(d int, s string, e int, t string) api.Step {
	return api.Step{Kind: api.SLink, Dir: d, Name: s, ToDir: e, To: t}
}

func mv(d int, s string, e int, t string) api.Step {
	return api.Step{Kind: api.SRename, Dir: d, Name: s, ToDir: e, To: t}
}

func put(d int, s string, p int, text string) api.Step {
	return api.Step{Kind: api.SPut, Dir: d, Name: s, P: p, Text: text}
}

func cut(d int, s string, p int) api.Step {
	return api.Step{Kind: api.SCut, Dir: d, Name: s, P: p}
}

func wr(b int) api.Step { return api.Step{Kind: api.SWrite, P: b} }

// writes is a step for each block.
func writes(blocks ...int) []api.Step {
	var steps []api.Step
	for _, b := range blocks {
		steps = append(steps, wr(b))
	}
	return steps
}

// take takes the steps, each without a code.
func take(t *testing.T, l *life.Life, steps ...api.Step) {
	t.Helper()
	for _, x := range steps {
		if code := l.Step(x); code != 0 {
			t.Fatalf("Step(%+v) is %d", x, code)
		}
	}
}

// lived is a new life behind the steps.
func lived(t *testing.T, steps ...api.Step) *life.Life {
	t.Helper()
	l := life.New()
	take(t, l, steps...)
	return l
}

// state is all that a life has, but for the last Stamp.
type state struct {
	now, disk api.Image
	crashes   int
	lost      mend.Lost
}

func stateOf(l *life.Life) state { return state{l.Now, l.Disk(), l.Crashes(), l.Lost()} }

func wantState(t *testing.T, what string, l *life.Life, want state) {
	t.Helper()
	if got := stateOf(l); got != want {
		t.Errorf("%s: it is %+v, want %+v", what, got, want)
	}
}

// wantToll: are these the crashes, and what was mended at the last one?
func wantToll(t *testing.T, what string, l *life.Life, crashes int, lost mend.Lost) {
	t.Helper()
	if l.Crashes() != crashes || l.Lost() != lost {
		t.Errorf("%s: Crashes is %d, Lost %+v, want %d, %+v", what, l.Crashes(), l.Lost(), crashes, lost)
	}
}

func wantList(t *testing.T, what string, l *life.Life, d int, want ...string) {
	t.Helper()
	if got := l.List(d); !slices.Equal(got, want) {
		t.Errorf("%s: List(%d) is %q, want %q", what, d, got, want)
	}
}

// wantText: has the file that part? No text: it has none.
func wantText(t *testing.T, what string, l *life.Life, d int, s string, p int, want ...string) {
	t.Helper()
	text, there, code := l.Read(d, s, p)
	if code != 0 || there != (len(want) > 0) || text != strings.Join(want, "") {
		t.Errorf("%s: Read(%d, %q, %d) is %q, %v, %d, want %q", what, d, s, p, text, there, code, want)
	}
}

// wantStamp makes a file: has it that Stamp?
func wantStamp(t *testing.T, what string, l *life.Life, want int) {
	t.Helper()
	ino := l.Inode()
	d := slices.IndexFunc([]int{0, 1, 2}, func(d int) bool { return l.Slot(d) >= 0 })
	if ino < 0 || d < 0 {
		t.Fatalf("%s: there is no room: %+v", what, l.Now)
	}
	take(t, l, mk(d, "stamp"))
	if got := l.Now.Inode[ino].Stamp; got != want {
		t.Errorf("%s: the next Stamp is %d, want %d", what, got, want)
	}
}

// begun has a file with the names a and b, and one with the name c, on its disk.
func begun() []api.Step {
	return []api.Step{mk(0, "a"), ln(0, "a", 1, "b"), put(0, "a", 0, "x"), mk(1, "c"), put(1, "c", 1, "y"), sync}
}

// crashed has lost one of each at its crash: a file, a count, a data.
func crashed() []api.Step {
	return append(begun(), mk(2, "d"), rm(0, "a"), cut(1, "c", 1), wr(dirs), wr(inodes), ln(1, "b", 0, "e"), wr(inodes), crash)
}

// crowded has no inode, no slot in the first two directories, and no data.
func crowded() []api.Step {
	var steps []api.Step
	for n := range api.Inodes {
		steps = append(steps, mk(n/api.Slots, "n"+string(rune('a'+n))))
	}
	for x := range api.Datas {
		n := x / api.Parts
		steps = append(steps, put(n/api.Slots, "n"+string(rune('a'+n)), x%api.Parts, "x"))
	}
	return steps
}

func TestNew(t *testing.T) {
	l := life.New()
	wantState(t, "new", l, state{now: image.New(), disk: image.New()})
	for d := range api.Dirs {
		wantList(t, "new", l, d)
	}
	if !l.Clean() {
		t.Errorf("it is not clean: %+v", l.Now)
	}
	wantStamp(t, "new", l, 1)
	wantState(t, "another new one", life.New(), state{now: image.New(), disk: image.New()})
}

// TestSteps: each kind does what it does, and to Now or to the disk alone.
func TestSteps(t *testing.T) {
	l := life.New()
	empty := l.Disk()
	take(t, l, mk(1, "a"), put(1, "a", 1, "x"), ln(1, "a", 0, "b"))
	wantList(t, "linked", l, 0, "b")
	wantText(t, "linked", l, 0, "b", 1, "x")
	take(t, l, mv(0, "b", 2, "c"), cut(2, "c", 1), put(2, "c", 0, "y"), rm(1, "a"))
	wantList(t, "unlinked", l, 1)
	wantList(t, "renamed", l, 2, "c")
	wantText(t, "cut", l, 2, "c", 1)
	wantText(t, "put", l, 2, "c", 0, "y")
	if l.Disk() != empty {
		t.Errorf("it was written: %+v", l.Disk())
	}

	now := l.Now
	take(t, l, wr(inodes))
	disk := l.Disk()
	if l.Now != now || !disk.Inode[0].Live || disk.Dir[2] != empty.Dir[2] {
		t.Errorf("behind a write Now is %+v, Disk %+v", l.Now, disk)
	}
	take(t, l, sync)
	wantState(t, "behind Sync", l, state{now: now, disk: now})
	if !l.Sure(2, "c") {
		t.Errorf("behind Sync the name is not sure")
	}
}

// TestWriteIsThatOfTheBlock: with each block, what a cache's Write brings.
func TestWriteIsThatOfTheBlock(t *testing.T) {
	steps := []api.Step{sync, mk(2, "d"), rm(0, "a"), put(2, "d", 1, "w"), put(1, "b", 0, "v"), mv(1, "c", 2, "f"), wr(inodes)}
	for b := range api.Blocks {
		l, m := lived(t, append(begun(), steps...)...), lived(t, append(begun(), steps...)...)
		take(t, l, wr(b))
		if !m.Write(b) {
			t.Errorf("there is no block %d", b)
		}
		wantState(t, "a block", l, stateOf(m))
	}
}

// TestWhatIsNotAskedFor: what a kind does not ask for is nothing to it.
func TestWhatIsNotAskedFor(t *testing.T) {
	for _, x := range []api.Step{
		{Kind: api.SWrite, P: api.Blocks - 1, Dir: -1, ToDir: 9, Name: "A", To: tooLong, Text: tooMany},
		{Kind: api.SSync, P: -1, Dir: -1, ToDir: 9, Name: "A", To: tooLong, Text: tooMany},
		{Kind: api.SCrash, P: math.MinInt, Dir: math.MaxInt, ToDir: 9, Name: "A", To: tooLong, Text: tooMany},
		{Kind: api.SMake, Dir: 2, Name: "d", P: -1, ToDir: 9, To: tooLong, Text: tooMany},
	} {
		l, m := lived(t, append(begun(), mk(2, "z"))...), lived(t, append(begun(), mk(2, "z"))...)
		take(t, l, x)
		take(t, m, api.Step{Kind: x.Kind, P: max(x.P, 0), Dir: max(x.Dir, 0), Name: x.Name})
		wantState(t, "the same", l, stateOf(m))
	}
}

// TestCodes: each code of each kind, in its order; and nothing is other then,
// the next Stamp neither, with room and without it, and behind a crash.
func TestCodes(t *testing.T) {
	for _, c := range []struct {
		what string
		x    api.Step
		code int
	}{
		{"write: below", wr(-1), api.ErrRange},
		{"write: beyond", wr(api.Blocks), api.ErrRange},
		{"write: least", wr(math.MinInt), api.ErrRange},
		{"write: greatest", wr(math.MaxInt), api.ErrRange},
		{"write: below, names and all", api.Step{Kind: api.SWrite, P: -2, Name: "a", To: "b"}, api.ErrRange},

		{"no kind", api.Step{}, api.ErrKind},
		{"kind below", api.Step{Kind: -1, Name: "a"}, api.ErrKind},
		{"kind beyond", api.Step{Kind: api.SCrash + 1, Name: "a"}, api.ErrKind},
		{"least kind", api.Step{Kind: math.MinInt, Name: "a"}, api.ErrKind},
		{"greatest kind", api.Step{Kind: math.MaxInt, Name: "a"}, api.ErrKind},
		{"kind ahead of all", api.Step{Kind: 10, Dir: -1, ToDir: -1, P: -1, Text: tooMany}, api.ErrKind},

		{"make: directory below", mk(-1, "q"), api.ErrRange},
		{"make: directory beyond", mk(api.Dirs, ""), api.ErrRange},
		{"make: no name", mk(0, ""), api.ErrName},
		{"make: long name", mk(0, tooLong), api.ErrName},
		{"make: there", mk(1, "b"), api.ErrThere},

		{"link: directory", ln(-1, "b", 1, "q"), api.ErrRange},
		{"link: name", ln(1, "B", 9, "q"), api.ErrName},
		{"link: target directory", ln(1, "b", math.MaxInt, ""), api.ErrRange},
		{"link: target name", ln(1, "b", 1, ""), api.ErrName},
		{"link: none", ln(1, "q", 1, "b"), api.ErrNone},
		{"link: there", ln(1, "b", 1, "c"), api.ErrThere},
		{"link: itself", ln(1, "b", 1, "b"), api.ErrThere},

		{"unlink: directory", rm(api.Dirs, "b"), api.ErrRange},
		{"unlink: name", rm(1, "b\x00"), api.ErrName},
		{"unlink: none", rm(1, "q"), api.ErrNone},

		{"rename: directory", mv(math.MinInt, "b", 1, "q"), api.ErrRange},
		{"rename: name", mv(1, "", 9, "q"), api.ErrName},
		{"rename: target directory", mv(1, "b", -1, "q"), api.ErrRange},
		{"rename: target name", mv(1, "b", 1, tooLong), api.ErrName},
		{"rename: none", mv(2, "b", 1, "c"), api.ErrNone},
		{"rename: there", mv(1, "b", 1, "c"), api.ErrThere},
		{"rename: itself", mv(1, "b", 1, "b"), api.ErrThere},

		{"put: directory", put(-1, "b", 0, "x"), api.ErrRange},
		{"put: name", put(1, "", -1, "x"), api.ErrName},
		{"put: part below", put(1, "b", -1, tooMany), api.ErrRange},
		{"put: part beyond", put(1, "b", api.Parts, "x"), api.ErrRange},
		{"put: long", put(1, "q", 0, tooMany), api.ErrLong},
		{"put: none", put(1, "q", 0, most), api.ErrNone},

		{"cut: directory", cut(api.Dirs, "b", 0), api.ErrRange},
		{"cut: name", cut(1, "bB", -1), api.ErrName},
		{"cut: part below", cut(1, "b", -1), api.ErrRange},
		{"cut: part beyond", cut(1, "q", api.Parts), api.ErrRange},
		{"cut: none", cut(1, "q", 0), api.ErrNone},
	} {
		for _, ahead := range [][]api.Step{begun(), append(begun(), mk(2, "d"), put(1, "b", 1, "z")), crashed()} {
			wantCode(t, c.what, ahead, c.x, c.code)
		}
	}
}

// wantCode: has the step that code, and is all as without it?
func wantCode(t *testing.T, what string, ahead []api.Step, x api.Step, code int) {
	t.Helper()
	l, without := lived(t, ahead...), lived(t, ahead...)
	if got := l.Step(x); got != code {
		t.Errorf("%s: Step(%+v) is %d, want %d", what, x, got, code)
	}
	wantState(t, what, l, stateOf(without))
	// The last Stamp is seen when a file is made.
	for _, y := range []api.Step{rm(0, "na"), sync, mk(0, "na"), mk(2, "stamp")} {
		if l.Step(y) != without.Step(y) {
			t.Errorf("%s: Step(%+v) is another one behind it", what, y)
		}
		wantState(t, what+", and on", l, stateOf(without))
	}
}

// TestNoRoom: ErrFull of each kind that has it, and till when.
func TestNoRoom(t *testing.T) {
	full := append(crowded(), sync)
	for _, c := range []struct {
		what  string
		ahead []api.Step
		x     api.Step
	}{
		{"no inode", crowded(), mk(2, "x")},
		{"no inode, written", full, mk(2, "x")},
		{"no inode till it is written", append(full, rm(0, "na")), mk(2, "x")},
		{"no slot for a link", crowded(), ln(0, "na", 1, "x")},
		{"no slot for a new name", full, mv(0, "na", 0, "x")},
		{"no data", crowded(), put(1, "nh", 0, "x")},
		{"no data till it is written", append(full, cut(0, "na", 0)), put(1, "nh", 0, "x")},
		{"the name lies there still: make", append(begun(), rm(0, "a")), mk(0, "a")},
		{"the name lies there still: link", append(begun(), rm(0, "a")), ln(1, "c", 0, "a")},
		{"the name lies there still: rename", append(begun(), mv(0, "a", 0, "d")), mv(0, "d", 0, "a")},
	} {
		wantCode(t, c.what, c.ahead, c.x, api.ErrFull)
	}
	// A crash takes the waiting away: what lies there is all there is.
	l := lived(t, append(begun(), rm(0, "a"), rm(1, "b"), wr(dirs), wr(dirs+1), crash)...)
	take(t, l, mk(0, "a"), ln(0, "a", 1, "b"))
	l = lived(t, append(crowded(), crash)...)
	take(t, l, crowded()...)
}

// TestSyncBehindEachKind: its code is 0, both are the same then, and a crash
// has the same names, files and texts.
func TestSyncBehindEachKind(t *testing.T) {
	for _, steps := range [][]api.Step{
		nil, {sync}, {crash},
		{mk(2, "d")}, {ln(0, "a", 2, "d")}, {rm(0, "a")}, {rm(1, "c")}, {rm(0, "a"), rm(1, "b")},
		{mv(0, "a", 0, "d")}, {mv(1, "c", 2, "c")}, {put(1, "c", 1, "z")}, {put(1, "c", 0, "z")},
		{cut(0, "a", 0)}, {cut(0, "a", 0), put(0, "a", 0, "z")}, {wr(inodes)}, {mk(2, "d"), wr(dirs + 2)},
		{mk(2, "d"), put(2, "d", 0, "z"), ln(2, "d", 0, "d"), rm(2, "d"), mv(0, "a", 2, "a"), cut(1, "c", 1), wr(inodes), wr(datas)},
	} {
		l := lived(t, append(begun(), steps...)...)
		now := l.Now
		if code := l.Step(sync); code != 0 {
			t.Errorf("behind %+v: Sync is %d", steps, code)
		}
		if l.Now != now || l.Disk() != now || !l.Clean() {
			t.Errorf("behind %+v: Sync left %+v, Disk %+v, was %+v", steps, l.Now, l.Disk(), now)
		}
		wantCrash(t, "behind Sync", l)
		if l.Now.Dir != now.Dir || l.Now.Inode != now.Inode || l.Lost().Files != 0 || l.Lost().Counts != 0 {
			t.Errorf("behind %+v, Sync and a crash it is %+v, was %+v; lost %+v", steps, l.Now, now, l.Lost())
		}
		wantTexts(t, "behind Sync", l, &now)
	}
	l := life.New()
	if l.Step(sync) != 0 || l.Step(sync) != 0 {
		t.Errorf("Sync of a new one has a code")
	}
	wantState(t, "Sync of a new one", l, state{now: image.New(), disk: image.New()})
}

// TestLifeIsFiles: what files are asked may be asked of it, ahead of a crash
// and behind it; Do is soft's, which has no other kinds.
func TestLifeIsFiles(t *testing.T) {
	l := life.New()
	for range 3 {
		if code := l.Do(mk(1, "a")); code != 0 {
			t.Errorf("Do is %d", code)
		}
		if !l.Dirty(inodes) || !l.Dirty(dirs+1) || l.Dirty(dirs) || l.Clean() || l.Sure(1, "a") || l.Slot(1) != 1 || l.Inode() != 1 || l.Data() != 0 {
			t.Errorf("Now is %+v, Disk %+v", l.Now, l.Disk())
		}
		if !l.Write(inodes) || l.Write(api.Blocks) || l.Sync() != 1 || !l.Same(1, "a", 1, "a") || !l.Sure(1, "a") {
			t.Errorf("written, Now is %+v, Disk %+v", l.Now, l.Disk())
		}
		for _, x := range []api.Step{wr(0), sync, crash} {
			if code := l.Do(x); code != api.ErrKind {
				t.Errorf("Do(%+v) is %d", x, code)
			}
		}
		take(t, l, rm(1, "a"), wr(dirs+1), crash)
		wantState(t, "behind the crash", l, state{now: image.New(), disk: image.New(), crashes: l.Crashes(), lost: mend.Lost{Files: 1}})
	}
	wantToll(t, "three times", l, 3, mend.Lost{Files: 1})
}

// TestApart: what is asked of one life is nothing to another one.
func TestApart(t *testing.T) {
	l, m, still := life.New(), life.New(), lived(t, crashed()...)
	was := stateOf(still)
	for _, x := range crashed() {
		take(t, l, x)
		take(t, m, mk(0, "a"), rm(0, "a"))
	}
	wantState(t, "the same steps", l, stateOf(lived(t, crashed()...)))
	wantState(t, "made and unlinked", m, state{now: image.New(), disk: image.New()})
	wantState(t, "asked nothing", still, was)
	take(t, m, sync, crash, crash)
	wantToll(t, "the one", l, 1, mend.Lost{Files: 1, Counts: 1, Datas: 1})
	wantToll(t, "the other", m, 2, mend.Lost{})
	wantToll(t, "the third", still, 1, mend.Lost{Files: 1, Counts: 1, Datas: 1})
	wantStamp(t, "the one", l, 3)
	wantStamp(t, "the other", m, 1)
}

// TestCopies: what was answered is the caller's.
func TestCopies(t *testing.T) {
	l := lived(t, begun()...)
	was := stateOf(l)
	disk, names, lost := l.Disk(), l.List(1), l.Lost()
	disk.Inode[0], disk.Dir[0][0], disk.Data[0] = api.Inode{}, api.Entry{}, api.Data{}
	names[0], names[1], lost.Files = "spoilt", "spoilt", 9
	wantState(t, "spoilt", l, was)
	wantList(t, "spoilt", l, 1, "b", "c")
	names = l.List(1)
	take(t, l, rm(1, "b"), sync, crash)
	if !slices.Equal(names, []string{"b", "c"}) {
		t.Errorf("an answer of List changed: %q", names)
	}
}
