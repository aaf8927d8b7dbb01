package life_test

import (
	"slices"
	"strings"
	"testing"

	"eiderdown/api"
	"eiderdown/image"
	"eiderdown/life"
	"eiderdown/mend"
)

// anew tells what is mended a second time: it starts with nothing, and takes
// over what names lead to. The image is one that may be mended.
func anew(m *api.Image) (api.Image, mend.Lost) {
	made := image.New()
	made.Dir = m.Dir
	for _, dir := range m.Dir {
		for _, e := range dir {
			if e.Name == "" {
				continue
			}
			count := made.Inode[e.Ino].Links + 1
			made.Inode[e.Ino] = m.Inode[e.Ino]
			made.Inode[e.Ino].Links = count
			for _, x := range m.Inode[e.Ino].Part {
				if x != -1 {
					made.Data[x] = m.Data[x]
				}
			}
		}
	}
	var lost mend.Lost
	for n, i := range m.Inode {
		switch {
		case i.Live && !made.Inode[n].Live:
			lost.Files++
		case i.Links != made.Inode[n].Links:
			lost.Counts++
		}
	}
	for x, k := range m.Data {
		if k != made.Data[x] {
			lost.Datas++
		}
	}
	return made, lost
}

// newest is the greatest Stamp of the inodes.
func newest(m *api.Image) int {
	stamp := 0
	for _, i := range m.Inode {
		stamp = max(stamp, i.Stamp)
	}
	return stamp
}

// wantTexts: has the life the names of the image, and the texts to which they
// lead there?
func wantTexts(t *testing.T, what string, l *life.Life, m *api.Image) {
	t.Helper()
	for d := range m.Dir {
		var names []string
		for _, e := range m.Dir[d] {
			if e.Name == "" {
				continue
			}
			names = append(names, e.Name)
			for p, x := range m.Inode[e.Ino].Part {
				if x == -1 {
					wantText(t, what, l, d, e.Name, p)
				} else {
					wantText(t, what, l, d, e.Name, p, m.Data[x].Text)
				}
			}
		}
		slices.Sort(names)
		wantList(t, what, l, d, names...)
	}
}

// wantCrash crashes: it has no code, and goes on with what lay on the disk,
// mended.
func wantCrash(t *testing.T, what string, l *life.Life) {
	t.Helper()
	disk, crashes := l.Disk(), l.Crashes()
	want, lost := anew(&disk)
	if code := l.Step(crash); code != 0 {
		t.Fatalf("%s: it may not be mended: %d: %+v", what, code, disk)
	}
	wantState(t, what, l, state{want, want, crashes + 1, lost})
	wantTexts(t, what, l, &disk)
	if !l.Clean() || !image.Exact(&l.Now) {
		t.Errorf("%s: it is not clean, or not exact: %+v", what, l.Now)
	}
}

// TestCrash: what is lost when it crashes behind some blocks.
func TestCrash(t *testing.T) {
	for _, c := range []struct {
		what   string
		steps  []api.Step
		blocks []int
		lost   mend.Lost
		stamp  int
	}{
		{"nothing was done", nil, nil, mend.Lost{}, 3},
		{"nothing was written", []api.Step{mk(2, "d"), put(2, "d", 0, "z"), rm(0, "a"), cut(1, "c", 1), mv(1, "b", 2, "b")}, nil, mend.Lost{}, 3},
		{"a name did not come", []api.Step{mk(2, "d")}, []int{dirs + 2, inodes}, mend.Lost{Files: 1}, 3},
		{"a name came", []api.Step{mk(2, "d")}, []int{inodes, dirs + 2}, mend.Lost{}, 4},
		{"a name came behind others", []api.Step{mk(2, "e"), rm(2, "e"), mk(2, "d")}, []int{inodes, dirs + 2}, mend.Lost{}, 5},
		{"a name and its part did not come", []api.Step{mk(2, "d"), put(2, "d", 0, "z")}, []int{datas + 2, inodes}, mend.Lost{Files: 1, Datas: 1}, 3},
		{"a part did not come", []api.Step{put(1, "c", 0, "z")}, []int{inodes, datas + 2}, mend.Lost{Datas: 1}, 3},
		{"a part came", []api.Step{put(1, "c", 0, "z")}, []int{datas + 2, inodes}, mend.Lost{}, 3},
		{"another name did not come", []api.Step{ln(1, "c", 2, "d")}, []int{dirs + 2, inodes}, mend.Lost{Counts: 1}, 3},
		{"one of two names went", []api.Step{rm(0, "a")}, []int{dirs}, mend.Lost{Counts: 1}, 3},
		{"the last name of the newest went", []api.Step{rm(1, "c")}, []int{dirs + 1}, mend.Lost{Files: 1, Datas: 1}, 2},
		{"that and its inode went", []api.Step{rm(1, "c")}, []int{dirs + 1, inodes}, mend.Lost{Datas: 1}, 2},
		{"all names went", []api.Step{rm(1, "c"), rm(0, "a"), rm(1, "b")}, []int{dirs + 1, dirs}, mend.Lost{Files: 2, Datas: 2}, 1},
		{"a part was cut", []api.Step{cut(0, "a", 0)}, []int{inodes}, mend.Lost{Datas: 1}, 3},
	} {
		l := lived(t, append(begun(), c.steps...)...)
		take(t, l, writes(c.blocks...)...)
		wantCrash(t, c.what, l)
		wantToll(t, c.what, l, 1, c.lost)
		wantStamp(t, c.what, l, c.stamp)
	}
}

func TestCrashOfANewLife(t *testing.T) {
	l := life.New()
	for n := range 3 {
		wantCrash(t, "new", l)
		wantState(t, "new", l, state{now: image.New(), disk: image.New(), crashes: n + 1})
	}
	wantStamp(t, "new", l, 1)
	wantCrash(t, "made, and not written", l)
	wantState(t, "made, and not written", l, state{now: image.New(), disk: image.New(), crashes: 4})
	wantStamp(t, "the Stamp is given again", l, 1)
}

// TestToll: both are of the crashes alone, and Lost of the last one.
func TestToll(t *testing.T) {
	l := life.New()
	wantToll(t, "new", l, 0, mend.Lost{})
	for _, x := range begun() {
		take(t, l, x)
		wantToll(t, "ahead of the first", l, 0, mend.Lost{})
	}
	for n, c := range []struct {
		steps []api.Step
		lost  mend.Lost
	}{
		{[]api.Step{mk(2, "d"), put(2, "d", 0, "z"), wr(datas + 2), wr(inodes)}, mend.Lost{Files: 1, Datas: 1}},
		{[]api.Step{ln(1, "c", 2, "d"), wr(inodes)}, mend.Lost{Counts: 1}},
		{nil, mend.Lost{}},
		{[]api.Step{cut(1, "c", 1), mk(2, "f"), mk(2, "g"), wr(inodes)}, mend.Lost{Files: 2, Datas: 1}},
		{[]api.Step{put(0, "a", 1, "v"), mk(2, "d"), sync}, mend.Lost{}},
		{[]api.Step{rm(0, "a"), rm(1, "b"), wr(dirs), wr(dirs + 1)}, mend.Lost{Files: 1, Datas: 2}},
		{[]api.Step{rm(2, "d"), mk(1, "x"), sync, mk(1, "y")}, mend.Lost{}},
	} {
		ahead := l.Lost()
		for _, x := range append(c.steps, wr(datas)) {
			take(t, l, x)
			wantToll(t, "between", l, n, ahead)
		}
		for _, x := range []api.Step{mk(2, ""), wr(-1), {Kind: 10}, rm(2, "none")} {
			if l.Step(x) == 0 {
				t.Errorf("Step(%+v) is 0", x)
			}
			wantToll(t, "behind a code", l, n, ahead)
		}
		wantCrash(t, "a crash", l)
		wantToll(t, "behind a crash", l, n+1, c.lost)
	}
}

// TestTwiceInARow: what was mended has nothing to be mended.
func TestTwiceInARow(t *testing.T) {
	l := lived(t, crashed()...)
	wantToll(t, "once", l, 1, mend.Lost{Files: 1, Counts: 1, Datas: 1})
	was := l.Now
	wantCrash(t, "twice", l)
	wantState(t, "twice", l, state{was, was, 2, mend.Lost{}})
	wantCrash(t, "three times", l)
	wantState(t, "three times", l, state{was, was, 3, mend.Lost{}})
	take(t, l, sync)
	wantState(t, "and Sync", l, state{was, was, 3, mend.Lost{}})
}

// TestDiskThatMayNotBeMended: no step leads there, so that Now is set here, as
// it may not be of a life. The code is told, and all goes on as it was.
func TestDiskThatMayNotBeMended(t *testing.T) {
	for _, c := range []struct {
		set  func(m *api.Image)
		b    int
		code int
	}{
		{func(m *api.Image) { m.Data[1].Of = 9 }, datas + 1, api.ErrData},
		{func(m *api.Image) { m.Inode[1].Stamp = 9 }, inodes, api.ErrLink},
	} {
		l := lived(t, crashed()...)
		take(t, l, put(1, "c", 0, "w"), put(1, "c", 1, "w"), sync)
		c.set(&l.Now)
		take(t, l, wr(c.b), mk(2, "g"))
		was := stateOf(l)
		for range 2 {
			if code := l.Step(crash); code != c.code {
				t.Errorf("the crash is %d, want %d", code, c.code)
			}
			wantState(t, "behind a code", l, was)
		}
		take(t, l, mk(2, "h"))
		if last := l.Now.Inode[3].Stamp; last != 4 {
			t.Errorf("the next Stamp is %d", last)
		}
	}
}

// busy has something of each kind that is not written.
func busy() []api.Step {
	return append(begun(), mk(2, "d"), put(2, "d", 0, "z"), mv(0, "a", 2, "a"), cut(1, "c", 1), put(1, "c", 0, "w"),
		rm(1, "b"), ln(2, "d", 0, "e"), mk(0, "f"), put(0, "f", 1, "v"))
}

// TestManyOrders: blocks are written in whatever order, and it crashes behind
// each one.
func TestManyOrders(t *testing.T) {
	d := dice(1)
	for range 400 {
		var blocks []int
		for range 2 {
			blocks = append(blocks, d.shuffled(api.Blocks)...)
		}
		n := d.below(len(blocks) + 1)
		l := lived(t, busy()...)
		take(t, l, writes(blocks[:n]...)...)
		disk := l.Disk()
		wantCrash(t, "in some order", l)
		wantStamp(t, "in some order", l, newestNamed(&disk)+1)
		if t.Failed() {
			t.Fatalf("behind the blocks %v", blocks[:n])
		}
	}
}

// newestNamed is the greatest Stamp to which a name leads.
func newestNamed(m *api.Image) int {
	stamp := 0
	for _, dir := range m.Dir {
		for _, e := range dir {
			stamp = max(stamp, e.Stamp)
		}
	}
	return stamp
}

// eachWay asks of each list of up to n numbers of those.
func eachWay(n int, of []int, ask func(list []int)) {
	var grow func(list []int)
	grow = func(list []int) {
		ask(list)
		if len(list) == n {
			return
		}
		for _, b := range of {
			grow(append(slices.Clone(list), b))
		}
	}
	grow(nil)
}

// TestRenamedInTurn: it is counted twice, comes, goes, and is counted once;
// and what is lost, torn between.
func TestRenamedInTurn(t *testing.T) {
	old, next := dirs, dirs+2
	for _, c := range []struct {
		blocks    []int
		old, next bool
		lost      mend.Lost
	}{
		{nil, true, false, mend.Lost{}},
		{[]int{next, old}, true, false, mend.Lost{}},
		{[]int{inodes}, true, false, mend.Lost{Counts: 1}},
		{[]int{inodes, old}, true, false, mend.Lost{Counts: 1}},
		{[]int{inodes, next}, true, true, mend.Lost{}},
		{[]int{inodes, next, inodes}, true, true, mend.Lost{}},
		{[]int{inodes, next, old}, false, true, mend.Lost{Counts: 1}},
		{[]int{inodes, next, old, next}, false, true, mend.Lost{Counts: 1}},
		{[]int{inodes, next, old, inodes}, false, true, mend.Lost{}},
	} {
		l := lived(t, mk(0, "a"), put(0, "a", 1, "x"), sync, mv(0, "a", 2, "b"))
		take(t, l, writes(c.blocks...)...)
		wantCrash(t, "renamed", l)
		wantToll(t, "renamed", l, 1, c.lost)
		if has := len(l.List(0)) == 1; has != c.old {
			t.Errorf("behind %v: is the old name there? %v", c.blocks, has)
		}
		if has := len(l.List(2)) == 1; has != c.next {
			t.Errorf("behind %v: is the new name there? %v", c.blocks, has)
		}
		wantStamp(t, "renamed", l, 2)
	}
}

// TestRenamedAndTorn: in whatever order blocks are written, and wherever it
// crashes, the file is there by its old name, its new one, or both.
func TestRenamedAndTorn(t *testing.T) {
	every := make([]int, api.Blocks)
	for b := range every {
		every[b] = b
	}
	for _, to := range []int{0, 1, 2} {
		seen := map[string]int{}
		ask := func(blocks []int) {
			l := lived(t, mk(1, "z"), put(1, "z", 0, "other"), mk(1, "a"), put(1, "a", 0, "x"), put(1, "a", 1, "y"), sync, mv(1, "a", to, "b"))
			take(t, l, writes(blocks...)...)
			wantCrash(t, "renamed", l)
			seen[wantRenamed(t, l, to)]++
			if l.Lost().Files != 0 || l.Lost().Datas != 0 {
				t.Errorf("it lost %+v", l.Lost())
			}
			if t.Failed() {
				t.Fatalf("behind the blocks %v", blocks)
			}
		}
		eachWay(2, every, ask)
		eachWay(6, slices.Compact([]int{inodes, dirs + 1, dirs + to}), ask)
		if seen["a"] == 0 || seen["b"] == 0 || seen["ab"] == 0 {
			t.Errorf("to the directory %d: it was seen by %v", to, seen)
		}
	}
}

// wantRenamed: has the file one of its names, or both, and what was put into
// it? Which ones it has.
func wantRenamed(t *testing.T, l *life.Life, to int) string {
	t.Helper()
	names := ""
	for _, n := range []struct {
		d int
		s string
	}{{1, "a"}, {to, "b"}} {
		if slices.Contains(l.List(n.d), n.s) {
			names += n.s
			wantText(t, "renamed", l, n.d, n.s, 0, "x")
			wantText(t, "renamed", l, n.d, n.s, 1, "y")
		}
	}
	if names == "" || names == "ab" && !l.Same(1, "a", to, "b") {
		t.Errorf("it has no name, or is two files: %+v", l.Now)
	}
	wantText(t, "another file", l, 1, "z", 0, "other")
	return names
}

// TestPutCutPut: two files put and cut by turns, so that the data of one come
// to the other. Whatever is written between, and wherever it crashes, no text
// of another file is read.
func TestPutCutPut(t *testing.T) {
	turns := []api.Step{
		put(0, "a", 0, "a one"), cut(0, "a", 0), put(1, "b", 1, "b one"), put(0, "a", 0, "a two"), cut(1, "b", 1), put(0, "a", 1, "a three"),
	}
	none := api.Blocks
	seen := map[string]int{}
	eachWay(len(turns), []int{none, inodes, datas, datas + 1, api.Blocks + 1}, func(list []int) {
		l := lived(t, mk(0, "a"), mk(1, "b"), sync)
		for k, b := range list {
			take(t, l, turns[k])
			switch {
			case b < none:
				take(t, l, wr(b))
			case b > none:
				take(t, l, sync)
			}
		}
		wantCrash(t, "by turns", l)
		for p := range api.Parts {
			wantOwn(t, l, 0, "a", p, seen)
			wantOwn(t, l, 1, "b", p, seen)
		}
		if t.Failed() {
			t.Fatalf("behind %v", list)
		}
	})
	for _, text := range []string{"a one", "a two", "a three", "b one", ""} {
		if seen[text] < 20 {
			t.Errorf("%q was read %d times", text, seen[text])
		}
	}
}

// wantOwn: has the file a text of its own there, or none?
func wantOwn(t *testing.T, l *life.Life, d int, s string, p int, seen map[string]int) {
	t.Helper()
	text, there, code := l.Read(d, s, p)
	if code != 0 || there && !strings.HasPrefix(text, s) {
		t.Errorf("Read(%d, %q, %d) is %q, %v, %d", d, s, p, text, there, code)
	}
	seen[text]++
}

// TestPutAgain: a part put, cut and put again, torn at each block: it has the
// old text, the new one, or none; the old one may lie there for the new part,
// as it was put into the same file.
func TestPutAgain(t *testing.T) {
	for _, c := range []struct {
		what  string
		steps []api.Step
		texts []string
	}{
		{"put", []api.Step{put(0, "a", 0, "x")}, nil},
		{"the data alone", []api.Step{put(0, "a", 0, "x"), wr(datas)}, nil},
		{"the inode alone", []api.Step{put(0, "a", 0, "x"), wr(inodes)}, nil},
		{"both", []api.Step{put(0, "a", 0, "x"), wr(datas), wr(inodes)}, []string{"x"}},
		{"cut", []api.Step{put(0, "a", 0, "x"), sync, cut(0, "a", 0)}, []string{"x"}},
		{"cut, the data", []api.Step{put(0, "a", 0, "x"), sync, cut(0, "a", 0), wr(datas)}, []string{"x"}},
		{"cut, the inode", []api.Step{put(0, "a", 0, "x"), sync, cut(0, "a", 0), wr(inodes)}, nil},
		{"again, elsewhere", []api.Step{put(0, "a", 0, "x"), sync, cut(0, "a", 0), put(0, "a", 0, "y")}, []string{"x"}},
		{"again, elsewhere, the inode", []api.Step{put(0, "a", 0, "x"), sync, cut(0, "a", 0), put(0, "a", 0, "y"), wr(inodes)}, []string{"x"}},
		{"again, elsewhere, the data", []api.Step{put(0, "a", 0, "x"), sync, cut(0, "a", 0), put(0, "a", 0, "y"), wr(datas + 1)}, []string{"x"}},
		{"again, elsewhere, both", []api.Step{put(0, "a", 0, "x"), sync, cut(0, "a", 0), put(0, "a", 0, "y"), wr(datas + 1), wr(inodes)}, []string{"y"}},
		{"again, there", []api.Step{put(0, "a", 0, "x"), sync, cut(0, "a", 0), wr(inodes), put(0, "a", 0, "y")}, nil},
		{"again, there, the inode", []api.Step{put(0, "a", 0, "x"), sync, cut(0, "a", 0), wr(inodes), put(0, "a", 0, "y"), wr(inodes)}, []string{"x"}},
		{"again, there, the data", []api.Step{put(0, "a", 0, "x"), sync, cut(0, "a", 0), wr(inodes), put(0, "a", 0, "y"), wr(datas)}, nil},
		{"again, there, both", []api.Step{put(0, "a", 0, "x"), sync, cut(0, "a", 0), wr(inodes), put(0, "a", 0, "y"), wr(inodes), wr(datas)}, []string{"y"}},
		{"by another file, the inode", []api.Step{put(1, "b", 0, "x"), sync, cut(1, "b", 0), wr(inodes), put(0, "a", 0, "y"), wr(inodes)}, nil},
		{"by another file, both", []api.Step{put(1, "b", 0, "x"), sync, cut(1, "b", 0), wr(inodes), put(0, "a", 0, "y"), wr(datas), wr(inodes)}, []string{"y"}},
		{"by a new file of the Stamp that was lost", []api.Step{mk(2, "c"), put(2, "c", 0, "x"), wr(datas), wr(inodes), crash,
			mk(2, "c"), put(2, "c", 0, "z"), wr(inodes), wr(dirs + 2), put(0, "a", 0, "y"), wr(datas + 1), wr(inodes)}, []string{"y"}},
	} {
		l := lived(t, append([]api.Step{mk(0, "a"), mk(1, "b"), sync}, c.steps...)...)
		wantCrash(t, c.what, l)
		wantText(t, c.what, l, 0, "a", 0, c.texts...)
		wantText(t, c.what, l, 0, "a", 1)
		if slices.Contains(l.List(2), "c") {
			wantText(t, c.what, l, 2, "c", 0)
		}
	}
}

// TestStampGivenAgain: a Stamp that was lost comes again, and nothing of the
// file that had it.
func TestStampGivenAgain(t *testing.T) {
	l := lived(t, mk(0, "a"), put(0, "a", 0, "x"), put(0, "a", 1, "y"), wr(datas), wr(datas+1), wr(inodes))
	wantCrash(t, "without its name", l)
	wantToll(t, "without its name", l, 1, mend.Lost{Files: 1, Datas: 2})
	take(t, l, mk(0, "a"), put(0, "a", 0, "z"), wr(inodes), wr(dirs))
	if got := l.Now.Inode[0].Stamp; got != 1 {
		t.Errorf("the Stamp is %d", got)
	}
	wantCrash(t, "again", l)
	wantList(t, "again", l, 0, "a")
	wantText(t, "again", l, 0, "a", 0)
	wantText(t, "again", l, 0, "a", 1)
}

// TestOldTextInTheOtherPart: a data that a file left comes to its other part;
// torn ahead of the new text, that part has the old one, which was put into
// that file all the same.
func TestOldTextInTheOtherPart(t *testing.T) {
	l := lived(t, mk(0, "a"), put(0, "a", 0, "x"), sync, cut(0, "a", 0), wr(inodes), put(0, "a", 1, "y"), wr(inodes))
	wantCrash(t, "torn", l)
	wantText(t, "torn", l, 0, "a", 0)
	wantText(t, "torn", l, 0, "a", 1, "x")
	wantToll(t, "torn", l, 1, mend.Lost{})
}
