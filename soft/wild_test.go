package soft_test

import (
	"slices"
	"testing"

	"eiderdown/api"
	"eiderdown/ideal"
	"eiderdown/image"
	"eiderdown/soft"
)

// dice tells numbers by a fixed rule, so that each run sees the same steps.
type dice uint64

func (d *dice) below(n int) int {
	*d = *d*6364136223846793005 + 1442695040888963407
	return int(uint64(*d)>>33) % n
}

func (d *dice) text(list ...string) string { return list[d.below(len(list))] }

// names are those that the steps are about.
var names = []string{"a", "b", "ab", "ba", "c"}

// all are steps of all kinds; of growing, more comes than goes, so that there is
// no room for data, too.
var (
	all     = []int{api.SMake, api.SMake, api.SLink, api.SUnlink, api.SRename, api.SPut, api.SPut, api.SCut}
	growing = append([]int{api.SMake, api.SMake, api.SMake, api.SPut, api.SPut, api.SPut, api.SPut, api.SPut, api.SPut}, all...)
)

// step is right for the most part; a bad one may be wrong in several ways.
func (d *dice) step(kinds []int) api.Step {
	x := api.Step{
		Kind:  kinds[d.below(len(kinds))],
		Dir:   d.below(api.Dirs),
		ToDir: d.below(api.Dirs),
		P:     d.below(api.Parts),
		Name:  d.text(names...),
		To:    d.text(names...),
		Text:  d.text("", "x", "yy", most),
	}
	for d.below(8) == 0 {
		switch d.below(7) {
		case 0:
			x.Kind = d.below(12) - 1
		case 1:
			x.Dir = d.below(9) - 3
		case 2:
			x.ToDir = d.below(9) - 3
		case 3:
			x.P = d.below(9) - 3
		case 4:
			x.Name = d.text("", "A", tooLong, "\xff")
		case 5:
			x.To = d.text("", "A", tooLong, "\xff")
		case 6:
			x.Text = tooMany
		}
	}
	return x
}

// twin is files, told a second time: by what is taken, in Now or on the disk.
type twin struct {
	now, disk api.Image
	last      int
}

func twinOf(m api.Image) *twin {
	w := &twin{now: m, disk: m}
	for _, i := range m.Inode {
		if i.Stamp > w.last {
			w.last = i.Stamp
		}
	}
	return w
}

func firstOpen(taken []bool) int { return slices.Index(taken, false) }

func (w *twin) inode() int {
	var taken [api.Inodes]bool
	for n := range taken {
		taken[n] = w.now.Inode[n].Live
	}
	for _, dir := range w.disk.Dir {
		for _, e := range dir {
			if e.Name != "" {
				taken[e.Ino] = true
			}
		}
	}
	return firstOpen(taken[:])
}

// slot is where a new name comes to; -1: there is none, or no such name may.
func (w *twin) slot(d int, name string) int {
	var taken [api.Slots]bool
	for s := range taken {
		old, is := w.disk.Dir[d][s].Name, w.now.Dir[d][s].Name
		if old == name {
			return -1
		}
		taken[s] = old != "" || is != ""
	}
	return firstOpen(taken[:])
}

func (w *twin) data() int {
	var taken [api.Datas]bool
	for _, i := range slices.Concat(w.now.Inode[:], w.disk.Inode[:]) {
		for _, p := range i.Part {
			if i.Live && p >= 0 {
				taken[p] = true
			}
		}
	}
	return firstOpen(taken[:])
}

// at is the slot and the inode of a name that is there.
func (w *twin) at(d int, name string) (int, int) {
	for s, e := range w.now.Dir[d] {
		if e.Name == name {
			return s, e.Ino
		}
	}
	return -1, -1
}

func (w *twin) there(d int, name string) bool {
	if d < 0 || d > 2 || name == "" {
		return false
	}
	s, _ := w.at(d, name)
	return s >= 0
}

// do takes a step that a world took; false: there is no room.
func (w *twin) do(x api.Step) bool {
	now := w.now
	old, n := w.at(x.Dir, x.Name)
	switch x.Kind {
	case api.SMake:
		n = w.inode()
		s := w.slot(x.Dir, x.Name)
		if n < 0 || s < 0 {
			return false
		}
		w.last++
		now.Inode[n] = api.Inode{Live: true, Stamp: w.last, Links: 1, Part: [api.Parts]int{-1, -1}}
		now.Dir[x.Dir][s] = api.Entry{Name: x.Name, Ino: n, Stamp: w.last}
	case api.SLink, api.SRename:
		s := w.slot(x.ToDir, x.To)
		if s < 0 {
			return false
		}
		now.Dir[x.ToDir][s] = api.Entry{Name: x.To, Ino: n, Stamp: now.Inode[n].Stamp}
		if x.Kind == api.SRename {
			now.Dir[x.Dir][old] = api.Entry{}
		} else {
			now.Inode[n].Links++
		}
	case api.SUnlink:
		now.Dir[x.Dir][old] = api.Entry{}
		now.Inode[n].Links--
		if image.Refs(&now, n) == 0 {
			now.Inode[n] = api.Inode{Part: [api.Parts]int{-1, -1}}
		}
	case api.SPut:
		if now.Inode[n].Part[x.P] == -1 {
			now.Inode[n].Part[x.P] = w.data()
		}
		if now.Inode[n].Part[x.P] == -1 {
			return false
		}
		now.Data[now.Inode[n].Part[x.P]] = api.Data{Of: now.Inode[n].Stamp, Text: x.Text}
	case api.SCut:
		now.Inode[n].Part[x.P] = -1
	}
	w.now = now
	return true
}

// stepsOf are the steps by which a world comes to have what lies on a disk.
func stepsOf(m *api.Image) []api.Step {
	var steps []api.Step
	var home [api.Inodes]*api.Step
	for d := range m.Dir {
		for _, e := range m.Dir[d] {
			if e.Name == "" {
				continue
			}
			if first := home[e.Ino]; first != nil {
				steps = append(steps, ln(first.Dir, first.Name, d, e.Name))
				continue
			}
			x := mk(d, e.Name)
			home[e.Ino] = &x
			steps = append(steps, x)
			for p, k := range m.Inode[e.Ino].Part {
				if k >= 0 {
					steps = append(steps, put(d, e.Name, p, m.Data[k].Text))
				}
			}
		}
	}
	return steps
}

// held is files that are held against a world and a twin.
type held struct {
	f     *soft.Files
	world *ideal.World
	twin  *twin
	steps []api.Step // those that the world took
	exact bool       // is Now to be so?
}

func hold(t *testing.T, m api.Image) *held {
	t.Helper()
	h := &held{f: of(t, m), twin: twinOf(m), steps: stepsOf(&m), exact: image.Exact(&m)}
	h.world = h.again(t)
	return h
}

// again is a second world that took the same steps.
func (h *held) again(t *testing.T) *ideal.World {
	t.Helper()
	w := ideal.New()
	for _, x := range h.steps {
		if code := w.Do(x); code != 0 {
			t.Fatalf("a world's Do(%+v) is %d", x, code)
		}
	}
	return w
}

// do takes the step with all of them, if there is room; the code.
func (h *held) do(t *testing.T, x api.Step) int {
	t.Helper()
	want := h.world.Do(x)
	if want == 0 && !h.twin.do(x) {
		// The world has no such bound: its step is not to be.
		want = api.ErrFull
		h.world = h.again(t)
	} else if want == 0 {
		h.steps = append(h.steps, x)
	}
	if got := h.f.Do(x); got != want {
		t.Errorf("Do(%+v) is %d, want %d", x, got, want)
	}
	return want
}

// write writes a block, or all of them, to both disks.
func (h *held) write(b int) {
	h.f.Write(b)
	h.twin.disk = h.f.Disk()
}

// compare holds all that files tell against the world and the twin.
func (h *held) compare(t *testing.T) {
	t.Helper()
	f, disk := h.f, h.f.Disk()
	wantBoth(t, f, h.twin.now, h.twin.disk)
	if image.Check(&disk) != 0 || image.Check(&f.Now) != 0 || h.exact && !image.Exact(&f.Now) {
		t.Errorf("codes %d, %d, Now is %+v, Disk %+v", image.Check(&disk), image.Check(&f.Now), f.Now, disk)
	}
	asked := append([]string{"", "A"}, names...)
	for d := -1; d <= api.Dirs; d++ {
		wantList(t, f, d, h.world.List(d)...)
		for _, s := range asked {
			for p := -1; p <= api.Parts; p++ {
				text, there, code := h.world.Read(d, s, p)
				wantRead(t, f, d, s, p, text, there, code)
			}
			for e := range api.Dirs {
				for _, u := range names {
					wantSame(t, f, d, s, e, u, h.world.Same(d, s, e, u))
				}
			}
			sure := false
			if h.twin.there(d, s) {
				at, _ := h.twin.at(d, s)
				sure = disk.Dir[d][at] == f.Now.Dir[d][at]
			}
			wantSure(t, f, d, s, sure)
		}
	}
}

// TestManySteps: whatever steps are taken, whichever blocks are written and
// wherever it is torn, files are those of a world that was given the same.
func TestManySteps(t *testing.T) {
	var told [api.SCut + 1][api.ErrLine + 1]int
	d := dice(5)
	for run := range 60 {
		h := hold(t, image.New())
		// Some runs write rarely, so that much is to be written at once.
		rare, kinds := 1+run%6, [][]int{all, growing}[run%2]
		for range 100 {
			x := d.step(kinds)
			code := h.do(t, x)
			if x.Kind >= api.SMake && x.Kind <= api.SCut {
				told[x.Kind][code]++
			} else {
				told[0][code]++
			}
			h.compare(t)
			if d.below(rare) == 0 {
				h.write(d.below(api.Blocks+4) - 2)
				h.compare(t)
			}
			switch d.below(60) {
			case 0:
				h.f.Sync()
				h.twin.disk = h.f.Disk()
			case 1:
				h = hold(t, h.f.Disk())
			}
			if t.Failed() {
				t.Fatalf("run %d: after %+v", run, x)
			}
		}
	}
	wantTold(t, &told)
}

// wantTold: was each code told of each kind that has it?
func wantTold(t *testing.T, told *[api.SCut + 1][api.ErrLine + 1]int) {
	t.Helper()
	for kind, codes := range [api.SCut + 1][]int{
		{api.ErrKind},
		{0, api.ErrRange, api.ErrName, api.ErrThere, api.ErrFull},
		{0, api.ErrRange, api.ErrName, api.ErrNone, api.ErrThere, api.ErrFull},
		{0, api.ErrRange, api.ErrName, api.ErrNone},
		{0, api.ErrRange, api.ErrName, api.ErrNone, api.ErrThere, api.ErrFull},
		{0, api.ErrRange, api.ErrName, api.ErrLong, api.ErrNone, api.ErrFull},
		{0, api.ErrRange, api.ErrName, api.ErrNone},
	} {
		for code, n := range told[kind] {
			if n > 0 != slices.Contains(codes, code) {
				t.Errorf("of the kind %d the code %d was told %d times", kind, code, n)
			}
		}
	}
}

// TestManyStepsOfAnyDisk: so it is from a disk with counts that are too high,
// files without names, and data that nothing holds.
func TestManyStepsOfAnyDisk(t *testing.T) {
	d := dice(6)
	for begun := 0; begun < 60; {
		m := d.disk()
		if image.Check(&m) != 0 {
			continue
		}
		begun++
		h := hold(t, m)
		for range 20 {
			x := d.step(all)
			h.do(t, x)
			h.compare(t)
			h.write(d.below(api.Blocks))
			h.compare(t)
			if t.Failed() {
				t.Fatalf("of %+v: after %+v", m, x)
			}
		}
	}
}

// disk is an image that for the most part may be mended, but is not exact.
func (d *dice) disk() api.Image {
	m := image.New()
	for k := range m.Data {
		m.Data[k] = api.Data{Of: d.below(12), Text: d.text("", "x", most)}
	}
	for n := range m.Inode {
		if d.below(2) == 0 {
			continue
		}
		m.Inode[n] = api.Inode{Live: true, Stamp: 8 - n, Links: d.below(3), Part: [api.Parts]int{-1, -1}}
		for k := range m.Data {
			if m.Data[k].Of == 8-n {
				m.Inode[n].Part[d.below(api.Parts)] = k
			}
		}
	}
	for k := range api.Dirs * api.Slots {
		n := d.below(api.Inodes)
		if m.Inode[n].Live && d.below(2) == 0 {
			m.Dir[k/api.Slots][k%api.Slots] = api.Entry{Name: names[k%api.Slots], Ino: n, Stamp: 8 - n}
			m.Inode[n].Links++
		}
	}
	return m
}

// TestAnswersHangOnWhatWasAsked: files of which the same is asked answer the
// same, whatever is asked of others between.
func TestAnswersHangOnWhatWasAsked(t *testing.T) {
	d := dice(7)
	f, g, other := soft.New(), soft.New(), soft.New()
	for range 600 {
		x, b := d.step(all), d.below(api.Blocks)
		code := f.Do(x)
		f.Write(b)
		other.Do(d.step(all))
		other.Write(d.below(api.Blocks))
		if again := g.Do(x); code != again {
			t.Fatalf("Do(%+v) is %d, and %d", x, code, again)
		}
		g.Write(b)
		wantBoth(t, g, f.Now, f.Disk())
	}
}

// TestNewFileComes: its name is written when its inode lies there.
func TestNewFileComes(t *testing.T) {
	f := after(t, mk(1, "a"))
	write(f, dir1)
	if f.Disk() != image.New() {
		t.Errorf("the name came ahead of its inode: %+v", f.Disk())
	}
	write(f, inodes, dir1)
	wantBoth(t, f, f.Now, f.Now)
}

// TestFileIsRenamed: it is counted twice, comes, goes, and is counted once;
// torn anywhere between it has one name, or both.
func TestFileIsRenamed(t *testing.T) {
	f := synced(t, mk(1, "a"), put(1, "a", 0, "x"))
	take(t, f, mv(1, "a", 0, "b"))
	for _, c := range []struct {
		b, links  int
		old, next bool
	}{
		{dir1, 1, true, false}, {dir0, 1, true, false}, {inodes, 2, true, false}, {dir1, 2, true, false},
		{dir0, 2, true, true}, {inodes, 2, true, true}, {dir1, 2, false, true}, {inodes, 1, false, true},
	} {
		write(f, c.b)
		disk := f.Disk()
		if links := disk.Inode[0].Links; links != c.links {
			t.Errorf("behind block %d it counts %d, want %d", c.b, links, c.links)
		}
		torn := of(t, disk)
		wantSure(t, torn, 1, "a", c.old)
		wantSure(t, torn, 0, "b", c.next)
		wantSure(t, f, 1, "a", false)
		wantSure(t, f, 0, "b", c.next)
		wantRead(t, f, 0, "b", 0, "x", true, 0)
	}
	wantBoth(t, f, f.Now, f.Now)
}

// TestNameWent: it lies on the disk still, so that a new file of that name in
// that directory has no room till the directory is written.
func TestNameWent(t *testing.T) {
	f := synced(t, mk(1, "a"))
	take(t, f, rm(1, "a"))
	wantCode(t, f, mk(1, "a"), api.ErrFull)
	write(f, inodes)
	wantCode(t, f, mk(1, "a"), api.ErrFull)
	write(f, dir1)
	wantDo(t, f, mk(1, "a"), file(0, 2, 1, -1, -1), entry(1, 0, "a", 0, 2))
}
