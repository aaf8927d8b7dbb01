package life_test

import (
	"slices"
	"strconv"
	"testing"

	"eiderdown/api"
	"eiderdown/image"
	"eiderdown/life"
	"eiderdown/mend"
)

// dice tells numbers by a fixed rule, so that each run sees the same steps.
type dice uint64

func (d *dice) below(n int) int {
	*d = *d*6364136223846793005 + 1442695040888963407
	return int(uint64(*d)>>33) % n
}

func (d *dice) text(list ...string) string { return list[d.below(len(list))] }

// shuffled is the numbers below n in some order.
func (d *dice) shuffled(n int) []int {
	list := make([]int, n)
	for k := range list {
		at := d.below(k + 1)
		list[k] = list[at]
		list[at] = k
	}
	return list
}

// names are those that the steps are about.
var names = []string{"a", "b", "ab", "ba", "c"}

// Kinds of steps: all is of each; of growing, more comes than goes, so that
// there is no room for data, too; hasty crashes often.
var (
	all     = []int{1, 1, 1, 2, 2, 3, 3, 4, 4, 5, 5, 5, 6, 7, 7, 7, 7, 7, 7, 7, 7}
	growing = append([]int{1, 1, 1, 1, 5, 5, 5, 5, 5, 5, 5, 5, 5, 5}, all...)
	hasty   = append([]int{7, 7, 7, 7, 7, 7, 7, 7, 8, 9, 9}, all...)
)

// step is right for the most part; a bad one may be wrong in several ways. No
// text is put twice, but for the empty one: each tells where it came from.
func (d *dice) step(kinds []int, serial int) api.Step {
	x := api.Step{
		Kind:  kinds[d.below(len(kinds))],
		Dir:   d.below(api.Dirs),
		ToDir: d.below(api.Dirs),
		P:     d.below(api.Parts),
		Name:  d.text(names...),
		To:    d.text(names...),
		Text:  strconv.Itoa(serial),
	}
	if x.Kind == api.SWrite {
		x.P = d.below(api.Blocks)
	}
	if d.below(40) == 0 {
		x.Kind = api.SSync + d.below(2)
	}
	for d.below(10) == 0 {
		switch d.below(8) {
		case 0:
			x.Kind = d.below(14) - 2
		case 1:
			x.Dir = d.below(9) - 3
		case 2:
			x.ToDir = d.below(9) - 3
		case 3:
			x.P = d.below(23) - 4
		case 4:
			x.Name = d.text("", "A", tooLong, "\xff")
		case 5:
			x.To = d.text("", "A", tooLong, "\xff")
		case 6:
			x.Text = tooMany
		case 7:
			x.Text = ""
		}
	}
	return x
}

// twin is a life, told a second time, by two images alone.
type twin struct {
	now, disk     api.Image
	last, crashes int
	lost          mend.Lost
}

func newTwin() *twin { return &twin{now: image.New(), disk: image.New()} }

// step has the code of the step, or does it.
func (w *twin) step(x api.Step) int {
	switch x.Kind {
	case api.SWrite:
		if x.P < 0 || x.P > 13 {
			return api.ErrRange
		}
		w.write(x.P)
		return 0
	case api.SSync:
		for n := 0; n < 8*14 && (w.now != w.disk || n%14 != 0); n++ {
			w.write(13 - n%14)
		}
		return 0
	case api.SCrash:
		w.disk, w.lost = anew(&w.disk)
		w.now, w.last = w.disk, newest(&w.disk)
		w.crashes++
		return 0
	}
	if codes := w.codes(x); len(codes) > 0 {
		return codes[0]
	}
	if !w.do(x) {
		return api.ErrFull
	}
	return 0
}

func badSpot(d int, name string) int {
	if d < 0 || d > 2 {
		return api.ErrRange
	}
	if len(name) == 0 || len(name) > 6 || slices.ContainsFunc([]byte(name), func(b byte) bool { return b < 'a' || b > 'z' }) {
		return api.ErrName
	}
	return 0
}

// codes are all codes of a step of names and files, in their order; ErrFull is
// not one of them.
func (w *twin) codes(x api.Step) []int {
	if x.Kind < 1 || x.Kind > 6 {
		return []int{api.ErrKind}
	}
	two := x.Kind == api.SLink || x.Kind == api.SRename
	codes := []int{badSpot(x.Dir, x.Name)}
	if two {
		codes = append(codes, badSpot(x.ToDir, x.To))
	}
	if x.Kind >= api.SPut && x.P != 0 && x.P != 1 {
		codes = append(codes, api.ErrRange)
	}
	if x.Kind == api.SPut && len(x.Text) > 8 {
		codes = append(codes, api.ErrLong)
	}
	_, ino := at(&w.now, x.Dir, x.Name)
	if x.Kind != api.SMake && ino < 0 {
		codes = append(codes, api.ErrNone)
	}
	_, other := at(&w.now, x.ToDir, x.To)
	if x.Kind == api.SMake && ino >= 0 || two && other >= 0 {
		codes = append(codes, api.ErrThere)
	}
	return slices.DeleteFunc(codes, func(c int) bool { return c == 0 })
}

// at is the slot and the inode of a name; -1, -1: there is none.
func at(m *api.Image, d int, name string) (int, int) {
	if d < 0 || d > 2 || name == "" {
		return -1, -1
	}
	for s, e := range m.Dir[d] {
		if e.Name == name {
			return s, e.Ino
		}
	}
	return -1, -1
}

// refs is how many names of the image, or of the other one in the same slot,
// lead to the inode.
func refs(m, other *api.Image, ino int) int {
	count := 0
	for d := range m.Dir {
		for s := range m.Dir[d] {
			for _, e := range []api.Entry{m.Dir[d][s], other.Dir[d][s]} {
				if e.Name != "" && e.Ino == ino {
					count++
					break
				}
			}
		}
	}
	return count
}

// open is the first inode, slot and data that is free in both; -1: none. The
// slot is none, too, where the name lies there still.
func (w *twin) open(d int, name string) (int, int, int) {
	var inode [api.Inodes]bool
	var slot [api.Slots]bool
	var data [api.Datas]bool
	for n, i := range w.now.Inode {
		inode[n] = i.Live || refs(&w.disk, &w.disk, n) > 0
	}
	for s := range slot {
		slot[s] = w.now.Dir[d][s].Name != "" || w.disk.Dir[d][s].Name != ""
	}
	for _, i := range slices.Concat(w.now.Inode[:], w.disk.Inode[:]) {
		for _, p := range i.Part {
			if i.Live && p >= 0 {
				data[p] = true
			}
		}
	}
	free := slices.Index(slot[:], false)
	if s, _ := at(&w.disk, d, name); s >= 0 {
		free = -1
	}
	return slices.Index(inode[:], false), free, slices.Index(data[:], false)
}

// do does a step that has no other code; false: there is no room.
func (w *twin) do(x api.Step) bool {
	now := w.now
	old, n := at(&now, x.Dir, x.Name)
	switch x.Kind {
	case api.SMake:
		ino, s, _ := w.open(x.Dir, x.Name)
		if ino < 0 || s < 0 {
			return false
		}
		w.last++
		now.Inode[ino] = api.Inode{Live: true, Stamp: w.last, Links: 1, Part: [api.Parts]int{-1, -1}}
		now.Dir[x.Dir][s] = api.Entry{Name: x.Name, Ino: ino, Stamp: w.last}
	case api.SLink, api.SRename:
		_, s, _ := w.open(x.ToDir, x.To)
		if s < 0 {
			return false
		}
		now.Dir[x.ToDir][s] = api.Entry{Name: x.To, Ino: n, Stamp: now.Inode[n].Stamp}
		now.Inode[n].Links++
		if x.Kind == api.SRename {
			now.Dir[x.Dir][old] = api.Entry{}
			now.Inode[n].Links--
		}
	case api.SUnlink:
		now.Dir[x.Dir][old] = api.Entry{}
		now.Inode[n].Links--
		if now.Inode[n].Links == 0 {
			now.Inode[n] = api.Inode{Part: [api.Parts]int{-1, -1}}
		}
	case api.SPut:
		k := &now.Inode[n].Part[x.P]
		if *k < 0 {
			_, _, *k = w.open(0, "")
		}
		if *k < 0 {
			return false
		}
		now.Data[*k] = api.Data{Of: now.Inode[n].Stamp, Text: x.Text}
	case api.SCut:
		now.Inode[n].Part[x.P] = -1
	}
	w.now = now
	return true
}

// write brings a block to the disk, as far as it does no harm.
func (w *twin) write(b int) {
	switch {
	case b < 2:
		disk := w.disk
		for n := 4 * b; n < 4*b+4; n++ {
			disk.Inode[n] = w.inode(n)
		}
		w.disk = disk
	case b < 5:
		for s := range api.Slots {
			w.slot(b-2, s)
		}
	default:
		w.disk.Data[b-5] = w.now.Data[b-5]
	}
}

func (w *twin) inode(n int) api.Inode {
	i, old, links := w.now.Inode[n], w.disk.Inode[n], refs(&w.now, &w.disk, n)
	if !i.Live && (!old.Live || links == 0) {
		return image.Free()
	}
	if !i.Live {
		i = old
	}
	for p, x := range i.Part {
		if x < 0 || w.disk.Data[x].Of == i.Stamp {
			continue
		}
		i.Part[p] = -1
		if old.Stamp == i.Stamp {
			i.Part[p] = old.Part[p]
		}
	}
	i.Links = links
	return i
}

func (w *twin) slot(d, s int) {
	next, old := w.now.Dir[d][s], &w.disk.Dir[d][s]
	if next == *old {
		return
	}
	if old.Name == "" {
		i := w.disk.Inode[next.Ino]
		if i.Stamp == next.Stamp && i.Links > refs(&w.disk, &w.disk, next.Ino) {
			*old = next
		}
	} else if refs(&w.disk, &w.disk, old.Ino) > 1 || refs(&w.now, &w.now, old.Ino) == 0 {
		*old = api.Entry{}
	}
}

// tale is what is known of the files of a life, each by a number that no other
// one ever has: a Stamp may come again behind a crash.
type tale struct {
	made  int
	files map[int]int            // of the Stamps that there are
	puts  map[int]map[string]int // what was ever put into a file
	kept  map[int]int            // those that had a name on the disk, and have had one ever since
}

func newTale() *tale {
	return &tale{files: map[int]int{}, puts: map[int]map[string]int{}, kept: map[int]int{}}
}

// stamps are those to which names lead.
func stamps(m *api.Image) map[int]int {
	found := map[int]int{}
	for _, dir := range m.Dir {
		for _, e := range dir {
			if e.Name != "" {
				found[e.Stamp]++
			}
		}
	}
	return found
}

// behind goes on with the tale behind a step that had no code.
func (a *tale) behind(t *testing.T, x api.Step, l *life.Life) {
	t.Helper()
	disk := l.Disk()
	now, written := stamps(&l.Now), stamps(&disk)
	switch x.Kind {
	case api.SMake:
		s, _ := at(&l.Now, x.Dir, x.Name)
		a.made++
		a.files[l.Now.Dir[x.Dir][s].Stamp] = a.made
		a.puts[a.made] = map[string]int{}
	case api.SPut:
		s, _ := at(&l.Now, x.Dir, x.Name)
		a.puts[a.files[l.Now.Dir[x.Dir][s].Stamp]][x.Text]++
	case api.SCrash:
		a.crash(t, l, now)
	}
	for stamp, n := range a.files {
		if now[stamp] == 0 {
			delete(a.kept, n)
		} else if written[stamp] > 0 {
			a.kept[n]++
		}
	}
}

// crash holds what is there against what was ahead.
func (a *tale) crash(t *testing.T, l *life.Life, now map[int]int) {
	t.Helper()
	there := map[int]int{}
	for stamp := range now {
		there[stamp] = a.files[stamp]
		if there[stamp] == 0 {
			t.Errorf("a file came from nowhere: %d", stamp)
		}
	}
	for stamp, n := range a.files {
		if a.kept[n] > 0 && there[stamp] != n {
			t.Errorf("the file %d had a name, and has none", n)
		}
	}
	a.files = there
	for _, i := range l.Now.Inode {
		for _, x := range i.Part {
			if i.Live && x >= 0 && a.puts[there[i.Stamp]][l.Now.Data[x].Text] == 0 {
				t.Errorf("%q was not put into the file %d", l.Now.Data[x].Text, there[i.Stamp])
			}
		}
	}
}

// wantNothingLost: behind Sync a crash has all that was ahead.
func wantNothingLost(t *testing.T, l *life.Life, ahead state) {
	t.Helper()
	if l.Now.Dir != ahead.now.Dir || l.Now.Inode != ahead.now.Inode || l.Lost().Files != 0 || l.Lost().Counts != 0 {
		t.Errorf("behind Sync it was %+v, and is %+v", ahead.now, stateOf(l))
	}
	wantTexts(t, "behind Sync", l, &ahead.now)
}

// TestManySteps: whatever steps are taken, a life is what its second telling
// is; and of its files holds what follows.
func TestManySteps(t *testing.T) {
	var told [api.SCrash + 1][api.ErrLine + 1]int
	var lost [2][2][2]int
	clean := 0
	d := dice(7)
	for run := range 300 {
		l, w, a := life.New(), newTwin(), newTale()
		kinds := [][]int{all, growing, hasty}[run%3]
		for n := range 250 {
			x, ahead := d.step(kinds, n), stateOf(l)
			code := l.Step(x)
			if want := w.step(x); code != want {
				t.Errorf("Step(%+v) is %d, want %d", x, code, want)
			}
			wantState(t, "the second telling", l, state{w.now, w.disk, w.crashes, w.lost})
			wantTexts(t, "the second telling", l, &w.now)
			if code != 0 {
				wantState(t, "behind a code", l, ahead)
			} else {
				a.behind(t, x, l)
			}
			if x.Kind == api.SCrash {
				lost[min(w.lost.Files, 1)][min(w.lost.Counts, 1)][min(w.lost.Datas, 1)]++
				if ahead.now == ahead.disk && ahead.now.Dir != image.New().Dir {
					clean++
					wantNothingLost(t, l, ahead)
				}
			}
			disk := l.Disk()
			if image.Check(&disk) != 0 || !image.Exact(&l.Now) || x.Kind == api.SSync && !l.Clean() {
				t.Errorf("Now is %+v, Disk %+v", l.Now, disk)
			}
			if t.Failed() {
				t.Fatalf("run %d: behind %+v", run, x)
			}
			kind := x.Kind
			if kind < 1 || kind > api.SCrash {
				kind = 0
			}
			told[kind][code]++
		}
	}
	wantTold(t, &told)
	for n := range 8 {
		if count := lost[n>>2][n>>1&1][n&1]; count < 5 {
			t.Errorf("Files %d, Counts %d, Datas %d (1: some) were lost %d times alone", n>>2, n>>1&1, n&1, count)
		}
	}
	if clean < 20 {
		t.Errorf("it crashed %d times behind Sync", clean)
	}
}

// wantTold: was each code told of each kind that has it, and no other one?
func wantTold(t *testing.T, told *[api.SCrash + 1][api.ErrLine + 1]int) {
	t.Helper()
	for kind, codes := range [api.SCrash + 1][]int{
		{api.ErrKind},
		{0, api.ErrRange, api.ErrName, api.ErrThere, api.ErrFull},
		{0, api.ErrRange, api.ErrName, api.ErrNone, api.ErrThere, api.ErrFull},
		{0, api.ErrRange, api.ErrName, api.ErrNone},
		{0, api.ErrRange, api.ErrName, api.ErrNone, api.ErrThere, api.ErrFull},
		{0, api.ErrRange, api.ErrName, api.ErrLong, api.ErrNone, api.ErrFull},
		{0, api.ErrRange, api.ErrName, api.ErrNone},
		{0, api.ErrRange},
		{0},
		{0},
	} {
		for code, n := range told[kind] {
			if n > 0 != slices.Contains(codes, code) {
				t.Errorf("of the kind %d the code %d was told %d times", kind, code, n)
			}
		}
	}
}

// TestAnswersHangOnWhatWasAsked: lives of which the same is asked answer the
// same, whatever is asked of others between.
func TestAnswersHangOnWhatWasAsked(t *testing.T) {
	d := dice(9)
	l, again, other := life.New(), life.New(), life.New()
	for n := range 3000 {
		x := d.step(hasty, n)
		code := l.Step(x)
		other.Step(d.step(all, n))
		if got := again.Step(x); got != code {
			t.Fatalf("Step(%+v) is %d, and %d", x, code, got)
		}
		wantState(t, "asked again", again, stateOf(l))
		if t.Failed() {
			t.FailNow()
		}
	}
	if l.Crashes() < 50 {
		t.Errorf("it crashed %d times", l.Crashes())
	}
}
