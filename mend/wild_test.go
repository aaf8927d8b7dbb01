package mend_test

import (
	"math"
	"testing"

	"eiderdown/api"
	"eiderdown/image"
	"eiderdown/mend"
	"eiderdown/soft"
)

// dice tells numbers by a fixed rule, so that each run sees the same images.
type dice uint64

func (d *dice) below(n int) int {
	*d = *d*6364136223846793005 + 1442695040888963407
	return int(uint64(*d)>>33) % n
}

func (d *dice) number() int {
	near := []int{-1, 0, 1, 2, 3, 5, 7, 8, 9, -2, math.MaxInt, math.MinInt}
	return near[d.below(len(near))]
}

func (d *dice) text(list ...string) string { return list[d.below(len(list))] }

// anew tells Mend a second time: it starts with nothing, and takes over what
// names lead to. The image is one that may be mended.
func anew(m *api.Image) (api.Image, mend.Lost) {
	made := image.New()
	made.Dir = m.Dir
	for _, dir := range m.Dir {
		for _, e := range dir {
			if e.Name == "" {
				continue
			}
			count := made.Inode[e.Ino].Links + 1
			made.Inode[e.Ino] = m.Inode[e.Ino]
			made.Inode[e.Ino].Links = count
			for _, x := range m.Inode[e.Ino].Part {
				if x != -1 {
					made.Data[x] = m.Data[x]
				}
			}
		}
	}
	return made, differ(m, &made)
}

// differ counts in what the image is other than what was made of it.
func differ(m, made *api.Image) mend.Lost {
	var lost mend.Lost
	for n, i := range m.Inode {
		switch {
		case i.Live && !made.Inode[n].Live:
			lost.Files++
		case i.Links != made.Inode[n].Links:
			lost.Counts++
		}
	}
	for x, k := range m.Data {
		if k != made.Data[x] {
			lost.Datas++
		}
	}
	return lost
}

// step is one of names and files; some have a code and do nothing.
func (d *dice) step() api.Step {
	kinds := []int{api.SMake, api.SMake, api.SLink, api.SLink, api.SUnlink, api.SRename, api.SPut, api.SPut, api.SCut}
	return api.Step{
		Kind:  kinds[d.below(len(kinds))],
		Dir:   d.below(api.Dirs),
		ToDir: d.below(api.Dirs),
		P:     d.below(api.Parts),
		Name:  d.text("a", "b", "ab", "ba"),
		To:    d.text("a", "b", "ab", "ba"),
		Text:  d.text("", "x", "yy", "zzzzzzzz"),
	}
}

// TestManyCrashes: whenever it crashes, what lies there is mended; some go on
// from what is mended.
func TestManyCrashes(t *testing.T) {
	d := dice(3)
	var seen [2][2][2]int
	for run := range 60 {
		f := soft.New()
		for range 120 {
			f.Do(d.step())
			for range d.below(1 + run%6) {
				f.Write(d.below(api.Blocks))
			}
			disk := f.Disk()
			want, lost := anew(&disk)
			wantMend(t, "a crash", disk, want, lost)
			wantKept(t, "a crash", disk, want)
			seen[min(lost.Files, 1)][min(lost.Counts, 1)][min(lost.Datas, 1)]++
			if t.Failed() {
				t.FailNow()
			}
			if d.below(30) == 0 {
				f = soft.Of(want)
			}
		}
	}
	for n := range 8 {
		if count := seen[n>>2][n>>1&1][n&1]; count < 20 {
			t.Errorf("Files %d, Counts %d, Datas %d (1: some) were lost %d times alone", n>>2, n>>1&1, n&1, count)
		}
	}
}

// bend does one thing to an image, right or wrong.
func (d *dice) bend(m *api.Image) {
	slot := &m.Dir[d.below(api.Dirs)][d.below(api.Slots)]
	inode := &m.Inode[d.below(api.Inodes)]
	switch d.below(11) {
	case 0:
		slot.Name = d.text("", "a", "b", "abcdef", "abcdefg", "A", "\x00")
	case 1:
		slot.Ino = d.number()
	case 2:
		slot.Stamp = d.number()
	case 3:
		*slot = m.Dir[d.below(api.Dirs)][d.below(api.Slots)]
	case 4:
		*slot = api.Entry{}
	case 5:
		inode.Live = !inode.Live
	case 6:
		inode.Stamp = d.number()
	case 7:
		inode.Links = d.number()
	case 8:
		inode.Part[d.below(api.Parts)] = d.number()
	case 9:
		m.Data[d.below(api.Datas)].Of = d.number()
	case 10:
		m.Data[d.below(api.Datas)].Text = d.text("", "x", "\x00\xff")
	}
}

// TestWildImages: whatever it is given, Mend has Check's code and nothing
// else, or mends; asked again, it answers the same.
func TestWildImages(t *testing.T) {
	d := dice(4)
	told := map[int]int{}
	for k := range 40000 {
		m := full()
		bends := 1 + d.below(6)
		if k%10 == 0 {
			bends = 60
		}
		for range bends {
			d.bend(&m)
		}
		code := image.Check(&m)
		told[code]++
		if code != 0 {
			wantCode(t, "a wild image", m, code)
		} else {
			want, lost := anew(&m)
			wantMend(t, "a wild image", m, want, lost)
		}
		got, lost, c := mend.Mend(m)
		again, lostAgain, cAgain := mend.Mend(m)
		if got != again || lost != lostAgain || c != cAgain {
			t.Errorf("asked again, Mend is %+v, %+v, %d, ahead %+v, %+v, %d", again, lostAgain, cAgain, got, lost, c)
		}
		if t.Failed() {
			t.FailNow()
		}
	}
	for _, code := range []int{0, api.ErrForm, api.ErrName, api.ErrThere, api.ErrRange, api.ErrLink, api.ErrCount, api.ErrData, api.ErrTwice} {
		if told[code] < 20 {
			t.Errorf("code %d was told of %d images alone", code, told[code])
		}
	}
}
