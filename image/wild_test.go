package image_test

import (
	"math"
	"testing"

	"eiderdown/api"
	"eiderdown/image"
)

// dice tells numbers by a fixed rule, so that each run sees the same images.
type dice uint64

func (d *dice) below(n int) int {
	*d = *d*6364136223846793005 + 1442695040888963407
	return int(uint64(*d)>>33) % n
}

func (d *dice) number() int {
	near := []int{-1, 0, 1, 2, 3, 7, 8, 9, -2, math.MaxInt, math.MinInt}
	return near[d.below(len(near))]
}

func (d *dice) name() string {
	names := []string{"", "a", "b", "abcdef", "abcdefg", "A", "\x00"}
	return names[d.below(len(names))]
}

// bend does one thing to an image, right or wrong.
func (d *dice) bend(m *api.Image) {
	slot := &m.Dir[d.below(api.Dirs)][d.below(api.Slots)]
	inode := &m.Inode[d.below(api.Inodes)]
	switch d.below(9) {
	case 0:
		slot.Name = d.name()
	case 1:
		slot.Ino = d.number()
	case 2:
		slot.Stamp = d.number()
	case 3:
		*slot = m.Dir[d.below(api.Dirs)][d.below(api.Slots)]
	case 4:
		inode.Live = !inode.Live
	case 5:
		inode.Stamp = d.number()
	case 6:
		inode.Links = d.number()
	case 7:
		inode.Part[d.below(api.Parts)] = d.number()
	case 8:
		m.Data[d.below(api.Datas)].Of = d.number()
	}
}

// wild are images that were bent a little or a lot.
func wild(count int) []api.Image {
	d := dice(1)
	list := make([]api.Image, count)
	for k := range list {
		list[k] = full()
		for range d.below(6) {
			d.bend(&list[k])
		}
	}
	for k := 0; k < count; k += 10 {
		for range 60 {
			d.bend(&list[k])
		}
	}
	return list
}

// faults are the codes of all that point 1 finds, in its order.
func faults(m *api.Image) []int {
	var codes []int
	tell := func(so bool, code int) {
		if so {
			codes = append(codes, code)
		}
	}
	for _, dir := range m.Dir {
		ahead := map[string]int{}
		for _, e := range dir {
			if e.Name == "" {
				tell(e.Ino != 0 || e.Stamp != 0, api.ErrForm)
				continue
			}
			tell(!image.Name(e.Name), api.ErrName)
			tell(ahead[e.Name] > 0, api.ErrThere)
			ahead[e.Name]++
			inside := e.Ino >= 0 && e.Ino <= 7
			tell(!inside, api.ErrRange)
			tell(inside && (!m.Inode[e.Ino&7].Live || m.Inode[e.Ino&7].Stamp != e.Stamp), api.ErrLink)
		}
	}
	stamps, parts := map[int]int{}, map[int]int{}
	for n, i := range m.Inode {
		if !i.Live {
			tell(i.Stamp != 0 || i.Links != 0 || i.Part != [2]int{-1, -1}, api.ErrForm)
			continue
		}
		tell(i.Stamp <= 0 || i.Links < image.Refs(m, n), api.ErrCount)
		stamps[i.Stamp]++
		for _, p := range i.Part {
			if p == -1 {
				continue
			}
			parts[p]++
			tell(p < 0 || p > 8, api.ErrRange)
			tell(p >= 0 && p <= 8 && m.Data[uint(p)%9].Of != i.Stamp, api.ErrData)
		}
	}
	for _, counts := range []map[int]int{stamps, parts} {
		for _, n := range counts {
			tell(n > 1, api.ErrTwice)
		}
	}
	return codes
}

func TestCheckOfWildImages(t *testing.T) {
	seen := map[int]int{}
	for _, m := range wild(40000) {
		want := 0
		if codes := faults(&m); len(codes) > 0 {
			want = codes[0]
		}
		seen[want]++
		if got := image.Check(&m); got != want {
			t.Fatalf("Check is %d, want %d: %+v", got, want, m)
		}
	}
	for _, code := range []int{0, api.ErrForm, api.ErrName, api.ErrThere, api.ErrRange, api.ErrLink, api.ErrCount, api.ErrData, api.ErrTwice} {
		if seen[code] < 20 {
			t.Errorf("code %d was told of %d images alone", code, seen[code])
		}
	}
}

func TestExactOfWildImages(t *testing.T) {
	exact := 0
	for _, m := range wild(40000) {
		want := len(faults(&m)) == 0
		for n, i := range m.Inode {
			if i.Live && (i.Links <= 0 || i.Links != image.Refs(&m, n)) {
				want = false
			}
		}
		if image.Exact(&m) != want {
			t.Fatalf("Exact is %v: %+v", !want, m)
		}
		if want {
			exact++
		}
	}
	if exact < 20 {
		t.Errorf("%d images alone are exact", exact)
	}
}

// asked is all that an image answers to some questions.
type asked struct {
	check int
	exact bool
	refs  [6]int
	holds [6]bool
	find  [6][5]int
}

func ask(m *api.Image) asked {
	a := asked{check: image.Check(m), exact: image.Exact(m)}
	for k, n := range [6]int{-1, 0, 7, 9, math.MaxInt, math.MinInt} {
		a.refs[k] = image.Refs(m, n)
		a.holds[k] = image.Holds(m, n)
		for j, name := range [5]string{"", "a", "abcdef", "abcdefg", "A"} {
			a.find[k][j] = image.Find(m, n, name)
		}
	}
	return a
}

// TestAsking: no image makes a call panic, none is changed, and what is
// answered hangs on the image alone.
func TestAsking(t *testing.T) {
	for _, m := range wild(5000) {
		asIs, copied := m, m
		first := ask(&m)
		if m != asIs {
			t.Fatalf("was changed: %+v, is %+v", asIs, m)
		}
		if first != ask(&m) || first != ask(&copied) {
			t.Fatalf("asked again, it answers otherwise: %+v", m)
		}
	}
}
