package image_test

import (
	"math"
	"strings"
	"testing"

	"eiderdown/api"
	"eiderdown/image"
)

// change is one thing that is done to an image.
type change func(m *api.Image)

// full is an image that may be mended and is exact, with things at the first
// and the last place of each kind: file 1 has two names and both parts, file
// 9 one name and no part.
func full() api.Image {
	m := image.New()
	m.Inode[0] = api.Inode{Live: true, Stamp: 1, Links: 2, Part: [api.Parts]int{0, api.Datas - 1}}
	m.Inode[api.Inodes-1] = api.Inode{Live: true, Stamp: 9, Links: 1, Part: [api.Parts]int{-1, -1}}
	m.Data[0] = api.Data{Of: 1, Text: "x"}
	m.Data[api.Datas-1] = api.Data{Of: 1}
	m.Dir[0][0] = api.Entry{Name: "a", Ino: 0, Stamp: 1}
	m.Dir[1][2] = api.Entry{Name: "a", Ino: api.Inodes - 1, Stamp: 9}
	m.Dir[api.Dirs-1][api.Slots-1] = api.Entry{Name: "abcdef", Ino: 0, Stamp: 1}
	return m
}

// with is full with the changes done to it.
func with(changes ...change) api.Image {
	m := full()
	for _, c := range changes {
		c(&m)
	}
	return m
}

func entry(d, s int, name string, ino, stamp int) change {
	return func(m *api.Image) { m.Dir[d][s] = api.Entry{Name: name, Ino: ino, Stamp: stamp} }
}

func live(n, stamp, links int, parts ...int) change {
	return func(m *api.Image) {
		i := api.Inode{Live: true, Stamp: stamp, Links: links}
		copy(i.Part[:], parts)
		m.Inode[n] = i
	}
}

func dead(n, stamp, links int, parts ...int) change {
	return func(m *api.Image) {
		live(n, stamp, links, parts...)(m)
		m.Inode[n].Live = false
	}
}

func data(x, of int, text string) change {
	return func(m *api.Image) { m.Data[x] = api.Data{Of: of, Text: text} }
}

func TestName(t *testing.T) {
	right := []string{"a", "z", "m", "az", "aaaaaa", "zzzzzz", "abcdef", strings.Repeat("q", api.MaxName)}
	for _, s := range right {
		if !image.Name(s) {
			t.Errorf("Name(%q) is false", s)
		}
	}
	wrong := []string{"", "A", "Z", "aB", "a1", "0", " ", "a ", " a", "a b", "`", "{", "a{", "`a", "a\x00", "\n", "a-b",
		"é", "aé", "\xff", "a\xe1", "abcdeF", "abcdefg", "zzzzzzz", strings.Repeat("q", api.MaxName+1), strings.Repeat("a", 1000)}
	for _, s := range wrong {
		if image.Name(s) {
			t.Errorf("Name(%q) is true", s)
		}
	}
}

func TestNameOfEachByte(t *testing.T) {
	for b := range 256 {
		letter := b >= 'a' && b <= 'z'
		for _, s := range []string{string([]byte{byte(b)}), string([]byte{'a', byte(b)}), string([]byte{byte(b), 'z'})} {
			if image.Name(s) != letter {
				t.Errorf("Name(%q) is %v", s, !letter)
			}
		}
	}
}

func TestFree(t *testing.T) {
	want := api.Inode{Live: false, Stamp: 0, Links: 0, Part: [api.Parts]int{-1, -1}}
	if got := image.Free(); got != want {
		t.Errorf("Free is %v, want %v", got, want)
	}
}

func TestNew(t *testing.T) {
	m := image.New()
	for n, i := range m.Inode {
		if i != image.Free() {
			t.Errorf("inode %d is %v", n, i)
		}
	}
	if m.Dir != (api.Image{}).Dir {
		t.Errorf("there are entries: %v", m.Dir)
	}
	if m.Data != (api.Image{}).Data {
		t.Errorf("there are data: %v", m.Data)
	}
	if code := image.Check(&m); code != 0 {
		t.Errorf("Check is %d", code)
	}
	if !image.Exact(&m) {
		t.Errorf("it is not exact")
	}
	m.Inode[3].Part[1] = 4
	m.Dir[0][0].Name = "a"
	if other := image.New(); other == m || other.Inode[3] != image.Free() {
		t.Errorf("a second New has what was done to the first")
	}
}

func TestRefs(t *testing.T) {
	wild := with(entry(0, 1, "b", -1, 0), entry(0, 2, "c", api.Inodes, 0), entry(0, 3, "b", api.Inodes, 0))
	tests := []struct {
		what string
		m    api.Image
		ino  int
		want int
	}{
		{"none in a new one", image.New(), 0, 0},
		{"two, of two directories", full(), 0, 2},
		{"one", full(), api.Inodes - 1, 1},
		{"none", full(), 3, 0},
		{"beyond", full(), api.Inodes, 0},
		{"below", full(), -1, 0},
		{"the greatest", full(), math.MaxInt, 0},
		{"the least", full(), math.MinInt, 0},
		{"no name, no entry", with(entry(0, 1, "", 3, 1)), 3, 0},
		{"a wrong name is one", with(entry(0, 1, "A", 3, 1)), 3, 1},
		{"an inode that is not live", with(entry(0, 1, "b", 3, 1)), 3, 1},
		{"another stamp", with(entry(0, 1, "b", 0, 77)), 0, 3},
		{"the same name twice", with(entry(0, 1, "a", 0, 1)), 0, 3},
		{"entries to beyond", wild, api.Inodes, 2},
		{"an entry to below", wild, -1, 1},
	}
	for _, c := range tests {
		if got := image.Refs(&c.m, c.ino); got != c.want {
			t.Errorf("%s: Refs of %d is %d, want %d", c.what, c.ino, got, c.want)
		}
	}
	all := image.New()
	for d := range all.Dir {
		for s := range all.Dir[d] {
			entry(d, s, "n", 5, 1)(&all)
		}
	}
	if got := image.Refs(&all, 5); got != api.Dirs*api.Slots {
		t.Errorf("of all slots: %d", got)
	}
}

func TestHolds(t *testing.T) {
	tests := []struct {
		what string
		m    api.Image
		x    int
		want bool
	}{
		{"none in a new one", image.New(), 0, false},
		{"a first part", full(), 0, true},
		{"a last part", full(), api.Datas - 1, true},
		{"of none", full(), 4, false},
		{"a part that is none", full(), -1, false},
		{"beyond", full(), api.Datas, false},
		{"the greatest", full(), math.MaxInt, false},
		{"the least", full(), math.MinInt, false},
		{"of an inode that is not live", with(dead(3, 0, 0, 4, -1)), 4, false},
		{"of a live inode", with(live(3, 5, 0, 4, -1)), 4, true},
		{"of the last inode", with(live(api.Inodes-1, 5, 0, -1, 4)), 4, true},
		{"data of another file", with(live(3, 5, 0, -1, 4), data(4, 6, "")), 4, true},
		{"data of a file, but no part of it", with(data(4, 1, "x")), 4, false},
		{"a part beyond leads to no data", with(live(3, 5, 0, api.Datas, -2)), api.Datas, false},
		{"a part below leads to no data", with(live(3, 5, 0, api.Datas, -2)), -2, false},
	}
	for _, c := range tests {
		if got := image.Holds(&c.m, c.x); got != c.want {
			t.Errorf("%s: Holds of %d is %v", c.what, c.x, got)
		}
	}
}

func TestFind(t *testing.T) {
	twice := with(entry(1, 1, "b", 0, 1), entry(1, 3, "b", 0, 1))
	wrong := with(entry(0, 1, "A1", 99, -4), entry(0, 2, "abcdefg", 0, 1))
	tests := []struct {
		what string
		m    api.Image
		d    int
		name string
		want int
	}{
		{"the first slot", full(), 0, "a", 0},
		{"a slot between", full(), 1, "a", 2},
		{"the last slot", full(), api.Dirs - 1, "abcdef", api.Slots - 1},
		{"in another directory", full(), 0, "abcdef", -1},
		{"none", full(), 0, "b", -1},
		{"a piece of a name", full(), api.Dirs - 1, "abcde", -1},
		{"more than a name", full(), 0, "ab", -1},
		{"a name too long", full(), api.Dirs - 1, "abcdefg", -1},
		{"the empty name", full(), 0, "", -1},
		{"the empty name in a new one", image.New(), 2, "", -1},
		{"the empty name in a slot with more", with(entry(0, 1, "", 3, 1)), 0, "", -1},
		{"no directory", full(), api.Dirs, "a", -1},
		{"no directory below", full(), -1, "a", -1},
		{"the greatest", full(), math.MaxInt, "a", -1},
		{"the least", full(), math.MinInt, "a", -1},
		{"no directory, no name", full(), -1, "", -1},
		{"the first of two", twice, 1, "b", 1},
		{"a wrong name that is there", wrong, 0, "A1", 1},
		{"a long name that is there", wrong, 0, "abcdefg", 2},
	}
	for _, c := range tests {
		if got := image.Find(&c.m, c.d, c.name); got != c.want {
			t.Errorf("%s: Find of %d, %q is %d, want %d", c.what, c.d, c.name, got, c.want)
		}
	}
}

// checkCase is an image and the code that Check tells of it.
type checkCase struct {
	what string
	m    api.Image
	want int
}

func runChecks(t *testing.T, tests []checkCase) {
	t.Helper()
	for _, c := range tests {
		if got := image.Check(&c.m); got != c.want {
			t.Errorf("%s: Check is %d, want %d", c.what, got, c.want)
		}
		if c.want != 0 && image.Exact(&c.m) {
			t.Errorf("%s: it is exact", c.what)
		}
	}
}

func TestCheckNone(t *testing.T) {
	runChecks(t, []checkCase{
		{"a new one", image.New(), 0},
		{"a full one", full(), 0},
		{"more Links than Refs", with(live(0, 1, 3, 0, -1)), 0},
		{"far more Links than Refs", with(live(0, 1, math.MaxInt, 0, -1)), 0},
		{"a live inode without names", with(live(3, 2, 0, -1, -1)), 0},
		{"a live inode without names, with Links", with(live(3, 2, 1, -1, -1)), 0},
		{"the greatest Stamp", with(live(3, math.MaxInt, 0, -1, -1)), 0},
		{"data of no file", with(data(4, 77, "lost")), 0},
		{"data below 0 that nothing holds", with(data(4, -3, "")), 0},
		{"data of none with a text", with(data(4, 0, "some")), 0},
		{"a text beyond MaxText", with(data(0, 1, strings.Repeat("x", api.MaxText+1))), 0},
		{"the same name in two directories", with(entry(1, 0, "abcdef", 0, 1), live(0, 1, 3, 0, -1)), 0},
		{"a file twice in one directory", with(entry(0, 1, "b", 0, 1), live(0, 1, 3, 0, -1)), 0},
		{"one part, the second", with(live(0, 1, 2, -1, 0)), 0},
	})
}

func TestCheckSlots(t *testing.T) {
	last := func(name string, ino, stamp int) change { return entry(api.Dirs-1, api.Slots-1, name, ino, stamp) }
	runChecks(t, []checkCase{
		{"no name, an Ino", with(entry(0, 1, "", 1, 0)), api.ErrForm},
		{"no name, an Ino below 0", with(entry(0, 1, "", -1, 0)), api.ErrForm},
		{"no name, a Stamp", with(entry(0, 1, "", 0, 1)), api.ErrForm},
		{"no name in the last slot", with(last("", 0, 1)), api.ErrForm},
		{"a great letter", with(entry(0, 1, "A", 0, 1)), api.ErrName},
		{"one letter too many", with(entry(0, 1, "abcdefg", 0, 1)), api.ErrName},
		{"a blank", with(entry(0, 1, " ", 0, 1)), api.ErrName},
		{"a zero byte", with(last("\x00", 0, 1)), api.ErrName},
		{"the name of the slot ahead", with(entry(0, 1, "a", 0, 1)), api.ErrThere},
		{"the name of the first slot", with(entry(0, 3, "a", 0, 1)), api.ErrThere},
		{"the name of two files", with(entry(0, 2, "a", api.Inodes-1, 9)), api.ErrThere},
		{"the name of a slot behind", with(entry(1, 0, "a", 0, 1)), api.ErrThere},
		{"just beyond", with(entry(0, 1, "b", api.Inodes, 1)), api.ErrRange},
		{"just below", with(entry(0, 1, "b", -1, 1)), api.ErrRange},
		{"the greatest", with(last("b", math.MaxInt, 1)), api.ErrRange},
		{"the least", with(last("b", math.MinInt, 1)), api.ErrRange},
		{"not live", with(entry(0, 1, "b", 3, 1)), api.ErrLink},
		{"not live, the same Stamp", with(entry(0, 1, "b", 3, 0)), api.ErrLink},
		{"another Stamp", with(entry(0, 1, "b", 0, 2)), api.ErrLink},
		{"the Stamp of another inode", with(last("b", 0, 9)), api.ErrLink},
	})
}

func TestCheckInodes(t *testing.T) {
	end := api.Inodes - 1
	runChecks(t, []checkCase{
		{"all 0", api.Image{}, api.ErrForm},
		{"not live, with a Stamp", with(dead(3, 1, 0, -1, -1)), api.ErrForm},
		{"not live, with Links", with(dead(3, 0, 1, -1, -1)), api.ErrForm},
		{"not live, with a first part", with(dead(3, 0, 0, 0, -1)), api.ErrForm},
		{"not live, with a last part", with(dead(3, 0, 0, -1, 0)), api.ErrForm},
		{"not live, parts below", with(dead(3, 0, 0, -1, -2)), api.ErrForm},
		{"a Stamp of 0", with(live(3, 0, 0, -1, -1)), api.ErrCount},
		{"a Stamp below 0", with(live(3, -1, 0, -1, -1)), api.ErrCount},
		{"the least Stamp", with(live(3, math.MinInt, 0, -1, -1)), api.ErrCount},
		{"a Stamp of 0 that an entry has", with(live(3, 0, 1, -1, -1), entry(0, 1, "b", 3, 0)), api.ErrCount},
		{"fewer Links than Refs", with(live(0, 1, 1, 0, -1)), api.ErrCount},
		{"no Links, one of Refs", with(live(end, 9, 0, -1, -1)), api.ErrCount},
		{"Links below 0", with(live(3, 2, -1, -1, -1)), api.ErrCount},
		{"the least Links", with(live(3, 2, math.MinInt, -1, -1)), api.ErrCount},
		{"a first part just beyond", with(live(0, 1, 2, api.Datas, -1)), api.ErrRange},
		{"a last part just beyond", with(live(0, 1, 2, -1, api.Datas)), api.ErrRange},
		{"a part just below", with(live(0, 1, 2, -2, -1)), api.ErrRange},
		{"the greatest part", with(live(end, 9, 1, -1, math.MaxInt)), api.ErrRange},
		{"the least part", with(live(end, 9, 1, math.MinInt, -1)), api.ErrRange},
		{"a part of none", with(live(end, 9, 1, 4, -1)), api.ErrData},
		{"a part of another", with(live(end, 9, 1, -1, 0)), api.ErrData},
		{"data of another one", with(data(0, 2, "x")), api.ErrData},
		{"data below 0", with(data(api.Datas-1, -1, "")), api.ErrData},
	})
}

func TestCheckTwice(t *testing.T) {
	runChecks(t, []checkCase{
		{"one Stamp twice", with(live(3, 1, 0, -1, -1)), api.ErrTwice},
		{"the last Stamp twice", with(live(3, 9, 0, -1, -1)), api.ErrTwice},
		{"neighbours", with(live(3, 5, 0, -1, -1), live(4, 5, 0, -1, -1)), api.ErrTwice},
		{"both parts the same", with(live(0, 1, 2, 0, 0)), api.ErrTwice},
		{"both parts of the last inode", with(live(api.Inodes-1, 9, 1, 4, 4), data(4, 9, "")), api.ErrTwice},
		{"parts of two inodes", with(live(3, 1, 0, 0, -1)), api.ErrTwice},
		{"not live is no second", with(dead(3, 0, 0, -1, -1)), 0},
	})
}

// TestCheckOrder: where several are so, the first that point 1 names is told.
func TestCheckOrder(t *testing.T) {
	twice := live(0, 1, 2, 0, 0)
	badData := live(6, 4, 0, 1, -1)
	badPart := live(5, 3, 0, -2, -1)
	badCount := live(4, 0, 0, -1, -1)
	badFree := dead(3, 0, 1, -1, -1)
	badLink := entry(2, 2, "d", 2, 1)
	badIno := entry(2, 1, "c", api.Inodes, 1)
	runChecks(t, []checkCase{
		{"a name ahead of all else of its slot", with(entry(0, 0, "A", -1, 0), entry(0, 1, "A", -1, 0)), api.ErrName},
		{"the same wrong name again is no name", with(entry(0, 1, "a", 0, 1), entry(0, 0, "A", 0, 1), entry(0, 2, "A", -1, 0)), api.ErrName},
		{"there ahead of range", with(entry(0, 1, "a", -1, 0)), api.ErrThere},
		{"there ahead of link", with(entry(0, 1, "a", 3, 0)), api.ErrThere},
		{"range where there is none to be live", with(entry(0, 1, "b", api.Inodes, 0)), api.ErrRange},
		{"slots rising: range, then form", with(entry(0, 1, "b", -1, 0), entry(0, 2, "", 1, 0)), api.ErrRange},
		{"slots rising: form, then range", with(entry(0, 1, "", 1, 0), entry(0, 2, "b", -1, 0)), api.ErrForm},
		{"slots rising: link, then name", with(entry(0, 1, "b", 3, 1), entry(0, 2, "B", 0, 1)), api.ErrLink},
		{"slots rising: name, then there", with(entry(0, 1, "B", 0, 1), entry(0, 2, "a", 0, 1)), api.ErrName},
		{"directories rising: the last slot, then the first", with(entry(0, 3, "b", 3, 1), entry(1, 0, "B", 0, 1)), api.ErrLink},
		{"directories rising: there, then form", with(entry(1, 3, "a", 0, 1), entry(2, 0, "", 1, 0)), api.ErrThere},
		{"slots ahead of inodes", with(badLink, badFree, badCount, badPart, badData, twice), api.ErrLink},
		{"the slot ahead is told", with(badIno, badLink, badFree), api.ErrRange},
		{"inodes rising: form, then count", with(badFree, badCount, badPart, badData, twice), api.ErrForm},
		{"inodes rising: count, then range", with(badCount, badPart, badData, twice), api.ErrCount},
		{"inodes rising: range, then data", with(badPart, badData, twice), api.ErrRange},
		{"inodes rising: data, then twice", with(badData, twice), api.ErrData},
		{"inodes rising: data, then form", with(live(2, 3, 0, 4, -1), badFree), api.ErrData},
		{"inodes rising: range, then form", with(live(2, 3, 0, -1, 9), badFree), api.ErrRange},
		{"inodes rising: count, then form", with(live(2, 0, 0, -1, -1), badFree), api.ErrCount},
		{"count ahead of parts", with(live(0, 1, 1, -2, 4)), api.ErrCount},
		{"a Stamp of 0 ahead of parts", with(live(3, 0, 0, 9, -1)), api.ErrCount},
		{"parts rising: data, then range", with(live(0, 1, 2, 4, 9)), api.ErrData},
		{"parts rising: range, then data", with(live(0, 1, 2, 9, 4)), api.ErrRange},
		{"both parts beyond are no twice", with(live(0, 1, 2, 9, 9)), api.ErrRange},
		{"both parts of another are no twice", with(live(0, 1, 2, 4, 4)), api.ErrData},
		{"form of the last inode ahead of twice", with(twice, dead(6, 1, 0, -1, -1)), api.ErrForm},
		{"count of the last inode ahead of twice", with(live(3, 1, 0, -1, -1), live(api.Inodes-1, 9, 0, -1, -1)), api.ErrCount},
	})
}

func TestExact(t *testing.T) {
	tests := []struct {
		what string
		m    api.Image
		want bool
	}{
		{"a new one", image.New(), true},
		{"a full one", full(), true},
		{"all 0", api.Image{}, false},
		{"one of Links too many", with(live(0, 1, 3, 0, -1)), false},
		{"one of Links too many of the last", with(live(api.Inodes-1, 9, 2, -1, -1)), false},
		{"fewer Links than Refs", with(live(0, 1, 1, 0, -1)), false},
		{"no names, no Links", with(live(3, 2, 0, -1, -1)), false},
		{"no names, Links", with(live(3, 2, 1, -1, -1)), false},
		{"data of no file", with(data(4, 77, "lost")), true},
		{"another name, counted", with(entry(0, 1, "b", 0, 1), live(0, 1, 3, 0, -1)), true},
		{"right counts, a code of slots", with(entry(0, 1, "", 1, 0)), false},
		{"right counts, a wrong name", with(entry(0, 0, "A", 0, 1)), false},
		{"right counts, a code of inodes", with(dead(3, 0, 1, -1, -1)), false},
		{"right counts, a code of parts", with(live(0, 1, 2, 4, -1)), false},
		{"right counts, a code of twice", with(live(0, 1, 2, 0, 0)), false},
	}
	for _, c := range tests {
		if got := image.Exact(&c.m); got != c.want {
			t.Errorf("%s: Exact is %v", c.what, got)
		}
	}
}
