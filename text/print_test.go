package text_test

import (
	"math"
	"strings"
	"testing"

	"eiderdown/api"
	"eiderdown/image"
	"eiderdown/text"
)

const (
	lastInode = api.Inodes - 1
	lastDir   = api.Dirs - 1
	lastSlot  = api.Slots - 1
	lastData  = api.Datas - 1
)

// change is one thing that is done to an image.
type change func(m *api.Image)

func entry(d, s int, name string, ino, stamp int) change {
	return func(m *api.Image) { m.Dir[d][s] = api.Entry{Name: name, Ino: ino, Stamp: stamp} }
}

func live(n, stamp, links, p, q int) change {
	return func(m *api.Image) {
		m.Inode[n] = api.Inode{Live: true, Stamp: stamp, Links: links, Part: [api.Parts]int{p, q}}
	}
}

func dead(n, stamp, links, p, q int) change {
	return func(m *api.Image) {
		live(n, stamp, links, p, q)(m)
		m.Inode[n].Live = false
	}
}

func data(x, of int, s string) change {
	return func(m *api.Image) { m.Data[x] = api.Data{Of: of, Text: s} }
}

// changed is a new image with the changes done to it.
func changed(changes ...change) api.Image {
	m := image.New()
	for _, c := range changes {
		c(&m)
	}
	return m
}

// lines are lines, each ended by a newline.
func lines(list ...string) string {
	if len(list) == 0 {
		return ""
	}
	return strings.Join(list, "\n") + "\n"
}

// prints: is the image printed so, twice, and left as it was?
func prints(t *testing.T, m api.Image, want string) {
	t.Helper()
	asIs := m
	for range 2 {
		if got := text.Print(&m); got != want {
			t.Fatalf("Print is %q, want %q", got, want)
		}
	}
	if m != asIs {
		t.Errorf("Print changed %+v to %+v", asIs, m)
	}
}

// TestPrintOfNothing: a new image, and one all of whose numbers are 0.
func TestPrintOfNothing(t *testing.T) {
	prints(t, image.New(), "")
	prints(t, api.Image{}, "")
}

func TestPrintOfOneThing(t *testing.T) {
	for _, c := range []struct {
		do   change
		want string
	}{
		{live(0, 1, 2, 3, 4), "inode 0 1 2 3 4\n"},
		{live(lastInode, 1, 2, 3, 4), "inode 7 1 2 3 4\n"},
		{live(3, 12, 1, -1, -1), "inode 3 12 1 -1 -1\n"},
		{live(3, 12, 1, 8, -1), "inode 3 12 1 8 -1\n"},
		{live(3, 12, 1, -1, 8), "inode 3 12 1 -1 8\n"},
		{live(4, 0, 0, 0, 0), "inode 4 0 0 0 0\n"},
		{entry(0, 0, "a", 0, 1), "entry 0 0 a 0 1\n"},
		{entry(0, lastSlot, "a", 0, 1), "entry 0 3 a 0 1\n"},
		{entry(lastDir, 0, "a", 0, 1), "entry 2 0 a 0 1\n"},
		{entry(lastDir, lastSlot, "abcdef", 7, 250), "entry 2 3 abcdef 7 250\n"},
		{entry(1, 2, "z", 0, 0), "entry 1 2 z 0 0\n"},
		{data(0, 1, "x"), "data 0 1 =x\n"},
		{data(lastData, 250, "xyz"), "data 8 250 =xyz\n"},
		{data(5, 1, ""), "data 5 1 =\n"},
	} {
		prints(t, changed(c.do), c.want)
	}
}

// TestPrintInOrder: inodes, then entries, then data, each by its number, in
// whatever order they lead to each other.
func TestPrintInOrder(t *testing.T) {
	m := changed(
		data(lastData, 4, "last"), data(0, 9, "first"), data(3, 4, "a b"),
		entry(lastDir, lastSlot, "d", 0, 9), entry(lastDir, 0, "c", 7, 4), entry(1, 2, "z", 0, 9), entry(0, lastSlot, "y", 7, 4), entry(0, 0, "x", 7, 4),
		live(lastInode, 4, 3, 8, 3), live(0, 9, 2, 0, -1))
	if image.Check(&m) != 0 {
		t.Fatalf("Check is %d", image.Check(&m))
	}
	prints(t, m, lines(
		"inode 0 9 2 0 -1",
		"inode 7 4 3 8 3",
		"entry 0 0 x 7 4",
		"entry 0 3 y 7 4",
		"entry 1 2 z 0 9",
		"entry 2 0 c 7 4",
		"entry 2 3 d 0 9",
		"data 0 9 =first",
		"data 3 4 =a\\20b",
		"data 8 4 =last"))
}

// TestPrintOfAllPlaces: there is a line for each inode, slot and data.
func TestPrintOfAllPlaces(t *testing.T) {
	m := image.New()
	for n := range m.Inode {
		live(n, n+1, 1, -1, n)(&m)
	}
	for d := range m.Dir {
		for s := range m.Dir[d] {
			entry(d, s, string(rune('a'+d*api.Slots+s)), 7-s, d)(&m)
		}
	}
	for x := range m.Data {
		data(x, x+1, strings.Repeat("q", x))(&m)
	}
	prints(t, m, lines(
		"inode 0 1 1 -1 0", "inode 1 2 1 -1 1", "inode 2 3 1 -1 2", "inode 3 4 1 -1 3",
		"inode 4 5 1 -1 4", "inode 5 6 1 -1 5", "inode 6 7 1 -1 6", "inode 7 8 1 -1 7",
		"entry 0 0 a 7 0", "entry 0 1 b 6 0", "entry 0 2 c 5 0", "entry 0 3 d 4 0",
		"entry 1 0 e 7 1", "entry 1 1 f 6 1", "entry 1 2 g 5 1", "entry 1 3 h 4 1",
		"entry 2 0 i 7 2", "entry 2 1 j 6 2", "entry 2 2 k 5 2", "entry 2 3 l 4 2",
		"data 0 1 =", "data 1 2 =q", "data 2 3 =qq", "data 3 4 =qqq", "data 4 5 =qqqq",
		"data 5 6 =qqqqq", "data 6 7 =qqqqqq", "data 7 8 =qqqqqqq", "data 8 9 =qqqqqqqq"))
}

// TestPrintLeavesOut: what is not live, has no name, or is of none has no
// line, whatever else it has.
func TestPrintLeavesOut(t *testing.T) {
	for _, do := range []change{
		dead(0, 1, 2, 3, 4), dead(lastInode, -1, math.MaxInt, 0, 8), dead(2, 0, 0, 0, 0),
		entry(0, 0, "", 3, 4), entry(lastDir, lastSlot, "", -1, math.MinInt), entry(1, 1, "", 0, 9),
		data(0, 0, "x"), data(lastData, 0, "a b\n"), data(4, 0, "\x00"),
	} {
		prints(t, changed(do), "")
	}
	m := changed(dead(1, 1, 1, 1, 1), live(2, 5, 1, -1, 3), entry(1, 1, "", 2, 5), entry(1, 2, "a", 2, 5), data(3, 5, "t"), data(4, 0, "none"))
	prints(t, m, lines("inode 2 5 1 -1 3", "entry 1 2 a 2 5", "data 3 5 =t"))
}

func TestPrintOfWideNumbers(t *testing.T) {
	const most, least = "9223372036854775807", "-9223372036854775808"
	m := changed(
		live(0, math.MaxInt, math.MinInt, math.MaxInt, math.MinInt), live(1, math.MinInt, math.MaxInt, math.MinInt, math.MaxInt), live(2, -1, -2, -3, -4),
		entry(0, 0, "a", math.MaxInt, math.MinInt), entry(0, 1, "b", math.MinInt, math.MaxInt), entry(0, 2, "c", -1, -10),
		data(0, math.MaxInt, "x"), data(1, math.MinInt, "y"), data(2, -1, "z"))
	prints(t, m, lines(
		"inode 0 "+most+" "+least+" "+most+" "+least,
		"inode 1 "+least+" "+most+" "+least+" "+most,
		"inode 2 -1 -2 -3 -4",
		"entry 0 0 a "+most+" "+least,
		"entry 0 1 b "+least+" "+most,
		"entry 0 2 c -1 -10",
		"data 0 "+most+" =x",
		"data 1 "+least+" =y",
		"data 2 -1 =z"))
}

// TestPrintOfWhatMayNotBeMended: it is printed as any other image.
func TestPrintOfWhatMayNotBeMended(t *testing.T) {
	for _, c := range []struct {
		m    api.Image
		code int
		want string
	}{
		{changed(entry(1, 0, "", 1, 0)), api.ErrForm, ""},
		{changed(dead(1, 5, 0, -1, -1)), api.ErrForm, ""},
		{changed(entry(1, 0, "A1", 1, 0)), api.ErrName, "entry 1 0 A1 1 0\n"},
		{changed(live(1, 5, 2, -1, -1), entry(1, 0, "a", 1, 5), entry(1, 3, "a", 1, 5)), api.ErrThere, "inode 1 5 2 -1 -1\nentry 1 0 a 1 5\nentry 1 3 a 1 5\n"},
		{changed(entry(1, 0, "a", api.Inodes, 5)), api.ErrRange, "entry 1 0 a 8 5\n"},
		{changed(entry(1, 0, "a", 1, 5)), api.ErrLink, "entry 1 0 a 1 5\n"},
		{changed(live(1, 5, 0, -1, -1), entry(1, 0, "a", 1, 5)), api.ErrCount, "inode 1 5 0 -1 -1\nentry 1 0 a 1 5\n"},
		{changed(live(1, 5, 0, -1, 3), data(3, 6, "b")), api.ErrData, "inode 1 5 0 -1 3\ndata 3 6 =b\n"},
		{changed(live(1, 5, 0, 3, 3), data(3, 5, "b")), api.ErrTwice, "inode 1 5 0 3 3\ndata 3 5 =b\n"},
	} {
		if code := image.Check(&c.m); code != c.code {
			t.Errorf("Check is %d, want %d: %+v", code, c.code, c.m)
		}
		prints(t, c.m, c.want)
	}
}

// TestPrintOfAnyBytes: a name is told as it is, a text as it is shown.
func TestPrintOfAnyBytes(t *testing.T) {
	for _, c := range []struct{ raw, shown string }{
		{" ", "=\\20"},
		{"  ", "=\\20\\20"},
		{"a b", "=a\\20b"},
		{"\n", "=\\0a"},
		{"a\n\nb\n", "=a\\0a\\0ab\\0a"},
		{"\\", "=\\5c"},
		{"\\20", "=\\5c20"},
		{"=", "=="},
		{"\x00", "=\\00"},
		{"\x7f", "=\\7f"},
		{"\x80\xff", "=\\80\\ff"},
		{"é", "=\\c3\\a9"},
		{"\ufffd", "=\\ef\\bf\\bd"},
		{"%d%s", "=%d%s"},
		{strings.Repeat("long ", 1000), "=" + strings.Repeat("long\\20", 1000)},
	} {
		prints(t, changed(entry(1, 2, c.raw, 3, 4)), "entry 1 2 "+c.raw+" 3 4\n")
		prints(t, changed(data(6, 4, c.raw)), "data 6 4 "+c.shown+"\n")
		prints(t, changed(data(6, 0, c.raw)), "")
	}
}
