package ideal_test

import (
	"math"
	"slices"
	"strings"
	"testing"

	"eiderdown/api"
	"eiderdown/ideal"
)

var (
	longest = strings.Repeat("n", api.MaxName)
	tooLong = strings.Repeat("n", api.MaxName+1)
	most    = strings.Repeat("t", api.MaxText)
	tooMany = strings.Repeat("t", api.MaxText+1)
)

func mk(d int, s string) api.Step { return api.Step{Kind: api.SMake, Dir: d, Name: s} }

func rm(d int, s string) api.Step { return api.Step{Kind: api.SUnlink, Dir: d, Name: s} }

func ln(d int, s string, e int, t string) api.Step {
	return api.Step{Kind: api.SLink, Dir: d, Name: s, ToDir: e, To: t}
}

func mv(d int, s string, e int, t string) api.Step {
	return api.Step{Kind: api.SRename, Dir: d, Name: s, ToDir: e, To: t}
}

func put(d int, s string, p int, text string) api.Step {
	return api.Step{Kind: api.SPut, Dir: d, Name: s, P: p, Text: text}
}

func cut(d int, s string, p int) api.Step {
	return api.Step{Kind: api.SCut, Dir: d, Name: s, P: p}
}

// after is a new world in which the steps were taken, each without a code.
func after(t *testing.T, steps ...api.Step) *ideal.World {
	t.Helper()
	w := ideal.New()
	for _, x := range steps {
		if code := w.Do(x); code != 0 {
			t.Fatalf("Do(%+v) is %d", x, code)
		}
	}
	return w
}

func wantList(t *testing.T, w *ideal.World, d int, want ...string) {
	t.Helper()
	if got := w.List(d); !slices.Equal(got, want) {
		t.Errorf("List(%d) is %q, want %q", d, got, want)
	}
}

func wantRead(t *testing.T, w *ideal.World, d int, s string, p int, text string, there bool, code int) {
	t.Helper()
	gotText, gotThere, gotCode := w.Read(d, s, p)
	if gotText != text || gotThere != there || gotCode != code {
		t.Errorf("Read(%d, %q, %d) is %q, %v, %d, want %q, %v, %d", d, s, p, gotText, gotThere, gotCode, text, there, code)
	}
}

func wantSame(t *testing.T, w *ideal.World, d int, s string, e int, u string, want bool) {
	t.Helper()
	if got := w.Same(d, s, e, u); got != want {
		t.Errorf("Same(%d, %q, %d, %q) is %v", d, s, e, u, got)
	}
	if got := w.Same(e, u, d, s); got != want {
		t.Errorf("Same(%d, %q, %d, %q) is %v", e, u, d, s, got)
	}
}

func TestNew(t *testing.T) {
	w := ideal.New()
	for d := range api.Dirs {
		wantList(t, w, d)
		wantRead(t, w, d, "a", 0, "", false, api.ErrNone)
		wantSame(t, w, d, "a", d, "a", false)
	}
}

func TestWorldsAreApart(t *testing.T) {
	v := after(t, mk(0, "a"), put(0, "a", 0, "x"))
	w := ideal.New()
	wantList(t, w, 0)
	wantList(t, v, 0, "a")
}

// checks are steps and Check's codes of them.
var checks = []struct {
	what string
	x    api.Step
	code int
}{
	{"make", mk(0, "a"), 0},
	{"link", ln(0, "a", 1, "b"), 0},
	{"unlink", rm(0, "a"), 0},
	{"rename", mv(0, "a", 1, "b"), 0},
	{"put", put(0, "a", 0, "x"), 0},
	{"cut", cut(0, "a", 0), 0},
	{"a link to itself", ln(0, "a", 0, "a"), 0},
	{"last directory", mk(api.Dirs-1, "a"), 0},
	{"longest name", mk(0, longest), 0},
	{"last part", put(0, "a", api.Parts-1, "x"), 0},
	{"last part cut", cut(0, "a", api.Parts-1), 0},
	{"longest text", put(0, "a", 0, most), 0},
	{"empty text", put(0, "a", 0, ""), 0},
	{"text of bytes", put(0, "a", 0, "\x00\xff\n "), 0},
	{"last target", ln(0, "a", api.Dirs-1, longest), 0},
	{"last target of a rename", mv(0, "a", api.Dirs-1, longest), 0},

	{"kind 0", api.Step{Kind: 0, Name: "a"}, api.ErrKind},
	{"kind -1", api.Step{Kind: -1, Name: "a"}, api.ErrKind},
	{"write", api.Step{Kind: api.SWrite, Name: "a"}, api.ErrKind},
	{"sync", api.Step{Kind: api.SSync, Name: "a"}, api.ErrKind},
	{"crash", api.Step{Kind: api.SCrash, Name: "a"}, api.ErrKind},
	{"greatest kind", api.Step{Kind: math.MaxInt, Name: "a"}, api.ErrKind},
	{"least kind", api.Step{Kind: math.MinInt, Name: "a"}, api.ErrKind},
	{"zero step", api.Step{}, api.ErrKind},
	{"kind ahead of all", api.Step{Kind: 7, Dir: -1, ToDir: -1, P: -1, Text: tooMany}, api.ErrKind},

	{"directory below", mk(-1, "a"), api.ErrRange},
	{"directory beyond", mk(api.Dirs, "a"), api.ErrRange},
	{"greatest directory", rm(math.MaxInt, "a"), api.ErrRange},
	{"least directory", rm(math.MinInt, "a"), api.ErrRange},
	{"directory ahead of name", mk(api.Dirs, ""), api.ErrRange},
	{"no name", mk(0, ""), api.ErrName},
	{"long name", mk(0, tooLong), api.ErrName},
	{"great letter", rm(0, "A"), api.ErrName},
	{"number", cut(0, "a1", 0), api.ErrName},
	{"byte", put(0, "a\x00", 0, ""), api.ErrName},
	{"letter of two bytes", put(0, "é", 0, ""), api.ErrName},

	{"target below", ln(0, "a", -1, "b"), api.ErrRange},
	{"target beyond", ln(0, "a", api.Dirs, "b"), api.ErrRange},
	{"target of a rename below", mv(0, "a", -1, "b"), api.ErrRange},
	{"target of a rename beyond", mv(0, "a", api.Dirs, "b"), api.ErrRange},
	{"no target name", ln(0, "a", 1, ""), api.ErrName},
	{"long target name", ln(0, "a", 1, tooLong), api.ErrName},
	{"no target name of a rename", mv(0, "a", 1, ""), api.ErrName},
	{"long target name of a rename", mv(0, "a", 1, tooLong), api.ErrName},
	{"target directory ahead of its name", ln(0, "a", 3, "B"), api.ErrRange},
	{"name ahead of target directory", ln(0, "A", 3, "b"), api.ErrName},
	{"name ahead of target of a rename", mv(0, "A", 3, "b"), api.ErrName},
	{"directory ahead of target name", ln(3, "a", 0, "B"), api.ErrRange},

	{"part below", put(0, "a", -1, ""), api.ErrRange},
	{"part beyond", put(0, "a", api.Parts, ""), api.ErrRange},
	{"cut below", cut(0, "a", -1), api.ErrRange},
	{"cut beyond", cut(0, "a", api.Parts), api.ErrRange},
	{"greatest part", cut(0, "a", math.MaxInt), api.ErrRange},
	{"least part", put(0, "a", math.MinInt, ""), api.ErrRange},
	{"name ahead of part", put(0, "", 9, ""), api.ErrName},
	{"name ahead of part cut", cut(0, "", 9), api.ErrName},
	{"long text", put(0, "a", 0, tooMany), api.ErrLong},
	{"part ahead of text", put(0, "a", api.Parts, tooMany), api.ErrRange},
	{"name ahead of text", put(0, "B", 0, tooMany), api.ErrName},

	{"make asks for no more", api.Step{Kind: api.SMake, Name: "a", ToDir: -1, To: "A", P: -1, Text: tooMany}, 0},
	{"unlink asks for no more", api.Step{Kind: api.SUnlink, Name: "a", ToDir: -1, To: "A", P: -1, Text: tooMany}, 0},
	{"link asks for no part", api.Step{Kind: api.SLink, Name: "a", To: "b", P: -1, Text: tooMany}, 0},
	{"rename asks for no part", api.Step{Kind: api.SRename, Name: "a", To: "b", P: 9, Text: tooMany}, 0},
	{"put asks for no target", api.Step{Kind: api.SPut, Name: "a", ToDir: 9, To: "B"}, 0},
	{"cut asks for no target and no text", api.Step{Kind: api.SCut, Name: "a", ToDir: 9, To: "B", Text: tooMany}, 0},
}

func TestCheck(t *testing.T) {
	for _, c := range checks {
		if got := ideal.Check(c.x); got != c.code {
			t.Errorf("%s: Check(%+v) is %d, want %d", c.what, c.x, got, c.code)
		}
	}
}

// Check's codes are told ahead of the world's, in a world without names too,
// where every other step but SMake would have ErrNone.
func TestDoTellsCheckFirst(t *testing.T) {
	for _, c := range checks {
		if c.code == 0 {
			continue
		}
		for _, w := range []*ideal.World{ideal.New(), after(t, mk(0, "a"), mk(1, "b"))} {
			if got := w.Do(c.x); got != c.code {
				t.Errorf("%s: Do(%+v) is %d, want %d", c.what, c.x, got, c.code)
			}
		}
	}
}

func TestDoCodesOfNames(t *testing.T) {
	cases := []struct {
		what string
		x    api.Step
		code int
	}{
		{"make one that is there", mk(0, "a"), api.ErrThere},
		{"make a second name of one", mk(1, "b"), api.ErrThere},
		{"link none", ln(0, "x", 2, "y"), api.ErrNone},
		{"unlink none", rm(0, "x"), api.ErrNone},
		{"rename none", mv(0, "x", 2, "y"), api.ErrNone},
		{"put none", put(0, "x", 0, ""), api.ErrNone},
		{"cut none", cut(0, "x", 0), api.ErrNone},
		{"unlink in another directory", rm(1, "a"), api.ErrNone},
		{"unlink a longer name", rm(0, "aa"), api.ErrNone},
		{"link to a name that is there", ln(0, "a", 0, "c"), api.ErrThere},
		{"link to its own other name", ln(0, "a", 1, "b"), api.ErrThere},
		{"link to itself", ln(0, "a", 0, "a"), api.ErrThere},
		{"rename to a name that is there", mv(0, "a", 0, "c"), api.ErrThere},
		{"rename to its own other name", mv(0, "a", 1, "b"), api.ErrThere},
		{"rename to itself", mv(0, "a", 0, "a"), api.ErrThere},
		{"link: none ahead of there", ln(0, "x", 0, "a"), api.ErrNone},
		{"rename: none ahead of there", mv(0, "x", 0, "a"), api.ErrNone},
		{"link none to itself", ln(0, "x", 0, "x"), api.ErrNone},
		{"rename none to itself", mv(0, "x", 0, "x"), api.ErrNone},
	}
	for _, c := range cases {
		w := after(t, mk(0, "a"), ln(0, "a", 1, "b"), mk(0, "c"), put(0, "a", 1, "x"))
		if got := w.Do(c.x); got != c.code {
			t.Errorf("%s: Do(%+v) is %d, want %d", c.what, c.x, got, c.code)
		}
		wantList(t, w, 0, "a", "c")
		wantList(t, w, 1, "b")
		wantList(t, w, 2)
		wantSame(t, w, 0, "a", 1, "b", true)
		wantSame(t, w, 0, "a", 0, "c", false)
		wantRead(t, w, 0, "a", 0, "", false, 0)
		wantRead(t, w, 0, "a", 1, "x", true, 0)
		wantRead(t, w, 0, "c", 1, "", false, 0)
	}
}

func TestMake(t *testing.T) {
	w := after(t, mk(0, "a"), mk(0, "b"), mk(2, "a"), mk(1, longest))
	wantList(t, w, 0, "a", "b")
	wantList(t, w, 1, longest)
	wantList(t, w, 2, "a")
	wantSame(t, w, 0, "a", 2, "a", false)
	wantSame(t, w, 0, "a", 0, "b", false)
	for p := range api.Parts {
		wantRead(t, w, 0, "a", p, "", false, 0)
	}
}

// A new file of a name that went is another one: it has none of its parts.
func TestMakeAgain(t *testing.T) {
	w := after(t, mk(0, "a"), put(0, "a", 0, "x"), ln(0, "a", 1, "b"), rm(0, "a"), mk(0, "a"))
	wantRead(t, w, 0, "a", 0, "", false, 0)
	wantRead(t, w, 1, "b", 0, "x", true, 0)
	wantSame(t, w, 0, "a", 1, "b", false)
}

func TestMakeNothingMore(t *testing.T) {
	w := after(t, api.Step{Kind: api.SMake, Name: "a", ToDir: 1, To: "b", Text: "x"})
	wantList(t, w, 1)
	wantRead(t, w, 0, "a", 0, "", false, 0)
}

func TestLink(t *testing.T) {
	w := after(t, mk(0, "a"), put(0, "a", 0, "x"), ln(0, "a", 0, "b"), ln(0, "b", 2, "a"))
	wantList(t, w, 0, "a", "b")
	wantList(t, w, 2, "a")
	wantSame(t, w, 0, "a", 0, "b", true)
	wantSame(t, w, 0, "a", 2, "a", true)
	wantRead(t, w, 2, "a", 0, "x", true, 0)
}

// What is done to a file by one name is seen by all of them.
func TestNamesOfOneFile(t *testing.T) {
	w := after(t, mk(0, "a"), ln(0, "a", 1, "b"), put(1, "b", 1, "x"))
	wantRead(t, w, 0, "a", 1, "x", true, 0)
	if code := w.Do(put(0, "a", 1, "yy")); code != 0 {
		t.Errorf("put is %d", code)
	}
	wantRead(t, w, 1, "b", 1, "yy", true, 0)
	if code := w.Do(cut(1, "b", 1)); code != 0 {
		t.Errorf("cut is %d", code)
	}
	wantRead(t, w, 0, "a", 1, "", false, 0)
}

func TestUnlink(t *testing.T) {
	w := after(t, mk(0, "a"), mk(0, "b"), mk(0, "c"), mk(1, "b"), put(0, "c", 0, "x"), rm(0, "b"))
	wantList(t, w, 0, "a", "c")
	wantList(t, w, 1, "b")
	wantRead(t, w, 0, "b", 0, "", false, api.ErrNone)
	wantRead(t, w, 0, "c", 0, "x", true, 0)
	if code := w.Do(rm(0, "b")); code != api.ErrNone {
		t.Errorf("a second unlink is %d", code)
	}
}

// A file lives on while it has a name.
func TestUnlinkOneOfTwo(t *testing.T) {
	w := after(t, mk(0, "a"), put(0, "a", 0, "x"), ln(0, "a", 1, "b"), ln(0, "a", 2, "c"), rm(0, "a"))
	wantList(t, w, 0)
	wantRead(t, w, 1, "b", 0, "x", true, 0)
	wantSame(t, w, 1, "b", 2, "c", true)
	wantSame(t, w, 0, "a", 1, "b", false)
}

func TestRename(t *testing.T) {
	w := after(t, mk(0, "m"), put(0, "m", 0, "x"), mk(0, "k"), mk(0, "p"), ln(0, "m", 1, "o"), mv(0, "m", 2, "n"))
	wantList(t, w, 0, "k", "p")
	wantList(t, w, 2, "n")
	wantRead(t, w, 2, "n", 0, "x", true, 0)
	wantSame(t, w, 2, "n", 1, "o", true)
}

// Within one directory the new name may come ahead of the old one or behind.
func TestRenameInPlace(t *testing.T) {
	for _, to := range []string{"a", "l", "n", "z", "mm", longest} {
		w := after(t, mk(0, "k"), mk(0, "m"), mk(0, "p"), put(0, "m", 1, "x"), mv(0, "m", 0, to))
		want := []string{"k", "p", to}
		slices.Sort(want)
		wantList(t, w, 0, want...)
		wantRead(t, w, 0, to, 1, "x", true, 0)
		wantRead(t, w, 0, "k", 1, "", false, 0)
		wantRead(t, w, 0, "p", 1, "", false, 0)
		wantRead(t, w, 0, "m", 1, "", false, api.ErrNone)
	}
}

func TestPutAndCut(t *testing.T) {
	w := after(t, mk(1, "a"))
	last := api.Parts - 1
	for _, text := range []string{"x", "", most, "\x00\xff", "x"} {
		if code := w.Do(put(1, "a", last, text)); code != 0 {
			t.Errorf("put of %q is %d", text, code)
		}
		wantRead(t, w, 1, "a", last, text, true, 0)
		wantRead(t, w, 1, "a", 0, "", false, 0)
	}
	w.Do(put(1, "a", 0, "y"))
	for range 2 { // a part that is not there may be cut, too
		if code := w.Do(cut(1, "a", last)); code != 0 {
			t.Errorf("cut is %d", code)
		}
		wantRead(t, w, 1, "a", last, "", false, 0)
		wantRead(t, w, 1, "a", 0, "y", true, 0)
	}
}

func TestReadCodes(t *testing.T) {
	w := after(t, mk(0, "a"), put(0, "a", 0, "x"), put(0, "a", 1, "y"))
	cases := []struct {
		d, p int
		s    string
		code int
	}{
		{-1, 0, "a", api.ErrRange},
		{api.Dirs, 0, "a", api.ErrRange},
		{math.MaxInt, 0, "a", api.ErrRange},
		{math.MinInt, 0, "a", api.ErrRange},
		{-1, 0, "A", api.ErrRange},
		{0, 0, "", api.ErrName},
		{0, 0, "A", api.ErrName},
		{0, 0, tooLong, api.ErrName},
		{0, 9, "A", api.ErrName},
		{0, -1, "a", api.ErrRange},
		{0, api.Parts, "a", api.ErrRange},
		{0, math.MaxInt, "a", api.ErrRange},
		{0, math.MinInt, "a", api.ErrRange},
		{0, api.Parts, "x", api.ErrRange},
		{0, 0, "x", api.ErrNone},
		{1, 0, "a", api.ErrNone},
		{0, 0, longest, api.ErrNone},
	}
	for _, c := range cases {
		wantRead(t, w, c.d, c.s, c.p, "", false, c.code)
	}
}

func TestListOrder(t *testing.T) {
	names := []string{"b", "aa", "z", "a", "ab", "ba", "zzzzzz", "aaaaaa", "m", "abc", "az", "za", "aza"}
	w := ideal.New()
	for _, s := range names { // more than a directory of a disk has slots
		if code := w.Do(mk(1, s)); code != 0 {
			t.Fatalf("make of %q is %d", s, code)
		}
	}
	want := slices.Clone(names)
	slices.Sort(want)
	wantList(t, w, 1, want...)
	wantList(t, w, 0)
	wantList(t, w, 2)
}

func TestListOfNoDirectory(t *testing.T) {
	w := after(t, mk(0, "a"), mk(1, "b"), mk(2, "c"))
	for _, d := range []int{-1, api.Dirs, math.MaxInt, math.MinInt} {
		wantList(t, w, d)
	}
}

func TestListIsNewMemory(t *testing.T) {
	w := after(t, mk(0, "a"), mk(0, "b"))
	list := w.List(0)
	list[0] = "x"
	_ = append(list[:1], "y")
	wantList(t, w, 0, "a", "b")
	again := w.List(0)
	w.Do(rm(0, "a"))
	if !slices.Equal(again, []string{"a", "b"}) {
		t.Errorf("a list that was told became %q", again)
	}
}

func TestSame(t *testing.T) {
	w := after(t, mk(0, "a"), ln(0, "a", 1, "a"), mk(2, "a"))
	wantSame(t, w, 0, "a", 0, "a", true)
	wantSame(t, w, 0, "a", 1, "a", true)
	wantSame(t, w, 0, "a", 2, "a", false)
	wantSame(t, w, 0, "a", 0, "x", false)
	wantSame(t, w, 0, "x", 0, "x", false)
	wantSame(t, w, 0, "x", 1, "y", false)
	wantSame(t, w, 0, "", 0, "", false)
	wantSame(t, w, 0, tooLong, 0, tooLong, false)
	for _, d := range []int{-1, api.Dirs, math.MaxInt, math.MinInt} {
		wantSame(t, w, 0, "a", d, "a", false)
		wantSame(t, w, d, "a", d, "a", false)
	}
}
