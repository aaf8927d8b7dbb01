package desk_test

import (
	"slices"
	"strconv"
	"strings"
	"testing"

	"eiderdown/api"
	"eiderdown/desk"
)

var (
	longest = strings.Repeat("z", api.MaxName)
	tooLong = longest + "z"
	most    = strings.Repeat("m", api.MaxText)
	tooMany = most + "m"
)

var none api.Fault

// lines are the things told, each ended by a newline.
func lines(things ...string) string {
	var b strings.Builder
	for _, s := range things {
		b.WriteString(s + "\n")
	}
	return b.String()
}

// wantDo: does the desk tell that of the lines, and has no fault?
func wantDo(t *testing.T, d *desk.Desk, asked []string, want string) {
	t.Helper()
	ahead := slices.Clone(asked)
	got, fault := d.Do(asked)
	if got != want || fault != none {
		t.Errorf("Do(%q) is\n%q %+v, want\n%q", ahead, got, fault, want)
	}
	if !slices.Equal(asked, ahead) {
		t.Errorf("Do(%q) changed its lines to %q", ahead, asked)
	}
}

// do has the lines done, whatever they tell.
func do(t *testing.T, d *desk.Desk, asked ...string) string {
	t.Helper()
	told, fault := d.Do(asked)
	if fault != none {
		t.Fatalf("Do(%q) is %q %+v", asked, told, fault)
	}
	return told
}

// ready is a new desk behind the lines, each of which is a step that goes well.
func ready(t *testing.T, asked ...string) *desk.Desk {
	t.Helper()
	d := desk.New()
	wantDo(t, d, asked, strings.Repeat("ok\n", len(asked)))
	return d
}

// talk is lines, each with the things that it tells behind it, newlines
// between; without any it tells nothing. It is held in one Do, and line by line.
func talk(t *testing.T, ahead []string, pairs ...string) {
	t.Helper()
	whole, one := ready(t, ahead...), ready(t, ahead...)
	var asked []string
	var told string
	for k := 0; k < len(pairs); k += 2 {
		want := ""
		if pairs[k+1] != "" {
			want = pairs[k+1] + "\n"
		}
		wantDo(t, one, pairs[k:k+1], want)
		asked, told = append(asked, pairs[k]), told+want
	}
	wantDo(t, whole, asked, told)
}

// all asks for what there is.
var all = []string{"list 0", "list 1", "list 2", "disk", "dirty", "lost"}

// wantSame: do both desks tell the same of all that there is?
func wantSame(t *testing.T, what string, got, want *desk.Desk) {
	t.Helper()
	if a, b := do(t, got, all...), do(t, want, all...); a != b {
		t.Errorf("%s: there is\n%s, want\n%s", what, a, b)
	}
}

// some has a file with two names and a part, which are written, and one that
// has none of that.
var some = []string{"make 0 a", "put 0 a 1 =x", "link 0 a 1 b", "sync", "make 2 c"}

// crowded has no slot in the directories 0 and 1, no inode, and no data.
var crowded = crowd()

func crowd() []string {
	var list []string
	for n := range api.Inodes {
		list = append(list, "make "+where(n))
	}
	for n := range api.Datas {
		list = append(list, "put "+where(n/api.Parts)+" "+strconv.Itoa(n%api.Parts)+" =")
	}
	return list
}

// where is the directory and the name of a file of those that are crowded.
func where(n int) string { return strconv.Itoa(n/api.Slots) + " n" + string(rune('a'+n)) }

// fault is a line of the table that tells a code.
type fault struct {
	ahead []string
	line  string
	code  int
}

// faults are all codes of each line that has some, in their order: where two
// are so, the first one is told.
var faults = []fault{
	{some, "make 3 x", api.ErrRange},
	{some, "make x a", api.ErrRange},
	{some, "make 3 A", api.ErrRange},
	{some, "make 0 A", api.ErrName},
	{some, "make 0 " + tooLong, api.ErrName},
	{some, "make 0 a", api.ErrThere},
	{some, "make 2 c", api.ErrThere},
	{crowded, "make 0 x", api.ErrFull},
	{crowded, "make 2 x", api.ErrFull},
	{crowded, "make 0 na", api.ErrThere},
	{[]string{"make 0 a", "sync", "unlink 0 a"}, "make 0 a", api.ErrFull},

	{some, "unlink 3 a", api.ErrRange},
	{some, "unlink -1 a", api.ErrRange},
	{some, "unlink 0 a.", api.ErrName},
	{some, "unlink 0 b", api.ErrNone},
	{some, "unlink 2 a", api.ErrNone},

	{some, "link 3 a 1 x", api.ErrRange},
	{some, "link 3 A 4 X", api.ErrRange},
	{some, "link 0 A 4 X", api.ErrName},
	{some, "link 0 a 4 X", api.ErrRange},
	{some, "link 0 a x x", api.ErrRange},
	{some, "link 0 x 1 X", api.ErrName},
	{some, "link 0 x 1 b", api.ErrNone},
	{some, "link 0 a 1 b", api.ErrThere},
	{some, "link 0 a 0 a", api.ErrThere},
	{crowded, "link 0 na 1 x", api.ErrFull},
	{[]string{"make 0 a", "sync", "rename 0 a 1 b"}, "link 1 b 0 a", api.ErrFull},

	{some, "rename 3 a 1 x", api.ErrRange},
	{some, "rename 3 A 4 X", api.ErrRange},
	{some, "rename 0 A 4 X", api.ErrName},
	{some, "rename 0 a 4 X", api.ErrRange},
	{some, "rename 0 a x x", api.ErrRange},
	{some, "rename 0 x 1 X", api.ErrName},
	{some, "rename 0 x 1 b", api.ErrNone},
	{some, "rename 0 a 1 b", api.ErrThere},
	{some, "rename 0 a 0 a", api.ErrThere},
	{crowded, "rename 0 na 0 x", api.ErrFull},
	{[]string{"make 0 a", "sync", "rename 0 a 1 b"}, "rename 1 b 0 a", api.ErrFull},

	{some, "put 3 a 0 =", api.ErrRange},
	{some, "put 3 A 2 =" + tooMany, api.ErrRange},
	{some, "put 0 A 2 =" + tooMany, api.ErrName},
	{some, "put 0 a 2 =" + tooMany, api.ErrRange},
	{some, "put 0 a x =x", api.ErrRange},
	{some, "put 0 x 0 =" + tooMany, api.ErrLong},
	{some, "put 0 a 1 =" + tooMany, api.ErrLong},
	{some, `put 0 a 1 =\00` + most, api.ErrLong},
	{some, "put 0 x 0 =x", api.ErrNone},
	{crowded, "put 1 nh 0 =", api.ErrFull},

	{some, "cut 3 a 0", api.ErrRange},
	{some, "cut 3 A 2", api.ErrRange},
	{some, "cut 0 A 2", api.ErrName},
	{some, "cut 0 x 2", api.ErrRange},
	{some, "cut 0 a =", api.ErrRange},
	{some, "cut 0 x 1", api.ErrNone},

	{some, "write 14", api.ErrRange},
	{some, "write -1", api.ErrRange},
	{some, "write 00", api.ErrRange},
	{some, "write b", api.ErrRange},

	{some, "read 3 a 0", api.ErrRange},
	{some, "read 3 A 2", api.ErrRange},
	{some, "read 0 A 2", api.ErrName},
	{some, "read 0 x 2", api.ErrRange},
	{some, "read 0 a =", api.ErrRange},
	{some, "read 0 x 1", api.ErrNone},
}

// TestCodes: each line that has a code tells it, and changes nothing.
func TestCodes(t *testing.T) {
	for _, f := range faults {
		d := ready(t, f.ahead...)
		wantDo(t, d, []string{f.line}, lines("no "+strconv.Itoa(f.code)))
		wantSame(t, f.line, d, ready(t, f.ahead...))
	}
}

// TestSteps: each step that goes well tells ok, and is done.
func TestSteps(t *testing.T) {
	for _, c := range []struct {
		line string
		then []string
	}{
		{"make 2 x", []string{"list 2", "names c x", "read 2 x 0", "none", "dirty", "dirty 0 4"}},
		{"make 1 " + longest, []string{"list 1", "names b " + longest}},
		{"unlink 0 a", []string{"list 0", "names", "read 1 b 1", "=x"}},
		{"unlink 2 c", []string{"list 2", "names", "dirty", "dirty"}},
		{"link 0 a 2 x", []string{"list 0", "names a", "list 2", "names c x", "same 0 a 2 x", "true"}},
		{"link 1 b 1 a", []string{"list 1", "names a b", "same 0 a 1 a", "true"}},
		{"rename 0 a 2 x", []string{"list 0", "names", "list 2", "names c x", "same 1 b 2 x", "true"}},
		{"rename 2 c 2 x", []string{"list 2", "names x"}},
		{"put 0 a 1 =" + most, []string{"read 1 b 1", "=" + most, "dirty", "dirty 0 4 5"}},
		{"put 1 b 0 =", []string{"read 0 a 0", "=", "read 0 a 1", "=x", "dirty", "dirty 0 4 6"}},
		{"cut 0 a 1", []string{"read 1 b 1", "none", "read 0 a 1", "none"}},
		{"cut 2 c 0", []string{"read 2 c 0", "none"}},
		{"write 0", []string{"dirty", "dirty 4", "disk", "inode 0 1 2 -1 0\ninode 1 2 1 -1 -1\nentry 0 0 a 0 1\nentry 1 0 b 0 1\ndata 0 1 =x\nend"}},
		{"write 4", []string{"dirty", "dirty 0 4"}},
		{"write 13", []string{"dirty", "dirty 0 4"}},
		{"sync", []string{"dirty", "dirty", "sure 2 c", "true"}},
		{"crash", []string{"lost", "lost 1 0 0 0", "list 2", "names", "list 1", "names b", "dirty", "dirty"}},
	} {
		talk(t, some, append([]string{c.line, "ok"}, c.then...)...)
	}
}

func TestAnswers(t *testing.T) {
	talk(t, nil,
		"list 0", "names",
		"list 2", "names",
		"same 0 a 0 a", "false",
		"sure 0 a", "false",
		"read 0 a 0", "no 5",
		"disk", "end",
		"dirty", "dirty",
		"lost", "lost 0 0 0 0",
	)
	talk(t, some,
		"read 0 a 1", "=x",
		"read 1 b 1", "=x",
		"read 0 a 0", "none",
		"read 2 c 1", "none",
		"list 0", "names a",
		"list 1", "names b",
		"list 2", "names c",
		"list 3", "names",
		"list x", "names",
		"same 0 a 1 b", "true",
		"same 1 b 0 a", "true",
		"same 0 a 0 a", "true",
		"same 0 a 2 c", "false",
		"same 0 a 0 b", "false",
		"same 0 b 0 a", "false",
		"same 0 b 0 b", "false",
		"same 3 a 3 a", "false",
		"same 0 a x a", "false",
		"same A A = =", "false",
		"sure 0 a", "true",
		"sure 1 b", "true",
		"sure 2 c", "false",
		"sure 0 b", "false",
		"sure 3 a", "false",
		"sure -1 A", "false",
	)
}

// TestListRises: names are told by their bytes, not as they came.
func TestListRises(t *testing.T) {
	talk(t, []string{"make 1 b", "make 1 ab", "make 1 z", "make 1 a"},
		"list 1", "names a ab b z",
		"unlink 1 ab", "ok",
		"list 1", "names a b z",
	)
}

// TestRead: each text is told as it is shown, and the empty one is not none.
func TestRead(t *testing.T) {
	talk(t, []string{"make 0 a"},
		"put 0 a 0 =", "ok",
		"read 0 a 0", "=",
		"read 0 a 1", "none",
		`put 0 a 0 =\20\0a\00`, "ok",
		"read 0 a 0", `=\20\0a\00`,
		`put 0 a 0 =\5c\ff==`, "ok",
		"read 0 a 0", `=\5c\ff==`,
		"put 0 a 0 =none", "ok",
		"read 0 a 0", "=none",
		"put 0 a 0 ="+most, "ok",
		"read 0 a 0", "="+most,
		`put 0 a 0 =\80\81\82\83\84\85\86\87`, "ok",
		"read 0 a 0", `=\80\81\82\83\84\85\86\87`,
		"cut 0 a 0", "ok",
		"read 0 a 0", "none",
	)
}

func TestDisk(t *testing.T) {
	const written = "inode 0 1 2 -1 0\nentry 0 0 a 0 1\nentry 1 0 b 0 1\ndata 0 1 =x\nend"
	talk(t, nil,
		"disk", "end",
		"make 0 a", "ok",
		`put 0 a 0 =\20`, "ok",
		"disk", "end",
		"write 5", "ok",
		"disk", "data 0 1 =\\20\nend",
		"write 2", "ok",
		"disk", "data 0 1 =\\20\nend",
		"write 0", "ok",
		"disk", "inode 0 1 1 0 -1\ndata 0 1 =\\20\nend",
		"write 2", "ok",
		"disk", "inode 0 1 1 0 -1\nentry 0 0 a 0 1\ndata 0 1 =\\20\nend",
	)
	talk(t, some,
		"disk", written,
		"link 0 a 2 d", "ok",
		"disk", written,
		"write 0", "ok",
		"disk", "inode 0 1 3 -1 0\ninode 1 2 1 -1 -1\nentry 0 0 a 0 1\nentry 1 0 b 0 1\ndata 0 1 =x\nend",
		"crash", "ok",
		"disk", written,
		"crash", "ok",
		"disk", written,
		"unlink 0 a", "ok",
		"unlink 1 b", "ok",
		"sync", "ok",
		"disk", "data 0 1 =x\nend",
		"crash", "ok",
		"disk", "end",
	)
}

func TestDirty(t *testing.T) {
	talk(t, nil,
		"dirty", "dirty",
		"make 1 a", "ok",
		"dirty", "dirty 0 3",
		"make 0 b", "ok",
		"put 0 b 1 =", "ok",
		"dirty", "dirty 0 2 3 5",
		"write 3", "ok",
		"dirty", "dirty 0 2 3 5",
		"write 0", "ok",
		"dirty", "dirty 0 2 3 5",
		"write 3", "ok",
		"dirty", "dirty 0 2 5",
		"sync", "ok",
		"dirty", "dirty",
	)
	talk(t, append(slices.Clone(crowded), "rename 0 na 2 na"),
		"dirty", "dirty 0 1 2 3 4 5 6 7 8 9 10 11 12 13",
		"crash", "ok",
		"dirty", "dirty",
	)
}

// TestLost: what is told is of the last crash alone, till there is another one.
func TestLost(t *testing.T) {
	talk(t, nil,
		"lost", "lost 0 0 0 0",
		"crash", "ok",
		"lost", "lost 1 0 0 0",
		"make 0 a", "ok",
		"sync", "ok",
		"link 0 a 1 b", "ok",
		"make 2 c", "ok",
		"make 2 d", "ok",
		"put 2 c 0 =x", "ok",
		"put 2 c 1 =y", "ok",
		"put 2 d 1 =z", "ok",
		"lost", "lost 1 0 0 0",
		"write 7", "ok",
		"write 6", "ok",
		"write 5", "ok",
		"write 0", "ok",
		"lost", "lost 1 0 0 0",
		"crash", "ok",
		"lost", "lost 2 2 1 3",
		"list 2", "names",
		"sync", "ok",
		"lost", "lost 2 2 1 3",
		"lost", "lost 2 2 1 3",
		"crash", "ok",
		"lost", "lost 3 0 0 0",
	)
}

// TestExamples: the document's own.
func TestExamples(t *testing.T) {
	talk(t, nil,
		"make 0 a", "ok",
		"write 2", "ok",
		"sure 0 a", "false",
		"write 0", "ok",
		"write 2", "ok",
		"sure 0 a", "true",
		"rename 0 a 1 b", "ok",
		"write 0", "ok",
		"disk", "inode 0 1 2 -1 -1\nentry 0 0 a 0 1\nend",
		"write 3", "ok",
		"disk", "inode 0 1 2 -1 -1\nentry 0 0 a 0 1\nentry 1 0 b 0 1\nend",
		"write 2", "ok",
		"disk", "inode 0 1 2 -1 -1\nentry 1 0 b 0 1\nend",
		"write 0", "ok",
		"disk", "inode 0 1 1 -1 -1\nentry 1 0 b 0 1\nend",
		"unlink 1 b", "ok",
		"make 1 b", "no 6",
		"write 3", "ok",
		"make 1 b", "ok",
	)
	talk(t, []string{"make 0 a", "sync", "rename 0 a 1 b", "write 0", "write 3", "crash"},
		"list 0", "names a",
		"list 1", "names b",
		"same 0 a 1 b", "true",
		"lost", "lost 1 0 0 0",
	)
}

// TestReadme: what README.md shows of a desk.
func TestReadme(t *testing.T) {
	talk(t, nil,
		"make 0 a", "ok",
		"put 0 a 1 =x", "ok",
		"read 0 a 1", "=x",
		"read 0 a 0", "none",
		"read 0 b 0", "no 5",
		"dirty", "dirty 0 2 5",
		"sync", "ok",
		"link 0 a 2 b", "ok",
		"same 0 a 2 b", "true",
		"sure 2 b", "false",
		"crash", "ok",
		"list 2", "names",
		"lost", "lost 1 0 0 0",
		"disk", "inode 0 1 1 -1 0\nentry 0 0 a 0 1\ndata 0 1 =x\nend",
		"hello", "what",
	)
}
