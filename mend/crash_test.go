package mend_test

import (
	"slices"
	"testing"

	"eiderdown/api"
	"eiderdown/image"
	"eiderdown/mend"
	"eiderdown/soft"
)

// The first block of each kind.
const (
	inodes = 0
	dirs   = api.Inodes / api.PerBlock
	datas  = dirs + api.Dirs
)

func mk(d int, s string) api.Step { return api.Step{Kind: api.SMake, Dir: d, Name: s} }

func rm(d int, s string) api.Step { return api.Step{Kind: api.SUnlink, Dir: d, Name: s} }

func ln(d int, s string, e int, t string) api.Step {
	return api.Step{Kind: api.SLink, Dir: d, Name: s, ToDir: e, To: t}
}

func mv(d int, s string, e int, t string) api.Step {
	return api.Step{Kind: api.SRename, Dir: d, Name: s, ToDir: e, To: t}
}

func put(d int, s string, p int, text string) api.Step {
	return api.Step{Kind: api.SPut, Dir: d, Name: s, P: p, Text: text}
}

func cut(d int, s string, p int) api.Step {
	return api.Step{Kind: api.SCut, Dir: d, Name: s, P: p}
}

// take takes the steps, each without a code.
func take(t *testing.T, f *soft.Files, steps ...api.Step) {
	t.Helper()
	for _, x := range steps {
		if code := f.Do(x); code != 0 {
			t.Fatalf("Do(%+v) is %d", x, code)
		}
	}
}

// begun has two files on its disk: the inode 0 with the names a and b and a
// part in the data 0, the inode 1 with the name c and a part in the data 1.
func begun(t *testing.T) *soft.Files {
	t.Helper()
	f := soft.New()
	take(t, f, mk(0, "a"), ln(0, "a", 1, "b"), put(0, "a", 0, "x"), mk(1, "c"), put(1, "c", 1, "y"))
	f.Sync()
	if !f.Clean() {
		t.Fatalf("it is not clean: now %+v, disk %+v", f.Now, f.Disk())
	}
	return f
}

// wantKept: has the mended disk the names and the texts that lay on the disk?
func wantKept(t *testing.T, what string, disk, mended api.Image) {
	t.Helper()
	f, g := soft.Of(disk), soft.Of(mended)
	if f == nil || g == nil {
		t.Fatalf("%s: there are no files of %+v, or of %+v", what, disk, mended)
	}
	for d := range api.Dirs {
		if !slices.Equal(f.List(d), g.List(d)) {
			t.Errorf("%s: List(%d) is %q, was %q", what, d, g.List(d), f.List(d))
		}
		for _, s := range f.List(d) {
			for p := range api.Parts {
				text, there, code := g.Read(d, s, p)
				was, wasThere, wasCode := f.Read(d, s, p)
				if text != was || there != wasThere || code != wasCode {
					t.Errorf("%s: Read(%d, %q, %d) is %q, %v, %d, was %q, %v, %d", what, d, s, p, text, there, code, was, wasThere, wasCode)
				}
			}
		}
	}
}

// TestCrash: what lies on the disk behind steps and some Writes is mended, and
// is then as it lay there, but for what is set.
func TestCrash(t *testing.T) {
	for _, c := range []struct {
		what   string
		steps  []api.Step
		blocks []int
		sets   []set
		lost   mend.Lost
	}{
		{"nothing was done", nil, nil, nil, mend.Lost{}},
		{"nothing was written", []api.Step{mk(2, "d"), put(2, "d", 0, "z"), rm(0, "a"), cut(1, "c", 1)}, nil, nil, mend.Lost{}},
		{"the name did not come", []api.Step{mk(2, "d")}, []int{dirs + 2, inodes}, []set{free(2)}, mend.Lost{Files: 1}},
		{"the name came", []api.Step{mk(2, "d")}, []int{inodes, dirs + 2}, nil, mend.Lost{}},
		{"the name did not come, but its part", []api.Step{mk(2, "d"), put(2, "d", 0, "z")}, []int{datas + 2, inodes},
			[]set{free(2), none(2)}, mend.Lost{Files: 1, Datas: 1}},
		{"the part did not come", []api.Step{put(1, "c", 0, "z")}, []int{inodes, datas + 2}, []set{none(2)}, mend.Lost{Datas: 1}},
		{"the part came", []api.Step{put(1, "c", 0, "z")}, []int{datas + 2, inodes}, nil, mend.Lost{}},
		{"the part came, and is empty", []api.Step{put(1, "c", 0, "")}, []int{datas + 2, inodes}, nil, mend.Lost{}},
		{"the other name did not come", []api.Step{ln(1, "c", 2, "d")}, []int{dirs + 2, inodes}, []set{links(1, 1)}, mend.Lost{Counts: 1}},
		{"the other name came", []api.Step{ln(1, "c", 2, "d")}, []int{inodes, dirs + 2}, nil, mend.Lost{}},
		{"one of two names went", []api.Step{rm(0, "a")}, []int{dirs}, []set{links(0, 1)}, mend.Lost{Counts: 1}},
		{"one of two names went, and is not counted", []api.Step{rm(0, "a")}, []int{dirs, inodes}, nil, mend.Lost{}},
		{"the last name went", []api.Step{rm(1, "c")}, []int{dirs + 1}, []set{free(1), none(1)}, mend.Lost{Files: 1, Datas: 1}},
		{"the last name went, and the file", []api.Step{rm(1, "c")}, []int{dirs + 1, inodes}, []set{none(1)}, mend.Lost{Datas: 1}},
		{"the last name stays", []api.Step{rm(1, "c")}, []int{inodes, datas + 1}, nil, mend.Lost{}},
		{"both names went", []api.Step{rm(0, "a"), rm(1, "b")}, []int{dirs, dirs + 1}, []set{free(0), none(0)}, mend.Lost{Files: 1, Datas: 1}},
		{"a part is cut", []api.Step{cut(0, "a", 0)}, []int{inodes}, []set{none(0)}, mend.Lost{Datas: 1}},
		{"a part is cut, and lies there", []api.Step{cut(0, "a", 0)}, []int{datas}, nil, mend.Lost{}},
		{"renamed, counted twice", []api.Step{mv(1, "c", 2, "c")}, []int{inodes}, []set{links(1, 1)}, mend.Lost{Counts: 1}},
		{"renamed, both names", []api.Step{mv(1, "c", 2, "c")}, []int{inodes, dirs + 2}, nil, mend.Lost{}},
		{"renamed, the new name", []api.Step{mv(1, "c", 2, "c")}, []int{inodes, dirs + 2, dirs + 1}, []set{links(1, 1)}, mend.Lost{Counts: 1}},
		{"renamed, all", []api.Step{mv(1, "c", 2, "c")}, []int{inodes, dirs + 2, dirs + 1, inodes}, nil, mend.Lost{}},
		{"all three", []api.Step{rm(0, "a"), rm(1, "c"), mk(2, "d"), put(2, "d", 1, "z"), mk(2, "e"), put(1, "b", 1, "w")},
			[]int{datas + 2, inodes, dirs, dirs + 1, datas + 3},
			[]set{links(0, 1), free(1), none(1), free(2), none(2), free(3), none(3)}, mend.Lost{Files: 3, Counts: 1, Datas: 3}},
	} {
		f := begun(t)
		take(t, f, c.steps...)
		for _, b := range c.blocks {
			f.Write(b)
		}
		disk := f.Disk()
		want := with(disk, c.sets...)
		wantMend(t, c.what, disk, want, c.lost)
		wantKept(t, c.what, disk, want)
		if f.Disk() != disk {
			t.Errorf("%s: Disk is %+v, was %+v", c.what, f.Disk(), disk)
		}
	}
}

// TestCrashBehindSync: no file and no count is lost, as all was written; of
// the data those alone that were cut, as they lie there still.
func TestCrashBehindSync(t *testing.T) {
	f := begun(t)
	take(t, f, mk(2, "d"), ln(1, "c", 0, "c"), put(2, "d", 1, "z"), mv(0, "a", 2, "a"))
	f.Sync()
	wantMend(t, "written", f.Disk(), f.Now, mend.Lost{})
	take(t, f, cut(2, "a", 0))
	f.Sync()
	wantMend(t, "cut", f.Disk(), with(f.Now, none(0)), mend.Lost{Datas: 1})
}

// TestCodeOfADiskThatIsTorn: what soft leaves may be mended, what is set there
// by another hand may not.
func TestCodeOfADiskThatIsTorn(t *testing.T) {
	f := begun(t)
	take(t, f, rm(0, "a"), mk(2, "d"))
	f.Write(inodes)
	disk := f.Disk()
	wantCode(t, "a name to a free inode", with(disk, entry(2, 1, "z", 7, 3)), api.ErrLink)
	wantCode(t, "a count too low", with(disk, links(0, 1)), api.ErrCount)
	wantMend(t, "as it is", disk, with(disk, free(2)), mend.Lost{Files: 1})
	if image.Check(&disk) != 0 {
		t.Errorf("Check is %d", image.Check(&disk))
	}
}
