// Package image: images of a disk, and whether they may be mended. See doc/01-image.md.
package image

import (
	"eiderdown/api"
)

// Name: is it a name, 1 to MaxName letters a to z?
func Name(s string) bool {
	if len(s) < 1 || len(s) > api.MaxName {
		return false
	}
	for i := range len(s) {
		if s[i] < 'a' || s[i] > 'z' {
			return false
		}
	}
	return true
}

// New has no names, free inodes, and data of none.
func New() api.Image {
	var m api.Image
	for n := range m.Inode {
		m.Inode[n] = Free()
	}
	return m
}

// Free is an inode that is not live: all 0, but its parts -1, as 0 would be a data.
func Free() api.Inode {
	var f api.Inode
	for p := range f.Part {
		f.Part[p] = -1
	}
	return f
}

// Refs is how many entries with names lead to the inode. A name that is not
// a right one counts too: Check tells of it, Refs only counts.
func Refs(m *api.Image, ino int) int {
	count := 0
	for d := range m.Dir {
		for s := range m.Dir[d] {
			e := &m.Dir[d][s]
			if e.Name != "" && e.Ino == ino {
				count++
			}
		}
	}
	return count
}

// Holds: does a part of a live inode lead to that data? Numbers that are no
// data are held by none: -1 in a part says that there is none.
func Holds(m *api.Image, x int) bool {
	if !isData(x) {
		return false
	}
	for n := range m.Inode {
		if m.Inode[n].Live && hasPart(&m.Inode[n], x) {
			return true
		}
	}
	return false
}

// Find is the first slot of the directory with that name; -1: none. An empty
// name is refused, as every slot without a name would have it.
func Find(m *api.Image, d int, name string) int {
	if d < 0 || d >= api.Dirs || name == "" {
		return -1
	}
	for s := range m.Dir[d] {
		if m.Dir[d][s].Name == name {
			return s
		}
	}
	return -1
}

// Check is the code of what keeps the image from being mended; 0: it may be.
func Check(m *api.Image) int {
	for d := range m.Dir {
		for s := range m.Dir[d] {
			if code := checkSlot(m, d, s); code != 0 {
				return code
			}
		}
	}
	for n := range m.Inode {
		if code := checkInode(m, n); code != 0 {
			return code
		}
	}
	if stampTwice(m) || dataTwice(m) {
		return api.ErrTwice
	}
	return 0
}

// Exact: may it be mended, and has each live inode as many Links as Refs, and
// more than 0? Then there is nothing to mend of its counts.
func Exact(m *api.Image) bool {
	if Check(m) != 0 {
		return false
	}
	for n := range m.Inode {
		i := &m.Inode[n]
		if i.Live && (i.Links < 1 || i.Links != Refs(m, n)) {
			return false
		}
	}
	return true
}

func isInode(n int) bool { return n >= 0 && n < api.Inodes }

func isData(x int) bool { return x >= 0 && x < api.Datas }

func hasPart(i *api.Inode, x int) bool {
	for _, p := range i.Part {
		if p == x {
			return true
		}
	}
	return false
}

// checkSlot is the first code of one slot.
func checkSlot(m *api.Image, d, s int) int {
	e := m.Dir[d][s]
	if e.Name == "" {
		if e != (api.Entry{}) {
			return api.ErrForm
		}
		return 0
	}
	switch {
	case !Name(e.Name):
		return api.ErrName
	case Find(m, d, e.Name) < s:
		return api.ErrThere
	case !isInode(e.Ino):
		return api.ErrRange
	case !m.Inode[e.Ino].Live || m.Inode[e.Ino].Stamp != e.Stamp:
		return api.ErrLink
	}
	return 0
}

// checkInode is the first code of one inode, and of its parts.
func checkInode(m *api.Image, n int) int {
	i := m.Inode[n]
	if !i.Live {
		if i != Free() {
			return api.ErrForm
		}
		return 0
	}
	if i.Stamp < 1 || i.Links < Refs(m, n) {
		return api.ErrCount
	}
	for _, p := range i.Part {
		if code := checkPart(m, p, i.Stamp); code != 0 {
			return code
		}
	}
	return 0
}

// checkPart is the first code of one part of the file with that stamp.
func checkPart(m *api.Image, p, stamp int) int {
	switch {
	case p == -1:
		return 0
	case !isData(p):
		return api.ErrRange
	case m.Data[p].Of != stamp:
		return api.ErrData
	}
	return 0
}

// stampTwice: have two live inodes the same Stamp?
func stampTwice(m *api.Image) bool {
	for n := range m.Inode {
		for k := range n {
			if m.Inode[n].Live && m.Inode[k].Live && m.Inode[n].Stamp == m.Inode[k].Stamp {
				return true
			}
		}
	}
	return false
}

// dataTwice: do two parts of live inodes lead to the same data? Two parts of
// one inode count too, so that parts are gone through, not inodes.
func dataTwice(m *api.Image) bool {
	var held [api.Datas]bool
	for n := range m.Inode {
		if !m.Inode[n].Live {
			continue
		}
		for _, p := range m.Inode[n].Part {
			if !isData(p) {
				continue
			}
			if held[p] {
				return true
			}
			held[p] = true
		}
	}
	return false
}
