package ideal_test

import (
	"slices"
	"testing"

	"eiderdown/api"
	"eiderdown/ideal"
)

// dice tells numbers by a fixed rule, so that each run sees the same steps.
type dice uint64

func (d *dice) below(n int) int {
	*d = *d*6364136223846793005 + 1442695040888963407
	return int(uint64(*d)>>33) % n
}

func (d *dice) text(list ...string) string { return list[d.below(len(list))] }

// step is right for the most part; a bad one may be wrong in several ways.
func (d *dice) step() api.Step {
	x := api.Step{
		Kind:  1 + d.below(6),
		Dir:   d.below(api.Dirs),
		ToDir: d.below(api.Dirs),
		P:     d.below(api.Parts),
		Name:  d.text("a", "b", "ab", "ba"),
		To:    d.text("a", "b", "ab", longest),
		Text:  d.text("", "x", "yy", most),
	}
	for d.below(5) == 0 {
		switch d.below(7) {
		case 0:
			x.Kind = d.below(12) - 1
		case 1:
			x.Dir = d.below(9) - 3
		case 2:
			x.ToDir = d.below(9) - 3
		case 3:
			x.P = d.below(9) - 3
		case 4:
			x.Name = d.text("", "A", tooLong, "\xff")
		case 5:
			x.To = d.text("", "A", tooLong, "\xff")
		case 6:
			x.Text = tooMany
		}
	}
	return x
}

// spot is a name in a directory.
type spot struct {
	dir  int
	name string
}

// plain is a world in another form: a number for each name, and texts by
// number and part.
type plain struct {
	last  int
	file  map[spot]int
	texts map[[2]int]string
}

func (w *plain) right(s spot) int {
	if s.dir < 0 || s.dir > 2 {
		return api.ErrRange
	}
	if len(s.name) == 0 || len(s.name) > 6 || slices.ContainsFunc([]byte(s.name), func(b byte) bool { return b < 'a' || b > 'z' }) {
		return api.ErrName
	}
	return 0
}

// faults are all codes of a step, in the order in which they are told.
func (w *plain) faults(x api.Step) []int {
	if x.Kind < 1 || x.Kind > 6 {
		return []int{api.ErrKind}
	}
	from, to := spot{x.Dir, x.Name}, spot{x.ToDir, x.To}
	two := x.Kind == api.SLink || x.Kind == api.SRename
	part := x.Kind == api.SPut || x.Kind == api.SCut
	codes := []int{w.right(from)}
	if two {
		codes = append(codes, w.right(to))
	}
	if part && x.P != 0 && x.P != 1 {
		codes = append(codes, api.ErrRange)
	}
	if x.Kind == api.SPut && len(x.Text) > 8 {
		codes = append(codes, api.ErrLong)
	}
	if x.Kind != api.SMake && w.file[from] == 0 {
		codes = append(codes, api.ErrNone)
	}
	if x.Kind == api.SMake && w.file[from] != 0 || two && w.file[to] != 0 {
		codes = append(codes, api.ErrThere)
	}
	return slices.DeleteFunc(codes, func(c int) bool { return c == 0 })
}

func (w *plain) do(x api.Step) int {
	if codes := w.faults(x); len(codes) > 0 {
		return codes[0]
	}
	from, to := spot{x.Dir, x.Name}, spot{x.ToDir, x.To}
	n := w.file[from]
	switch x.Kind {
	case api.SMake:
		w.last++
		w.file[from] = w.last
	case api.SLink:
		w.file[to] = n
	case api.SUnlink:
		delete(w.file, from)
	case api.SRename:
		w.file[to] = n
		delete(w.file, from)
	case api.SPut:
		w.texts[[2]int{n, x.P}] = x.Text
	case api.SCut:
		delete(w.texts, [2]int{n, x.P})
	}
	return 0
}

func (w *plain) list(d int) []string {
	var names []string
	for s := range w.file {
		if s.dir == d {
			names = append(names, s.name)
		}
	}
	slices.Sort(names)
	return names
}

// compare holds all that a world tells against the plain one.
func compare(t *testing.T, w *ideal.World, v *plain) {
	t.Helper()
	for d := range api.Dirs {
		wantList(t, w, d, v.list(d)...)
	}
	for s, n := range v.file {
		for p := range api.Parts {
			text, there := v.texts[[2]int{n, p}]
			wantRead(t, w, s.dir, s.name, p, text, there, 0)
		}
		for u, k := range v.file {
			if got := w.Same(s.dir, s.name, u.dir, u.name); got != (n == k) {
				t.Errorf("Same(%v, %v) is %v", s, u, got)
			}
		}
	}
}

func TestManySteps(t *testing.T) {
	told := map[int]int{}
	for seed := range 20 {
		d := dice(seed)
		w, v := ideal.New(), &plain{file: map[spot]int{}, texts: map[[2]int]string{}}
		for range 400 {
			x := d.step()
			want := v.do(x)
			if got := w.Do(x); got != want {
				t.Fatalf("seed %d: Do(%+v) is %d, want %d", seed, x, got, want)
			}
			told[want]++
			compare(t, w, v)
			if t.Failed() {
				t.Fatalf("seed %d: after %+v", seed, x)
			}
		}
	}
	for _, code := range []int{0, api.ErrKind, api.ErrRange, api.ErrName, api.ErrLong, api.ErrThere, api.ErrNone} {
		if told[code] == 0 {
			t.Errorf("the code %d was never told", code)
		}
	}
}

// Two worlds of which the same is asked answer the same, whatever is asked of
// others between.
func TestAnswersHangOnWhatWasAsked(t *testing.T) {
	d := dice(7)
	w, v, other := ideal.New(), ideal.New(), ideal.New()
	for range 300 {
		x := d.step()
		a := w.Do(x)
		other.Do(d.step())
		if b := v.Do(x); a != b {
			t.Fatalf("Do(%+v) is %d, and %d", x, a, b)
		}
		for n := range api.Dirs {
			wantList(t, v, n, w.List(n)...)
		}
	}
}
