package text_test

import (
	"encoding/hex"
	"fmt"
	"math"
	"regexp"
	"strings"
	"testing"

	"eiderdown/api"
	"eiderdown/image"
	"eiderdown/text"
)

// dice tells numbers by a fixed rule, so that each run sees the same texts.
type dice uint64

func (d *dice) below(n int) int {
	*d = *d*6364136223846793005 + 1442695040888963407
	return int(uint64(*d)>>33) % n
}

func (d *dice) number() int {
	near := []int{-1, 0, 0, 1, 2, 3, 7, 8, 9, 10, -2, 99, math.MaxInt, math.MinInt}
	return near[d.below(len(near))]
}

// sign is any byte, more often one that matters.
func (d *dice) sign() byte {
	const near = "\\\\\\=  0129afgAFG!~\x00\n\x1f\x7f\x80\xff"
	if d.below(3) == 0 {
		return byte(d.below(256))
	}
	return near[d.below(len(near))]
}

func (d *dice) text(most int) string {
	made := make([]byte, d.below(most+1))
	for i := range made {
		made[i] = d.sign()
	}
	return string(made)
}

// bent is the text with one sign put in, taken out, set or turned great.
func (d *dice) bent(s string) string {
	i := d.below(len(s) + 1)
	j := min(i+1, len(s))
	head, tail, rest := s[:i], s[i:], s[j:]
	switch d.below(4) {
	case 0:
		return head + string([]byte{d.sign()}) + tail
	case 1:
		return head + rest
	case 2:
		return head + string([]byte{d.sign()}) + rest
	}
	return head + strings.ToUpper(s[i:j]) + rest
}

// given is a text to be meant: shown, or bent a little, or drawn sign by sign.
func (d *dice) given() string {
	s := text.Show(d.text(8))
	switch d.below(4) {
	case 0:
		return s
	case 1:
		return "=" + d.text(6)
	case 2:
		return d.text(6)
	}
	for range 1 + d.below(3) {
		s = d.bent(s)
	}
	return s
}

var (
	whole = regexp.MustCompile(`\A=([!-\[\]-~]|\\([01][0-9a-f]|20|5c|7f|[89a-f][0-9a-f]))*\z`)
	coded = regexp.MustCompile(`\\..`)
)

// meant tells Mean a second time, by the form of all that is ever shown.
func meant(t *testing.T, s string) (string, bool) {
	t.Helper()
	if !whole.MatchString(s) {
		return "", false
	}
	return coded.ReplaceAllStringFunc(s[1:], func(code string) string {
		b, err := hex.DecodeString(code[1:])
		if err != nil {
			t.Fatal(err)
		}
		return string(b)
	}), true
}

// shown tells Show a second time.
func shown(s string) string {
	var b strings.Builder
	b.WriteString("=")
	for _, c := range []byte(s) {
		if asItIs(int(c)) {
			fmt.Fprintf(&b, "%c", c)
		} else {
			fmt.Fprintf(&b, "\\%02x", c)
		}
	}
	return b.String()
}

// holds: does Mean answer as it is told a second time, and true just where
// Show of its answer is that very text?
func holds(t *testing.T, s string) bool {
	t.Helper()
	got, ok := text.Mean(s)
	if want, there := meant(t, s); got != want || ok != there {
		t.Fatalf("Mean(%q) is %q %v, want %q %v", s, got, ok, want, there)
	}
	if ok != (text.Show(got) == s) {
		t.Fatalf("Mean(%q) is %q %v, which is shown as %q", s, got, ok, text.Show(got))
	}
	if again, so := text.Mean(s); again != got || so != ok {
		t.Fatalf("Mean(%q) is %q %v, then %q %v", s, got, ok, again, so)
	}
	return ok
}

func TestMeanOfWildTexts(t *testing.T) {
	d := dice(1)
	count := map[bool]int{}
	for range 300000 {
		count[holds(t, d.given())]++
	}
	if count[true] < 50000 || count[false] < 50000 {
		t.Errorf("%d texts are shown, %d are not", count[true], count[false])
	}
}

// TestMeanOfAllShortTexts: all those of up to five of some signs.
func TestMeanOfAllShortTexts(t *testing.T) {
	const signs = "=\\025cfFg \x7f\xff"
	texts, count := []string{""}, map[bool]int{}
	for size := range 6 {
		var longer []string
		for _, s := range texts {
			count[holds(t, s)]++
			for i := 0; size < 5 && i < len(signs); i++ {
				longer = append(longer, s+signs[i:i+1])
			}
		}
		texts = longer
	}
	if count[true] < 2000 || count[false] < 200000 {
		t.Errorf("%d texts are shown, %d are not", count[true], count[false])
	}
}

func TestShowOfWildTexts(t *testing.T) {
	d := dice(2)
	for range 50000 {
		s := d.text(40)
		shows(t, s, shown(s))
	}
}

// image is one with anything in it.
func (d *dice) image() api.Image {
	m := image.New()
	for range d.below(30) {
		switch d.below(4) {
		case 0:
			live(d.below(api.Inodes), d.number(), d.number(), d.number(), d.number())(&m)
		case 1:
			dead(d.below(api.Inodes), d.number(), d.number(), d.number(), d.number())(&m)
		case 2:
			entry(d.below(api.Dirs), d.below(api.Slots), d.text(3), d.number(), d.number())(&m)
		case 3:
			data(d.below(api.Datas), d.number(), d.text(5))(&m)
		}
	}
	return m
}

// printed tells Print a second time.
func printed(m *api.Image) string {
	var list []string
	tell := func(so bool, form string, words ...any) {
		if so {
			list = append(list, fmt.Sprintf(form, words...))
		}
	}
	for n, i := range m.Inode {
		tell(i.Live, "inode %d %d %d %d %d", n, i.Stamp, i.Links, i.Part[0], i.Part[1])
	}
	for k := range 12 {
		e := m.Dir[k/4][k%4]
		tell(len(e.Name) > 0, "entry %d %d %s %d %d", k/4, k%4, e.Name, e.Ino, e.Stamp)
	}
	for x, k := range m.Data {
		tell(k.Of < 0 || k.Of > 0, "data %d %d %s", x, k.Of, shown(k.Text))
	}
	return lines(list...)
}

func TestPrintOfWildImages(t *testing.T) {
	d := dice(3)
	for range 20000 {
		m := d.image()
		prints(t, m, printed(&m))
	}
}
