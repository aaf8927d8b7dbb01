package desk_test

import (
	"fmt"
	"math/big"
	"regexp"
	"slices"
	"strings"
	"testing"

	"eiderdown/api"
	"eiderdown/desk"
	"eiderdown/life"
	"eiderdown/text"
)

// dice tells numbers by a fixed rule, so that each run sees the same lines.
type dice uint64

func (d *dice) below(n int) int {
	*d = *d*6364136223846793005 + 1442695040888963407
	return int(uint64(*d)>>33) % n
}

func (d *dice) of(list ...string) string { return list[d.below(len(list))] }

// table is the lines that there are, with the places of their words; those
// that are drawn more often stand there more often.
var table = []string{
	"make D N", "make D N", "make D N", "unlink D N", "link D N D N", "link D N D N", "rename D N D N", "rename D N D N",
	"put D N P T", "put D N P T", "put D N P T", "put D N P T", "cut D N P", "write B", "write B", "write B", "write B", "write B", "sync", "crash",
	"read D N P", "read D N P", "read D N P", "list D", "same D N D N", "same D N D N", "sure D N", "sure D N", "disk", "dirty", "lost",
}

// growing brings more than goes, so that there is no room for data, too.
var growing = append(slices.Repeat([]string{"make D N", "put D N P T", "put D N P T", "put D N P T"}, 12), table...)

// word is one for that place, for the most part a right one.
func (d *dice) word(place string) string {
	bad := d.below(30) == 0
	switch place {
	case "D", "P", "B":
		if bad {
			return badNumbers[d.below(len(badNumbers))]
		}
		return fmt.Sprint(d.below(map[string]int{"D": 3, "P": 2, "B": 14}[place]))
	case "N":
		if bad {
			return d.of("A", tooLong, "1", "\xff", "a\t", "=", "ä")
		}
		return d.of("a", "b", "c", "ab", "ba")
	case "T":
		if bad {
			return d.of("x", "=\\", `=\41`, `=\0A`, "="+tooMany, "=\xff", "")
		}
		return text.Show(d.of("", "x", " ", "a b", "\n", "\\", "\x00\xff", most))
	}
	return place
}

// bent is the words with one of them gone, more, in another case, or another.
func (d *dice) bent(words []string) []string {
	at := d.below(len(words))
	switch d.below(5) {
	case 0:
		return slices.Delete(words, at, at+1)
	case 1:
		return slices.Insert(words, at, d.of("0", "a", "=", "sync", "\t"))
	case 2:
		words[at] = strings.ToUpper(words[at])
	case 3:
		words[at] += d.of("x", "0", "\t", "\x00", "\xa0", "\xff")
	case 4:
		words[at] = d.of("what", "", "\r", "ok", "-")
	}
	return words
}

// line is one of the forms, for the most part as it stands there.
func (d *dice) line(forms []string) string {
	words := strings.Split(d.of(forms...), " ")
	for k, place := range words {
		words[k] = d.word(place)
	}
	if d.below(20) == 0 {
		words = d.bent(words)
	}
	if d.below(4) > 0 {
		return strings.Join(words, " ")
	}
	blanks := func() string { return strings.Repeat(" ", d.below(4)) }
	return blanks() + strings.Join(words, " "+blanks()) + blanks()
}

func (d *dice) lines(n int, forms []string) []string {
	list := make([]string, n)
	for k := range list {
		list[k] = d.line(forms)
	}
	return list
}

// kinds are the lines that are steps.
var kinds = map[string]int{
	"make": api.SMake, "unlink": api.SUnlink, "link": api.SLink, "rename": api.SRename, "put": api.SPut,
	"cut": api.SCut, "write": api.SWrite, "sync": api.SSync, "crash": api.SCrash,
}

// shapes tell what a line is, by the whole of it: numbers, names and texts are
// in groups of those names.
var shapes = []*regexp.Regexp{
	shape(`make|unlink|sure`, "dir", "name"),
	shape(`link|rename|same`, "dir", "name", "todir", "to"),
	shape(`put`, "dir", "name", "p", "text"),
	shape(`cut|read`, "dir", "name", "p"),
	shape(`write`, "p"),
	shape(`list`, "dir"),
	shape(`sync|crash|disk|dirty|lost`),
}

func shape(verbs string, places ...string) *regexp.Regexp {
	form := `\A *(?P<verb>` + verbs + `)`
	for _, place := range places {
		word := `[^ ]+`
		if place == "text" {
			word = `=(?:[!-\[\]-~]|\\(?:[01][0-9a-f]|20|5c|7f|[89a-f][0-9a-f]))*`
		}
		form += ` +(?P<` + place + `>` + word + `)`
	}
	return regexp.MustCompile(form + ` *\z`)
}

// parts are the groups of the line; nil: it has no shape.
func parts(line string) map[string]string {
	for _, form := range shapes {
		if found := form.FindStringSubmatch(line); found != nil {
			groups := map[string]string{}
			for k, name := range form.SubexpNames() {
				groups[name] = found[k]
			}
			return groups
		}
	}
	return nil
}

var digits = regexp.MustCompile(`\A(0|[1-9][0-9]*)\z`)

// value is what a number says; -1: it is none.
func value(word string) int {
	n, ok := new(big.Int).SetString(word, 10)
	if !ok || !digits.MatchString(word) || !n.IsInt64() {
		return -1
	}
	return int(n.Int64())
}

// tells tells a second time what a line tells, of a life that it is about.
func tells(l *life.Life, line string) string {
	if strings.Trim(line, " ") == "" {
		return ""
	}
	w := parts(line)
	if w == nil {
		return "what\n"
	}
	dir, toDir, p := value(w["dir"]), value(w["todir"]), value(w["p"])
	switch w["verb"] {
	case "read":
		part, there, code := l.Read(dir, w["name"], p)
		if code == 0 && !there {
			return "none\n"
		}
		return outcome(code, text.Show(part))
	case "list":
		return strings.Join(append([]string{"names"}, l.List(dir)...), " ") + "\n"
	case "same":
		return fmt.Sprintln(l.Same(dir, w["name"], toDir, w["to"]))
	case "sure":
		return fmt.Sprintln(l.Sure(dir, w["name"]))
	case "disk":
		disk := l.Disk()
		return text.Print(&disk) + "end\n"
	case "dirty":
		told := "dirty"
		for b := range 14 {
			if l.Dirty(b) {
				told += fmt.Sprint(" ", b)
			}
		}
		return told + "\n"
	case "lost":
		return fmt.Sprintf("lost %d %d %d %d\n", l.Crashes(), l.Lost().Files, l.Lost().Counts, l.Lost().Datas)
	}
	put, _ := text.Mean(w["text"])
	x := api.Step{Kind: kinds[w["verb"]], Dir: dir, Name: w["name"], ToDir: toDir, To: w["to"], P: p, Text: put}
	return outcome(l.Step(x), "ok")
}

func outcome(code int, well string) string {
	if code != 0 {
		return fmt.Sprintf("no %d\n", code)
	}
	return well + "\n"
}

// sort is what kind of thing a line told: the verb, and the answer without
// what differs from life to life.
func sort(line, told string) string {
	verb := "?"
	if w := parts(line); w != nil {
		verb = w["verb"]
	}
	switch {
	case verb == "read" && told == "=\n":
		return "read an empty text"
	case verb == "read" && told[0] == '=':
		return "read a text"
	case verb == "list" || verb == "dirty":
		return fmt.Sprint(verb, " ", strings.Count(told, " "))
	case verb == "disk":
		return fmt.Sprint("disk ", min(strings.Count(told, "\n"), 2))
	case verb == "lost":
		return fmt.Sprint("lost ", told != "lost 0 0 0 0\n", !strings.HasSuffix(told, " 0 0 0\n"))
	}
	return verb + " " + strings.TrimSuffix(told, "\n")
}

// sorts are those that the wild lines are to tell, all of them.
var sorts = strings.Split(`? ,? what,make ok,make no 1,make no 2,make no 4,make no 6,unlink ok,unlink no 1,unlink no 2,unlink no 5,`+
	`link ok,link no 1,link no 2,link no 4,link no 5,link no 6,rename ok,rename no 1,rename no 2,rename no 4,rename no 5,rename no 6,`+
	`put ok,put no 1,put no 2,put no 3,put no 5,put no 6,cut ok,cut no 1,cut no 2,cut no 5,write ok,write no 1,sync ok,crash ok,`+
	`read no 1,read no 2,read no 5,read none,read an empty text,read a text,list 0,list 1,list 2,list 3,list 4,same true,same false,sure true,sure false,`+
	`disk 1,disk 2,dirty 0,dirty 1,dirty 2,dirty 3,dirty 7,lost false false,lost true false,lost true true`, ",")

// TestWildLines: whatever the lines are, they tell what they tell a second
// time; in one Do, or in as many as there are lines, or in some.
func TestWildLines(t *testing.T) {
	d, count := dice(3), map[string]int{}
	for run := range 400 {
		l, one, whole, torn := life.New(), desk.New(), desk.New(), desk.New()
		forms := [][]string{table, growing}[run%2]
		asked, told := d.lines(d.below(api.MaxLines+1), forms), ""
		for _, line := range asked {
			thing := tells(l, line)
			wantDo(t, one, []string{line}, thing)
			if t.Failed() {
				t.Fatalf("run %d: behind %q", run, line)
			}
			count[sort(line, thing)]++
			told += thing
		}
		wantDo(t, whole, asked, told)
		pieces, rest := "", asked
		for len(rest) > 0 {
			n := 1 + d.below(len(rest))
			pieces, rest = pieces+do(t, torn, rest[:n]...), rest[n:]
		}
		if pieces != told {
			t.Fatalf("run %d: of %q in pieces it is told\n%s, want\n%s", run, asked, pieces, told)
		}
	}
	for _, s := range sorts {
		if count[s] < 3 {
			t.Errorf("%q was told %d times", s, count[s])
		}
	}
}

// TestCutAnywhere: what two Do tell one Do of both tells, at whatever place
// they are cut; faults between them, and other desks, change nothing.
func TestCutAnywhere(t *testing.T) {
	d := dice(5)
	other := desk.New()
	for run := range 25 {
		asked := d.lines(80, [][]string{table, growing}[run%2])
		told := do(t, desk.New(), asked...)
		for at := range len(asked) + 1 {
			cut := desk.New()
			head := do(t, cut, asked[:at]...)
			cut.Do(append(d.lines(5, table), "crash", "\n"))
			cut.Do(d.lines(api.MaxLines+1, table))
			other.Do(asked[at:])
			if got := head + do(t, cut, asked[at:]...); got != told {
				t.Fatalf("run %d: %q, cut at %d, is told as\n%s, want\n%s", run, asked, at, got, told)
			}
		}
	}
}

// TestLongTalk: a desk goes on as its life does, behind thousands of lines.
func TestLongTalk(t *testing.T) {
	d := dice(11)
	l, a := life.New(), desk.New()
	for range 200 {
		asked, told := d.lines(api.MaxLines, table), ""
		for _, line := range asked {
			told += tells(l, line)
		}
		wantDo(t, a, asked, told)
		if t.Failed() {
			t.FailNow()
		}
	}
	if l.Crashes() < 300 {
		t.Errorf("it crashed %d times", l.Crashes())
	}
}

// TestWildBytes: lines of any bytes tell what they tell a second time, or have
// a fault.
func TestWildBytes(t *testing.T) {
	d := dice(17)
	l, a := life.New(), desk.New()
	for range 20000 {
		line := []byte(d.line(table))
		for range d.below(3) {
			line = slices.Insert(line, d.below(len(line)+1), byte(d.below(256)))
		}
		var told string
		want := api.Fault{Code: api.ErrLine, At: 1}
		if !slices.Contains(line, '\n') {
			want, told = none, tells(l, "lost")+tells(l, string(line))
		}
		if got, fault := a.Do([]string{"lost", string(line)}); got != told || fault != want {
			t.Fatalf("Do(%q) is %q %+v, want %q %+v", line, got, fault, told, want)
		}
	}
}
