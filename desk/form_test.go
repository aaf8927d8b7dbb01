package desk_test

import (
	"slices"
	"strconv"
	"strings"
	"testing"
	"unsafe"

	"eiderdown/api"
	"eiderdown/desk"
)

// wantFault: is there that fault, with nothing told, and nothing done?
func wantFault(t *testing.T, asked []string, want api.Fault) {
	t.Helper()
	d := ready(t, some...)
	ahead := slices.Clone(asked)
	if told, fault := d.Do(asked); told != "" || fault != want {
		t.Errorf("Do(%q) is %q %+v, want %+v", ahead, told, fault, want)
	}
	if !slices.Equal(asked, ahead) {
		t.Errorf("Do(%q) changed its lines to %q", ahead, asked)
	}
	wantSame(t, "behind a fault", d, ready(t, some...))
}

// repeated is so many lines, all the same.
func repeated(n int, line string) []string { return slices.Repeat([]string{line}, n) }

func TestNoLines(t *testing.T) {
	d := ready(t, some...)
	wantDo(t, d, nil, "")
	wantDo(t, d, []string{}, "")
	wantDo(t, d, repeated(api.MaxLines, ""), "")
	wantSame(t, "behind nothing", d, ready(t, some...))
}

func TestManyLines(t *testing.T) {
	wantDo(t, desk.New(), repeated(api.MaxLines-1, "crash"), strings.Repeat("ok\n", api.MaxLines-1))
	d := desk.New()
	wantDo(t, d, repeated(api.MaxLines, "crash"), strings.Repeat("ok\n", api.MaxLines))
	wantDo(t, d, repeated(api.MaxLines, "lost"), strings.Repeat("lost 150 0 0 0\n", api.MaxLines))
	for _, n := range []int{api.MaxLines + 1, api.MaxLines + 2, 2 * api.MaxLines, 100000} {
		wantFault(t, repeated(n, "crash"), api.Fault{Code: api.ErrMany, At: -1})
		wantFault(t, repeated(n, ""), api.Fault{Code: api.ErrMany, At: -1})
	}
}

func TestNewlines(t *testing.T) {
	for _, torn := range []string{"\n", "crash\n", "\ncrash", "cra\nsh", "  \n  ", "crash\ncrash", "\r\n", "put 0 a 0 =\n", "\xff\n", "\n\n"} {
		for _, c := range []struct{ n, at int }{{1, 0}, {2, 0}, {2, 1}, {3, 1}, {api.MaxLines, 0}, {api.MaxLines, 77}, {api.MaxLines, api.MaxLines - 1}} {
			asked := repeated(c.n, "crash")
			asked[c.at] = torn
			wantFault(t, asked, api.Fault{Code: api.ErrLine, At: c.at})
			asked[c.n-1] = torn
			wantFault(t, asked, api.Fault{Code: api.ErrLine, At: c.at})
		}
		wantFault(t, repeated(7, torn), api.Fault{Code: api.ErrLine, At: 0})
		wantFault(t, []string{"", "what", torn, "crash", torn}, api.Fault{Code: api.ErrLine, At: 2})
	}
}

// TestBothFaults: too many lines are told ahead of a newline in one of them.
func TestBothFaults(t *testing.T) {
	for _, at := range []int{0, 1, api.MaxLines - 1, api.MaxLines} {
		asked := repeated(api.MaxLines+1, "crash")
		asked[at] = "cra\nsh"
		wantFault(t, asked, api.Fault{Code: api.ErrMany, At: -1})
		if at > 0 {
			wantFault(t, asked[1:], api.Fault{Code: api.ErrLine, At: at - 1})
		}
	}
}

func TestBlanks(t *testing.T) {
	talk(t, []string{"make 0 a"},
		"", "",
		" ", "",
		strings.Repeat(" ", 1000), "",
		"list 0", "names a",
		" list 0", "names a",
		"list 0 ", "names a",
		"list  0", "names a",
		"   list     0  ", "names a",
		"  dirty", "dirty 0 2",
		"dirty  ", "dirty 0 2",
		"  lost ", "lost 0 0 0 0",
		" disk", "end",
		"  put  0   a    1     =x      ", "ok",
		" read 0 a  1", "=x",
		"link   0   a   2   b", "ok",
		"same 0  a  2 b ", "true",
		strings.Repeat(" ", 100000)+"sync"+strings.Repeat(" ", 100000), "ok",
		" ", "",
		"sure 0 a  ", "true",
	)
}

// TestOtherBytes: none but the byte 32 parts words; with another one there is
// one word, which is not known, or is no number, or may not be a name.
func TestOtherBytes(t *testing.T) {
	likes := []string{"\t", "\r", "\v", "\f", "\x00", "\x1f", "!", "\x85", "\xa0", "\xc2\xa0", "\xc2\x85", "\u2003", "\u3000", "\ufeff", "\xc0\xa0", "\xe0\x80\xa0", "_", ",", "\x7f", "\xff"}
	for b := range 256 {
		if b != ' ' && b != '\n' {
			likes = append(likes, string([]byte{byte(b)}))
		}
	}
	for _, like := range likes {
		if like == "=" {
			continue
		}
		talk(t, []string{"make 0 q"},
			like, "what",
			"list"+like+"0", "what",
			"list 0"+like+"q", "names",
			"list 0 "+like, "what",
			like+" list 0", "what",
			like+"sync", "what",
			"sync"+like, "what",
			"sync "+like, "what",
			"write 1"+like+"x", "no 1",
			"unlink 0"+like+"q", "what",
			"sure 0"+like+" q", "false",
			"put 0 q 0 "+like+"=", "what",
		)
		if like < "a" || like > "z" {
			talk(t, []string{"make 0 q"}, "make 1 a"+like+"b", "no 2", "unlink 0 q"+like, "no 2", "link 0 q 1 "+like, "no 2")
		}
	}
}

// TestWhat: lines that are none of the table, and do nothing.
func TestWhat(t *testing.T) {
	for _, line := range []string{
		"what", "x", "=", "=x", "0", "-1", "ok", "no", "no 5", "names", "end", "none", "true", "makes", "mak", "help",
		"Make 0 x", "MAKE 0 x", "makE 0 x", "Sync", "SYNC", "Crash", "CRASH", "Disk", "DIRTY", "Lost", "List 0", "LIST 0",
		"Put 0 a 0 =", "Cut 0 a 1", "Unlink 0 a", "Link 0 a 1 x", "Rename 0 a 1 x", "Write 0", "Read 0 a 1", "Same 0 a 1 b", "Sure 0 a",
		"make", "make 0", "make 0 x y", "make 0 x =", "make 0 x 1 y",
		"unlink", "unlink 0", "unlink 0 a 0", "unlink 0 a 1 b",
		"link", "link 0", "link 0 a", "link 0 a 1", "link 0 a 1 x y",
		"rename", "rename 0", "rename 0 a", "rename 0 a 1", "rename 0 a 1 x y",
		"put", "put 0", "put 0 a", "put 0 a 0", "put 0 a 0 = =", "put 0 a 0 =x y", "put 0 a =",
		"cut", "cut 0", "cut 0 a", "cut 0 a 1 =x", "cut 0 a 1 1",
		"write", "write 0 0", "write 0 1", "write 0 a",
		"sync 0", "sync sync", "sync crash", "crash 0", "crash crash",
		"read", "read 0", "read 0 a", "read 0 a 1 1", "read 0 a 1 =x",
		"list", "list 0 0", "list 0 a", "list 0 1 2",
		"same", "same 0", "same 0 a", "same 0 a 1", "same 0 a 1 b b", "sure", "sure 0", "sure 0 a a", "sure 0 a 1 b",
		"disk 0", "disk end", "dirty 0", "dirty dirty", "lost 0", "lost 0 0 0 0",
		"make0 x", "make0x", "sync;", ";sync", "\"sync\"", "syncsync", "\x00sync", "sync\x00", "crash\r", "\xff", "mäke 0 x",
		strings.Repeat("sync", 1000), strings.Repeat("sync ", 1000), "make 0 " + strings.Repeat("a ", 100000),
	} {
		d := ready(t, some...)
		wantDo(t, d, []string{line}, "what\n")
		wantDo(t, d, []string{" " + line + "  ", "", line}, "what\nwhat\n")
		wantSame(t, line, d, ready(t, some...))
	}
}

// TestTexts: T that no text is shown as makes no line of the table, whatever
// else is wrong in it.
func TestTexts(t *testing.T) {
	for _, word := range []string{
		"x", "\\", "\\20", "0", "-", "x=", "\t=", `=\`, `=\2`, `=\\`, `=\41`, `=\5C`, `=\0A`, `=\FF`, `=\0g`, `=\3d`, `=\21`, `=\7e`, `=x\`, `=\0`, `=\g0`, `=\x0a`,
		"=\x7f", "=\x80", "=\xff", "=\x00", "=\t", "=ä", "=\r", "=" + tooMany + `\`,
	} {
		for _, line := range []string{"put 0 a 1 ", "put 1 b 0 ", "put 3 a 0 ", "put x A 9 ", "put 0 x 0 "} {
			d := ready(t, some...)
			wantDo(t, d, []string{line + word}, "what\n")
			wantSame(t, line+word, d, ready(t, some...))
		}
	}
	for b := range 256 {
		d, word := ready(t, "make 0 a"), "="+string([]byte{byte(b)})
		want := "ok\n" + word + "\n"
		switch {
		case b == ' ':
			want = "ok\n=\n"
		case b == '\n':
			continue
		case b < 33 || b > 126 || b == '\\':
			want = "what\nnone\n"
		}
		wantDo(t, d, []string{"put 0 a 0 " + word, "read 0 a 0"}, want)
	}
}

// badNumbers are words that are no numbers, or none that there are of anything.
var badNumbers = []string{
	"-1", "-0", "+0", "+1", "--1", "-", "+", "00", "01", "000", "007", "0x0", "0x1", "0b1", "0o1", "1e0", "0.0", "1.", ".1", "1_0", "0_0", "1,0",
	"a", "x0", "0x", "1a", "a1", "=", "=0", "=1", "\\30", "0\t", "\t0", "0\r", "\x000", "0\x00", "0\xff", "١", "٠", "०", "０", "１", "¹", "Ⅰ", "0️", "nil", "NaN", "inf", "true",
	"14", "99", "255", "256", "4294967296", "4294967297", "2147483648", "9223372036854775807", "9223372036854775808", "9223372036854775809",
	"18446744073709551615", "18446744073709551616", "18446744073709551617", "-9223372036854775808", "-9223372036854775809", "-18446744073709551616",
	"36893488147419103232", "340282366920938463463374607431768211456", "100000000000000000000", strings.Repeat("0", 100), strings.Repeat("9", 5000), "1" + strings.Repeat("0", 64),
}

// TestNumbers: in each place such a word is as -1, and the line is one of the
// table still.
func TestNumbers(t *testing.T) {
	for _, word := range badNumbers {
		for _, c := range []struct{ line, told string }{
			{"make # x", "no 1"},
			{"make # A", "no 1"},
			{"unlink # a", "no 1"},
			{"link # a 1 x", "no 1"},
			{"link 0 a # x", "no 1"},
			{"link 0 A # x", "no 2"},
			{"link # a # x", "no 1"},
			{"rename # a 1 x", "no 1"},
			{"rename 0 a # x", "no 1"},
			{"put # a 1 =y", "no 1"},
			{"put 0 a # =y", "no 1"},
			{"put 0 a # =" + tooMany, "no 1"},
			{"put 0 A # =y", "no 2"},
			{"cut # a 1", "no 1"},
			{"cut 0 a #", "no 1"},
			{"cut 0 x #", "no 1"},
			{"write #", "no 1"},
			{"read # a 1", "no 1"},
			{"read 0 a #", "no 1"},
			{"read # a #", "no 1"},
			{"list #", "names"},
			{"same # a 1 b", "false"},
			{"same 0 a # b", "false"},
			{"same # a # a", "false"},
			{"sure # a", "false"},
		} {
			line := strings.ReplaceAll(c.line, "#", word)
			d := ready(t, some...)
			wantDo(t, d, []string{line}, lines(c.told))
			wantSame(t, line, d, ready(t, some...))
		}
	}
}

// TestEachNumber: all that there are in each place, and the next one.
func TestEachNumber(t *testing.T) {
	tell := func(ok bool, yes, no string) string { return lines(map[bool]string{true: yes, false: no}[ok]) }
	for n := range 20 {
		d, s := ready(t, some...), strconv.Itoa(n)
		wantDo(t, d, []string{"write " + s}, tell(n < api.Blocks, "ok", "no 1"))
		wantDo(t, d, []string{"make " + s + " x"}, tell(n < api.Dirs, "ok", "no 1"))
		wantDo(t, d, []string{"list " + s}, tell(n < api.Dirs, "names "+string(rune('a'+n))+" x", "names"))
		wantDo(t, d, []string{"link 0 a " + s + " y"}, tell(n < api.Dirs, "ok", "no 1"))
		wantDo(t, d, []string{"put 0 a " + s + " =" + s}, tell(n < api.Parts, "ok", "no 1"))
		wantDo(t, d, []string{"read 0 a " + s}, tell(n < api.Parts, "="+s, "no 1"))
		wantDo(t, d, []string{"cut 0 a " + s}, tell(n < api.Parts, "ok", "no 1"))
		wantDo(t, d, []string{"same 0 a " + s + " y"}, tell(n < api.Dirs, "true", "false"))
		wantDo(t, d, []string{"sync", "sure " + s + " y"}, "ok\n"+tell(n < api.Dirs, "true", "false"))
	}
}

// TestNames: those that may not be have a code where a step or a read is, and
// are none of those that are there elsewhere.
func TestNames(t *testing.T) {
	for _, name := range []string{
		"A", "aB", "a1", "1", "0", "-1", "=", "=a", "a=", "a.b", "/", "a/b", "..", ".", "a\t", "\ta", "\x00", "a\x00", "é", "ß", "ａ", "\xff", "a\xff", "`", "{", "\\61", "*", "\r", tooLong, strings.Repeat("a", 100000),
	} {
		for _, c := range []struct{ line, told string }{
			{"make 0 #", "no 2"},
			{"unlink 0 #", "no 2"},
			{"link 0 # 1 x", "no 2"},
			{"link 0 a 1 #", "no 2"},
			{"rename 0 # 1 x", "no 2"},
			{"rename 0 a 1 #", "no 2"},
			{"put 0 # 0 =", "no 2"},
			{"cut 0 # 0", "no 2"},
			{"read 0 # 0", "no 2"},
			{"same 0 # 0 #", "false"},
			{"same 0 a 0 #", "false"},
			{"same 0 # 0 a", "false"},
			{"sure 0 #", "false"},
		} {
			line := strings.ReplaceAll(c.line, "#", name)
			d := ready(t, some...)
			wantDo(t, d, []string{line}, lines(c.told))
			wantSame(t, line, d, ready(t, some...))
		}
	}
	for _, name := range []string{"a", "z", "az", longest, "make", "list", "sync", "end", "none"} {
		talk(t, nil, "make 0 "+name, "ok", "list 0", "names "+name, "sync", "ok", "sure 0 "+name, "true")
	}
}

// TestNotTwice: what one Do told is not told by the next one.
func TestNotTwice(t *testing.T) {
	d := desk.New()
	wantDo(t, d, []string{"make 0 a", "list 0"}, "ok\nnames a\n")
	wantDo(t, d, nil, "")
	wantDo(t, d, []string{"list 0"}, "names a\n")
	if told, fault := d.Do([]string{"list 0", "\n"}); told != "" || fault.Code != api.ErrLine {
		t.Errorf("it told %q, %+v", told, fault)
	}
	wantDo(t, d, []string{"list 0"}, "names a\n")
}

// TestTwoDesks: what is asked of one is nothing to the other.
func TestTwoDesks(t *testing.T) {
	a, b := desk.New(), desk.New()
	wantDo(t, a, []string{"make 0 a", "put 0 a 0 =x", "sync", "crash"}, "ok\nok\nok\nok\n")
	wantDo(t, b, all, "names\nnames\nnames\nend\ndirty\nlost 0 0 0 0\n")
	wantDo(t, b, []string{"make 0 a", "read 0 a 0", "put 0 a 0 =y"}, "ok\nnone\nok\n")
	wantDo(t, a, []string{"read 0 a 0", "dirty", "unlink 0 a"}, "=x\ndirty\nok\n")
	wantDo(t, b, []string{"read 0 a 0", "list 0", "dirty", "lost"}, "=y\nnames a\ndirty 0 2 5\nlost 0 0 0 0\n")
	wantDo(t, a, []string{"list 0", "lost"}, "names\nlost 1 0 0 0\n")
}

// borrowed is a line whose bytes may be changed behind the desk's back.
func borrowed(line string) (string, []byte) {
	b := []byte(line)
	return unsafe.String(unsafe.SliceData(b), len(b)), b
}

// TestNothingKept: neither the list nor the bytes of what was handed in are
// looked at any more, when Do has answered; and what it told stays.
func TestNothingKept(t *testing.T) {
	d := desk.New()
	var asked []string
	var bytes [][]byte
	for _, line := range []string{"make 0 a", "link 0 a 1 bc", "rename 0 a 2 d", "make 0 ef", "put 2 d 0 =xyz", "list 1", "list 2", "read 2 d 0"} {
		s, b := borrowed(line)
		asked, bytes = append(asked, s), append(bytes, b)
	}
	told := do(t, d, asked...)
	for k, b := range bytes {
		for i := range b {
			b[i] = '#'
		}
		asked[k] = "crash"
	}
	wantDo(t, d, []string{"list 0", "list 1", "list 2", "read 1 bc 0", "sync", "unlink 1 bc", "crash", "list 1", "list 2"},
		"names ef\nnames bc\nnames d\n=xyz\nok\nok\nok\nnames bc\nnames d\n")
	if want := "ok\nok\nok\nok\nok\nnames bc\nnames d\n=xyz\n"; told != want {
		t.Errorf("it told %q, and that is %q now", want, told)
	}
}
