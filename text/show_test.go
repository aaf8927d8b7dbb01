package text_test

import (
	"fmt"
	"strings"
	"testing"

	"eiderdown/text"
)

// shows: is the text shown so, and is that what is shown so?
func shows(t *testing.T, s, want string) {
	t.Helper()
	for range 2 {
		if got := text.Show(s); got != want {
			t.Fatalf("Show(%.60q) is %.60q, want %.60q", s, got, want)
		}
		if got, ok := text.Mean(want); got != s || !ok {
			t.Fatalf("Mean(%.60q) is %.60q %v, want %.60q", want, got, ok, s)
		}
	}
}

// none: is no text shown so?
func none(t *testing.T, s string) {
	t.Helper()
	if got, ok := text.Mean(s); got != "" || ok {
		t.Errorf("Mean(%.60q) is %.60q %v, want none", s, got, ok)
	}
}

func bytesOf(list ...int) string {
	made := make([]byte, len(list))
	for i, c := range list {
		made[i] = byte(c)
	}
	return string(made)
}

// asItIs: is the byte shown as it is?
func asItIs(c int) bool { return c > 32 && c < 127 && c != 92 }

func TestShow(t *testing.T) {
	for s, want := range map[string]string{
		"":                  "=",
		"a":                 "=a",
		"=":                 "==",
		"==":                "===",
		"a b":               "=a\\20b",
		" ":                 "=\\20",
		"\\":                "=\\5c",
		"\\\\":              "=\\5c\\5c",
		"\\20":              "=\\5c20",
		"\\5c":              "=\\5c5c",
		"\n":                "=\\0a",
		"\r\n\t":            "=\\0d\\0a\\09",
		"\x00":              "=\\00",
		"\x1f!":             "=\\1f!",
		"~\x7f":             "=~\\7f",
		"\x80":              "=\\80",
		"\xff":              "=\\ff",
		"é":                 "=\\c3\\a9",
		"\"'`":              "=\"'`",
		"0123456789abcdefA": "=0123456789abcdefA",
	} {
		shows(t, s, want)
	}
}

func TestShowOfEachByte(t *testing.T) {
	for c := range 256 {
		shown := fmt.Sprintf("\\%02x", c)
		if asItIs(c) {
			shown = string(rune(c))
		}
		shows(t, bytesOf(c), "="+shown)
		shows(t, bytesOf(c, c), "="+shown+shown)
		shows(t, bytesOf('a', c), "=a"+shown)
		shows(t, bytesOf(c, '0', '0'), "="+shown+"00")
	}
}

func TestShowOfLongTexts(t *testing.T) {
	const many = 300000
	for s, shown := range map[string]string{"a": "a", " ": "\\20", "\\": "\\5c", "\xff": "\\ff", "=": "=", "x\x00y": "x\\00y"} {
		shows(t, strings.Repeat(s, many), "="+strings.Repeat(shown, many))
	}
	var all, shown strings.Builder
	for c := range many {
		all.WriteByte(byte(c))
		shown.WriteString(text.Show(bytesOf(c & 255))[1:])
	}
	shows(t, all.String(), "="+shown.String())
}

// TestMeanOfAllPairs: each two bytes are shown otherwise than all other ones.
func TestMeanOfAllPairs(t *testing.T) {
	seen := map[string]string{}
	for c := range 256 {
		for e := range 256 {
			s := bytesOf(c, e)
			shown := text.Show(s)
			if other, there := seen[shown]; there {
				t.Fatalf("%q and %q are shown alike: %q", s, other, shown)
			}
			seen[shown] = s
			if got, ok := text.Mean(shown); got != s || !ok {
				t.Fatalf("Mean(%q) is %q %v, want %q", shown, got, ok, s)
			}
		}
	}
}

func TestMeanWithoutASign(t *testing.T) {
	for _, s := range []string{"", "a", "a=", "\\20", "\\3d", "\\3da", " =", " =a", "\\", "\x00=", "20", "\xff", "\n="} {
		none(t, s)
	}
	for c := range 256 {
		if c != '=' {
			none(t, bytesOf(c))
			none(t, bytesOf(c, '=', 'a'))
		}
	}
}

// TestMeanOfTornDigits: behind a backslash too few signs stand, at the end or ahead of others.
func TestMeanOfTornDigits(t *testing.T) {
	for _, head := range []string{"=", "=a", "=\\20", "=\\5c", "=" + strings.Repeat("a", 1000)} {
		for _, tail := range []string{"\\", "\\0", "\\2", "\\f", "\\\\", "\\2\\", "\\\\20", "\\2\\20", "\\0 ", "\\ 0", "\\0=", "\\=0"} {
			none(t, head+tail)
		}
	}
}

// TestMeanOfAllDigits: each two bytes stand behind a backslash, and each one alone.
func TestMeanOfAllDigits(t *testing.T) {
	shown := map[string]int{}
	for c := range 256 {
		if !asItIs(c) {
			shown[fmt.Sprintf("%02x", c)] = c
		}
	}
	for c := range 256 {
		none(t, "=\\"+bytesOf(c))
		for e := range 256 {
			pair := bytesOf(c, e)
			b, there := shown[pair]
			if !there {
				none(t, "=\\"+pair)
				none(t, "=a\\"+pair+"b")
				continue
			}
			if got, ok := text.Mean("=\\" + pair); got != bytesOf(b) || !ok {
				t.Errorf("Mean(%q) is %q %v", "=\\"+pair, got, ok)
			}
		}
	}
	if len(shown) != 256-93 {
		t.Errorf("%d bytes are shown by their digits", len(shown))
	}
}

func TestMeanOfGreatDigits(t *testing.T) {
	for c := range 256 {
		great, small := fmt.Sprintf("=\\%02X", c), fmt.Sprintf("=\\%02x", c)
		if great != small {
			none(t, great)
		}
	}
	for _, s := range []string{"=\\5C", "=\\7F", "=\\FF", "=\\fF", "=\\Ff", "=\\0A", "=\\X0", "=\\x20", "=\\0x20"} {
		none(t, s)
	}
}

// TestMeanOfTheOtherWay: a byte is shown by its digits, or as it is, and never both.
func TestMeanOfTheOtherWay(t *testing.T) {
	for c := range 256 {
		other := bytesOf(c)
		if asItIs(c) {
			other = fmt.Sprintf("\\%02x", c)
		}
		for _, s := range []string{"=" + other, "=a" + other, "=" + other + "a", "=\\20" + other, "=" + other + "\\20"} {
			none(t, s)
		}
	}
}

// TestMeanOfALateFault: what stood ahead of it is not told.
func TestMeanOfALateFault(t *testing.T) {
	long := "=" + strings.Repeat("a\\20", 200000)
	for _, tail := range []string{" ", "\\", "\\0", "\\41", "\\FF", "\\0g", "\x7f", "\xff", "\n", "\x00"} {
		none(t, long+tail)
	}
}
