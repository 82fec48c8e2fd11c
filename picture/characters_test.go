package picture_test

import (
	"regexp"
	"strings"
	"testing"

	"ironbark/api"
	"ironbark/picture"
)

// put is a text brought to a picture of characters, and where it is wrong then.
type put struct {
	picture, text, out string
	at                 int
}

func checkPut(t *testing.T, p picture.Picture, x put) {
	t.Helper()
	if out, cond, at, e := p.Put(x.text); out != x.out || cond != conditionOf(x.at) || at != x.at || e != api.OK {
		t.Errorf("%q to %s: %q, %d, %d, %d; not %q, at %d", x.text, x.picture, out, cond, at, e, x.out, x.at)
	}
}

// 7.3: texts that are filled up or cut, and then right or wrong.
func TestPut(t *testing.T) {
	for _, x := range []put{
		{"AAX9", "ab", "ab  ", 0}, {"AAX9", "a1!99", "a1!9", 2}, {"AAX9", "", "    ", 0}, {"AAX9", "ab!9", "ab!9", 0}, {"AAX9", "ab!9??", "ab!9", 0}, {"AAX9", "ab!?", "ab!?", 4}, {"AAX9", "1b\x1f?", "1b\x1f?", 1}, {"AAX9", "zZ~0", "zZ~0", 0}, {"AAX9", "  \x7f0", "  \x7f0", 3},
		{"X", "", " ", 0}, {"X", "\n", "\n", 1}, {"X", "ö", "\xc3", 1}, {"A", "ab", "a", 0}, {"A", "a\n", "a", 0}, {"9A", "7", "7 ", 0}, {"9A", " 7", " 7", 2}, {"9A", "a7", "a7", 1},
		{"(30)X(10)X", many("x", 200), many("x", 40), 0}, {"(30)A(10)A", many("x", 39) + "1" + many("\x00", 160), many("x", 39) + "1", 40}, {"(20)9(20)A", "", many(" ", 40), 0},
	} {
		checkPut(t, made(t, x.picture), x)
	}
}

// 7.3: each byte by each symbol, alone and behind others.
func TestEachByte(t *testing.T) {
	for symbol, class := range map[string]string{"A": `[A-Za-z ]`, "X": `[ -~]`, "9": `[0-9 ]`} {
		right := regexp.MustCompile(`^` + class + `$`)
		for b := range 256 {
			item := string([]byte{byte(b)})
			wrong := 0
			if !right.MatchString(item) {
				wrong = 1
			}
			checkPut(t, made(t, symbol+"X"), put{symbol, item, item + " ", wrong})
			checkPut(t, made(t, "XA"+symbol+"X"), put{symbol, "xa" + item, "xa" + item + " ", 3 * wrong})
		}
	}
}

// 7.3: Check of pictures of characters: the length is asked ahead of the characters.
func TestCheckCharacters(t *testing.T) {
	for _, x := range []struct {
		picture, text string
		at            int
	}{
		{"AAX9", "ab!9", 0}, {"AAX9", "    ", 0}, {"AAX9", "abc", 4}, {"AAX9", "", 1}, {"AAX9", "1", 2}, {"AAX9", "ab!99", 5}, {"AAX9", "12\n?99", 5}, {"AAX9", "ab!x", 4}, {"AAX9", "1b!x", 1}, {"AAX9", "a1!x", 2}, {"AAX9", "ab\nx", 3}, {"AAX9", many("\n", 200), 5}, {"X", "", 1}, {"X", "xy", 2}, {"X", "x", 0},
		{"(30)X(10)X", many("x", 39), 40}, {"(30)X(10)X", many("x", 40), 0}, {"(30)X(10)X", many("x", 41), 41}, {"(30)X(10)X", many("x", 39) + "\x7f", 40},
	} {
		if cond, at, e := made(t, x.picture).Check(x.text); cond != conditionOf(x.at) || at != x.at || e != api.OK {
			t.Errorf("%s checks %q: %d, %d, %d; not at %d", x.picture, x.text, cond, at, e, x.at)
		}
	}
}

// 7.3: all short pictures of characters with all short texts of some bytes.
func TestAllCharacters(t *testing.T) {
	classes := map[rune]string{'A': "aZ ", 'X': "aZ 7~", '9': "7 "}
	eachRow("AX9", 3, func(row string) {
		if !ofCharacters.MatchString(row) {
			return
		}
		p := made(t, row)
		eachRow("aZ 7~\n", 4, func(text string) {
			out := (text + many(" ", 4))[:len(row)]
			wrong := 0
			for at, letter := range row {
				if wrong == 0 && !strings.Contains(classes[letter], out[at:at+1]) {
					wrong = at + 1
				}
			}
			checkPut(t, p, put{row, text, out, wrong})
			if len(text) != len(row) {
				wrong = min(len(text), len(row)) + 1
			}
			if cond, at, e := p.Check(text); cond != conditionOf(wrong) || at != wrong || e != api.OK {
				t.Errorf("%s checks %q: %d, %d, %d; not at %d", row, text, cond, at, e, wrong)
			}
		})
	})
}
