package picture_test

import (
	"math/rand"
	"slices"
	"strings"
	"testing"

	"ironbark/api"
	"ironbark/picture"
)

// read is a text by a picture: the number that is read from it, or where it is wrong.
type read struct {
	picture, text string
	v             api.Value
	at            int
}

// conditionOf is the condition of a text that is wrong at a place; 0 is none.
func conditionOf(at int) int {
	if at == 0 {
		return 0
	}
	return api.CConversion
}

func checkRead(t *testing.T, p picture.Picture, x read) {
	t.Helper()
	if v, cond, at, e := p.Read(x.text); v != x.v || cond != conditionOf(x.at) || at != x.at || e != api.OK {
		t.Errorf("%s reads %q: %+v, %d, %d, %d; not %+v, at %d", x.picture, x.text, v, cond, at, e, x.v, x.at)
	}
	if cond, at, e := p.Check(x.text); cond != conditionOf(x.at) || at != x.at || e != api.OK {
		t.Errorf("%s checks %q: %d, %d, %d; not at %d", x.picture, x.text, cond, at, e, x.at)
	}
}

func checkReads(t *testing.T, l []read) {
	t.Helper()
	for _, x := range l {
		checkRead(t, made(t, x.picture), x)
	}
}

// 7.2, 7.3: texts from which numbers are read.
func TestReadNumbers(t *testing.T) {
	checkReads(t, []read{
		{"ZZ9V.99", " 12.34", vdec(1234, 2), 0}, {"ZZ9V.99", "  0.00", vdec(0, 2), 0}, {"ZZZV.ZZ", "   .05", vdec(5, 2), 0}, {"ZZZV.ZZ", "      ", vdec(0, 2), 0}, {"$$,$$9", "   $12", vdec(12, 0), 0}, {"$$,$$9", "  $234", vdec(234, 0), 0}, {"$$,$$9", "$1,234", vdec(1234, 0), 0},
		{"999CR", "007CR", vdec(-7, 0), 0}, {"999CR", "007  ", vdec(7, 0), 0}, {"999DB", "000  ", vdec(0, 0), 0}, {"*,**9", "***34", vdec(34, 0), 0}, {"***", "***", vdec(0, 0), 0}, {"99V9", "123", vdec(123, 1), 0}, {"V999", "001", vdec(1, 3), 0},
		{"S99", "-05", vdec(-5, 0), 0}, {"S99", "+05", vdec(5, 0), 0}, {"+99", " 05", vdec(-5, 0), 0}, {"+99", "+00", vdec(0, 0), 0}, {"99-", "05-", vdec(-5, 0), 0}, {"99-", "05 ", vdec(5, 0), 0}, {"---9", "  -5", vdec(-5, 0), 0}, {"---9", "   5", vdec(5, 0), 0}, {"SSS", "   ", vdec(0, 0), 0}, {"SSS", " +5", vdec(5, 0), 0}, {"SSS", "-15", vdec(-15, 0), 0},
		{"(15)9", "999999999999999", vdec(999999999999999, 0), 0}, {"S(15)9", "-999999999999999", vdec(-999999999999999, 0), 0}, {"(15)Z", many(" ", 15), vdec(0, 0), 0}, {"9(30)/(9)/", "7" + many("/", 39), vdec(7, 0), 0}, {"9(30)/(8)/CR", "7" + many("/", 38) + "CR", vdec(-7, 0), 0},
	})
}

// 7.2, 7.3: texts that are edited from no number, and where they are wrong.
func TestReadWrong(t *testing.T) {
	none := api.Value{}
	checkReads(t, []read{
		{"ZZ9V.99", "  x.00", none, 3}, {"ZZ9V.99", " 1 .00", none, 3}, {"ZZ9V.99", "012.34", none, 1}, {"ZZ9V.99", "  1.3", none, 6}, {"ZZ9V.99", "  1.344", none, 7}, {"ZZ9V.99", "", none, 1}, {"ZZ9V.99", "1", none, 2}, {"ZZ9V.99", "  1.00 ", none, 7}, {"ZZ9V.99", "   .00", none, 3}, {"ZZ9V.99", "  1,00", none, 4}, {"ZZ9V.99", "  1 00", none, 1}, {"ZZ9V.99", "1 1.00", none, 1}, {"ZZ9V.99", "-11.00", none, 1}, {"ZZ9V.99", "x", none, 1},
		// A byte that can't be there comes ahead of a length that is another one.
		{"999", "1x", none, 2}, {"999", "12", none, 3}, {"999", "1234", none, 4}, {"999", "x234", none, 1}, {"999", "12x4", none, 3}, {"999", "123x", none, 4}, {"999", "1 3", none, 2}, {"999", "\x00\x00\x00", none, 1}, {"999", "12\x80", none, 3}, {"999", "１", none, 1},
		// A 0 that is not to be shown, or is to be.
		{"ZZ9", "007", none, 1}, {"ZZ9", "107", vdec(107, 0), 0}, {"ZZ9", "1 7", none, 1}, {"ZZ", " 0", none, 1}, {"ZZ", "00", none, 1}, {"**9", "*07", none, 1}, {"**9", " *7", none, 1}, {"ZZ9", "**7", none, 1}, {"**", "  ", none, 1}, {"**9", "** ", none, 3},
		// Signs that are not where they are put, or are not right.
		{"S99", " 05", none, 1}, {"S99", "$05", none, 1}, {"+99", "-05", none, 1}, {"-99", "+05", none, 1}, {"$99", " 05", none, 1}, {"999CR", "007CB", none, 5}, {"999CR", "007DR", none, 4}, {"999CR", "007C ", none, 1}, {"999CR", "007 R", none, 1}, {"999CR", "007cr", none, 4}, {"999DB", "007CR", none, 4}, {"99-", "00-", none, 1}, {"S99", "-00", none, 1}, {"+99", " 00", none, 1}, {"999CR", "000CR", none, 1},
		{"$$9", "$ 5", none, 1}, {"$$9", "$$5", none, 1}, {"$$9", "  5", none, 1}, {"$$9", "015", none, 1}, {"$$9", "115", none, 1}, {"$$9", "-15", none, 1}, {"$$9", " -5", none, 2}, {"---9", "- -5", none, 1}, {"---9", "-  5", none, 1}, {"SS9", "  5", none, 1}, {"SSS", " +0", none, 1},
		// Insertions.
		{"9,9", "1 2", none, 2}, {"9,9", "1*2", none, 2}, {"Z,9", "1 2", none, 1}, {"Z,9", " ,2", none, 1}, {"Z,9", "1*2", none, 2}, {"*,9", "*,2", none, 1}, {"*,9", "* 2", none, 2}, {"9B9", "1,2", none, 2}, {"*B9", "* 2", none, 1}, {"$,$9", "$,15", none, 1}, {"$,$9", "$ 15", none, 1}, {"$,$9", "  15", none, 1}, {"$,$9", " -15", none, 2}, {"$$,9", " $,5", none, 1}, {"$$,9", "  $5", none, 3}, {"S,S9", " S15", none, 2},
		// Digits too many for any number.
		{"$$$9", "1234", none, 1}, {"(15)9", "9999999999999999", none, 16}, {"(16)$", many("1", 16), none, 1}, {"99", many("1", 200), none, 3}, {"(15)Z", many("0", 200), none, 16}, {"S,S", many("9", 3), none, 2},
	})
}

const zeroToNine = "0123456789"

// mays are short pictures, and what each byte of an edited text may be by its symbol alone.
func mays() map[string][]string {
	const d = zeroToNine
	return map[string][]string{
		"9": {d}, "Z": {d + " "}, "*": {d + "*"}, "99": {d, d}, "Z9": {d + " ", d}, "*9": {d + "*", d}, "ZZ": {d + " ", d + " "}, "**": {d + "*", d + "*"},
		"9,9": {d, ",", d}, "9.": {d, "."}, "9/": {d, "/"}, "9B": {d, " "}, "Z,9": {d + " ", ", ", d}, "*.9": {d + "*", ".*", d}, "ZBZ": {d + " ", " ", d + " "}, "*B*": {d + "*", " *", d + "*"}, ",9": {",", d}, ",Z9": {", ", d + " ", d}, "/*9": {"/*", d + "*", d}, "B*": {" *", d + "*"}, "Z9,": {d + " ", d, ", "},
		"9V.9": {d, ".", d}, "ZV.Z": {d + " ", ". ", d + " "}, "V9": {d}, "*V.9": {d + "*", ".*", d},
		"S9": {"+-", d}, "+9": {"+ ", d}, "-9": {"- ", d}, "$9": {"$", d}, "9S": {d, "+-"}, "9$": {d, "$"}, "SZ": {"+- ", d + " "}, "$Z": {"$ ", d + " "}, "$*": {"$*", d + "*"}, "-*": {"- *", d + "*"}, "-*9": {"- ", d + "*", d}, "S,9": {"+-", ",", d}, "$,Z9": {"$", ", ", d + " ", d},
		"9CR": {d, "C ", "R "}, "9DB": {d, "D ", "B "}, "ZDB": {d + " ", "D ", "B "}, "*CR": {d + "*", "C *", "R *"}, "*9CR": {d + "*", d, "C ", "R "},
		"$$": {d + "$ ", d + "$ "}, "$$9": {d + "$ ", d + "$ ", d}, "SS": {d + "+- ", d + "+- "}, "SS9": {d + "+- ", d + "+- ", d}, "++": {d + "+ ", d + "+ "}, "--9": {d + "- ", d + "- ", d},
		"$,$": {d + "$ ", ", $", d + "$ "}, "$,$9": {d + "$ ", ", $", d + "$ ", d}, "S.S": {d + "+- ", ". +-", d + "+- "}, "SBS9": {d + "+- ", " +-", d + "+- ", d}, "-/-": {d + "- ", "/ -", d + "- "}, "$$,9": {d + "$ ", d + "$ ", ", ", d}, ",$$9": {", ", d + "$ ", d + "$ ", d}, "-$$9": {"- ", d + "$ ", d + "$ ", d}, "-$$": {"- ", d + "$ ", d + "$ "}, "$$-": {d + "$ ", d + "$ ", "- "}, "+,+$": {d + "+ ", ", +", d + "+ ", "$ "}, "++.$": {d + "+ ", d + "+ ", ". ", "$ "},
	}
}

// allTexts are all numbers of a picture that are edited without a condition, by their texts.
func allTexts(t *testing.T, p picture.Picture) map[string]api.Value {
	of := p.Type()
	bound := 1
	for range of.P {
		bound *= 10
	}
	texts := map[string]api.Value{}
	for n := 1 - bound; n < bound; n++ {
		text, cond, e := p.Edit(vdec(n, of.Q))
		if e != api.OK {
			t.Fatalf("%s of %d: %d", p.Text(), n, e)
		}
		if cond != 0 {
			continue
		}
		if other, is := texts[text]; is {
			t.Fatalf("%s: %q is of %d and of %d", p.Text(), text, other.N, n)
		}
		texts[text] = vdec(n, of.Q)
	}
	return texts
}

// wrongAt is where a text is wrong that is edited from no number.
func wrongAt(text string, may []string) int {
	for at := range min(len(text), len(may)) {
		if !strings.Contains(may[at], text[at:at+1]) {
			return at + 1
		}
	}
	if len(text) == len(may) {
		return 1
	}
	return min(len(text), len(may)) + 1
}

// bytesOf is what may stand in a text, of digits two, and what may stand in none.
func bytesOf(may []string) string {
	other := strings.NewReplacer("1", "", "2", "", "3", "", "4", "", "5", "", "6", "", "8", "", "9", "").Replace(strings.Join(may, ""))
	return sorted(other + " *x")
}

// 7.2, 7.3: all texts of some bytes, up to one byte too many.
func TestReadAll(t *testing.T) {
	t.Parallel()
	for text, may := range mays() {
		p := made(t, text)
		texts := allTexts(t, p)
		check := func(text string) {
			if v, is := texts[text]; is {
				checkRead(t, p, read{p.Text(), text, v, 0})
			} else {
				checkRead(t, p, read{p.Text(), text, api.Value{}, wrongAt(text, may)})
			}
		}
		check("")
		eachRow(bytesOf(may), len(may)+1, check)
		for text := range texts {
			check(text)
		}
	}
}

// 7.2, 7.3: each byte at each place of a text that is read otherwise.
func TestReadEachByte(t *testing.T) {
	for source, may := range mays() {
		p := made(t, source)
		texts := allTexts(t, p)
		for _, n := range []int{0, 5} {
			text, _, _ := p.Edit(vdec(n, p.Type().Q))
			for at := range len(text) {
				for b := range 256 {
					changed := text[:at] + string([]byte{byte(b)}) + text[at+1:]
					want := read{source, changed, texts[changed], 0}
					if want.v == (api.Value{}) {
						want.at = wrongAt(changed, may)
					}
					checkRead(t, p, want)
				}
			}
		}
	}
}

// mayOf is what each byte of a row's texts may be.
func mayOf(row string) []string {
	first, last := runOf(row)
	filler, anywhere := "", ""
	switch {
	case strings.Contains(row, "*"):
		filler = "*"
	case strings.Contains(row, "Z") || first >= 0:
		filler = " "
	}
	if !strings.Contains(row, "9") {
		anywhere = filler
	}
	var may []string
	for at := range len(row) {
		over, below := faceOf(row[at], false), faceOf(row[at], true)
		for i := range len(over) {
			one := over[i:i+1] + below[i:i+1]
			switch {
			case row[at] == '9':
				one = zeroToNine
			case strings.Contains("Z*", row[at:at+1]):
				one = zeroToNine + filler
			case first <= at && at <= last && row[at] == row[first]:
				one += zeroToNine + " "
			case strings.Contains(".,/B", row[at:at+1]):
				one += filler
				if first <= at && at <= last {
					one += faceOf(row[first], false) + faceOf(row[first], true)
				}
			}
			may = append(may, one+anywhere)
		}
	}
	return may
}

// sorted is the bytes of a text in order, each once.
func sorted(text string) string {
	b := []byte(text)
	slices.Sort(b)
	return string(slices.Compact(b))
}

// What the table tells is what is built for any picture.
func TestMays(t *testing.T) {
	for text, may := range mays() {
		built := mayOf(strings.NewReplacer("CR", "C", "DB", "D").Replace(text))
		for at := range max(len(may), len(built)) {
			if len(may) != len(built) || sorted(may[at]) != sorted(built[at]) {
				t.Fatalf("%s: %q, not %q", text, built, may)
			}
		}
	}
}

// spoiled is a text with a byte or two of it changed, lacking or too much.
func spoiled(r *rand.Rand, text string) string {
	const bytes = " *+-$.,/0019CRDBx"
	for range 1 + r.Intn(2) {
		at, b := r.Intn(len(text)+1), r.Intn(len(bytes))
		rest := text[at:]
		if r.Intn(8) > 0 && rest != "" {
			rest = rest[1:]
		}
		text = text[:at] + bytes[b:b+1] + rest
	}
	return text[:len(text)-r.Intn(8)/7]
}

// 7.2, 7.3: texts by long pictures that are spoiled. A text that is wrong is one that no number is edited to, neither one with the text's digits nor any other.
func TestReadSpoiled(t *testing.T) {
	t.Parallel()
	r := rand.New(rand.NewSource(2))
	seen := map[int]int{}
	eachSome(2, 10000, func(row string, v api.Value) {
		p := made(t, spelled(row))
		text, _, _ := p.Edit(v)
		text = spoiled(r, text)
		got, cond, _, _ := p.Read(text)
		seen[cond]++
		if cond == 0 {
			if back, cond, e := p.Edit(got); back != text || cond != 0 || e != api.OK {
				t.Fatalf("%s reads %q: %+v", row, text, got)
			}
			return
		}
		checkRead(t, p, read{row, text, api.Value{}, wrongAt(text, mayOf(row))})
	})
	if seen[0] < 300 || seen[api.CConversion] < 5000 {
		t.Errorf("%v", seen)
	}
}
