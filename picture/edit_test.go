package picture_test

import (
	"math/big"
	"math/rand"
	"strings"
	"testing"

	"ironbark/api"
	"ironbark/picture"
)

// edited is a number with a picture's text of it.
type edited struct {
	picture string
	v       api.Value
	text    string
	cond    int
}

func checkEdited(t *testing.T, l []edited) {
	t.Helper()
	for _, x := range l {
		if text, cond, e := made(t, x.picture).Edit(x.v); text != x.text || cond != x.cond || e != api.OK {
			t.Errorf("%+v by %s: %q, %d, %d; not %q, %d", x.v, x.picture, text, cond, e, x.text, x.cond)
		}
	}
}

// 7.2: the chapter's examples, and digits that are shown or suppressed.
func TestDigits(t *testing.T) {
	checkEdited(t, []edited{
		{"ZZ9V.99", vdec(1234, 2), " 12.34", 0}, {"ZZZV.ZZ", vdec(5, 2), "   .05", 0}, {"ZZZV.ZZ", vdec(0, 0), "      ", 0}, {"$$,$$9", vdec(12, 0), "   $12", 0},
		{"999CR", vdec(-7, 0), "007CR", 0}, {"*,**9", vdec(1234, 0), "1,234", 0}, {"*,**9", vdec(34, 0), "***34", 0},
		{"999", vdec(7, 0), "007", 0}, {"999", vdec(0, 0), "000", 0}, {"999", vdec(999, 0), "999", 0}, {"9V9", vdec(19, 1), "19", 0}, {"99V99", vdec(5, 1), "0050", 0},
		{"ZZZ", vdec(7, 0), "  7", 0}, {"ZZZ", vdec(70, 0), " 70", 0}, {"ZZZ", vdec(700, 0), "700", 0}, {"ZZZ", vdec(707, 0), "707", 0}, {"ZZ9", vdec(0, 0), "  0", 0}, {"Z99", vdec(0, 0), " 00", 0}, {"Z99", vdec(100, 0), "100", 0},
		{"***", vdec(7, 0), "**7", 0}, {"***", vdec(70, 0), "*70", 0}, {"***", vdec(700, 0), "700", 0}, {"**9", vdec(0, 0), "**0", 0},
		{"ZV9", vdec(5, 1), " 5", 0}, {"ZV9", vdec(0, 0), " 0", 0}, {"ZVZ", vdec(5, 1), " 5", 0}, {"ZVZZ", vdec(5, 2), " 05", 0}, {"VZZ", vdec(5, 2), "05", 0}, {"*V**", vdec(5, 2), "*05", 0}, {"V**", vdec(50, 2), "50", 0},
		{"ZZV", vdec(5, 0), " 5", 0}, {"Z9V", vdec(0, 0), " 0", 0},
		{"(15)9", vdec(123456789012345, 0), "123456789012345", 0}, {"(15)Z", vdec(5, 0), "              5", 0}, {"V(15)9", vdec(5, 15), "000000000000005", 0}, {"(15)9", vdec(999999999999999, 0), "999999999999999", 0},
	})
}

// 7.2: insertions, by the state that the digits leave.
func TestInsertions(t *testing.T) {
	checkEdited(t, []edited{
		{"9,9", vdec(12, 0), "1,2", 0}, {"9.9/9,9B9", vdec(12345, 0), "1.2/3,4 5", 0}, {"9B9/9", vdec(123, 0), "1 2/3", 0}, {"99,", vdec(12, 0), "12,", 0},
		{"Z,9", vdec(2, 0), "  2", 0}, {"Z,9", vdec(12, 0), "1,2", 0}, {"Z.9", vdec(2, 0), "  2", 0}, {"Z/9", vdec(2, 0), "  2", 0}, {"ZBZ", vdec(2, 0), "  2", 0}, {"ZBZ", vdec(12, 0), "1 2", 0},
		{"*,9", vdec(2, 0), "**2", 0}, {"*.*", vdec(12, 0), "1.2", 0}, {"*B9", vdec(2, 0), "**2", 0}, {"*B9", vdec(12, 0), "1 2", 0}, {"*/.,B9", vdec(2, 0), "*****2", 0},
		{"9,,9", vdec(12, 0), "1,,2", 0}, {"Z,,9", vdec(2, 0), "   2", 0}, {"ZZ,ZZ9", vdec(1234, 0), " 1,234", 0}, {"ZZ,ZZ9", vdec(234, 0), "   234", 0}, {"ZZZ,", vdec(7, 0), "  7,", 0}, {"Z,Z9,9", vdec(7, 0), "   0,7", 0},
		// Ahead of all digits the state is off.
		{",9", vdec(1, 0), ",1", 0}, {",Z9", vdec(1, 0), ", 1", 0}, {"/B*9", vdec(1, 0), "/ *1", 0}, {".,Z,9", vdec(1, 0), ".,  1", 0}, {"-,Z9", vdec(-1, 0), "-, 1", 0}, {"B9", vdec(1, 0), " 1", 0},
		// V turns it off.
		{"ZV.99", vdec(5, 2), " .05", 0}, {"Z.V99", vdec(5, 2), "  05", 0}, {"*V.99", vdec(5, 2), "*.05", 0}, {"*.V99", vdec(5, 2), "**05", 0}, {"Z,V.99", vdec(5, 2), "  .05", 0}, {"ZV,ZB/Z", vdec(5, 2), " ,0 /5", 0}, {"Z,ZV.Z", vdec(15, 1), "  1.5", 0},
		// So does a 9.
		{"Z9,9", vdec(1, 0), " 0,1", 0}, {"Z,9,9", vdec(1, 0), "  0,1", 0},
	})
}

// 7.2: signs, $, CR and DB that do not drift.
func TestStaticSigns(t *testing.T) {
	checkEdited(t, []edited{
		{"S99", vdec(5, 0), "+05", 0}, {"S99", vdec(-5, 0), "-05", 0}, {"S99", vdec(0, 0), "+00", 0}, {"99S", vdec(-5, 0), "05-", 0}, {"99S", vdec(5, 0), "05+", 0},
		{"+99", vdec(5, 0), "+05", 0}, {"+99", vdec(-5, 0), " 05", 0}, {"+99", vdec(0, 0), "+00", 0}, {"-99", vdec(5, 0), " 05", 0}, {"-99", vdec(-5, 0), "-05", 0}, {"-99", vdec(0, 0), " 00", 0}, {"99-", vdec(-5, 0), "05-", 0}, {"99+", vdec(-5, 0), "05 ", 0},
		{"$99", vdec(5, 0), "$05", 0}, {"99$", vdec(5, 0), "05$", 0}, {"$ZZ9", vdec(5, 0), "$  5", 0}, {"-$Z9", vdec(-5, 0), "-$ 5", 0}, {"$-Z9", vdec(-5, 0), "$- 5", 0}, {"$**9S", vdec(-5, 0), "$**5-", 0}, {"S**9$", vdec(5, 0), "+**5$", 0},
		{"$,B-/Z9", vdec(-5, 0), "$, -/ 5", 0},
		{"99CR", vdec(-5, 0), "05CR", 0}, {"99CR", vdec(5, 0), "05  ", 0}, {"99DB", vdec(-5, 0), "05DB", 0}, {"99DB", vdec(0, 0), "00  ", 0}, {"$ZZV.99DB", vdec(-5, 2), "$  .05DB", 0}, {"99BCR", vdec(-5, 0), "05 CR", 0}, {"9CR,", vdec(5, 0), "5  ,", 0}, {"ZCR", vdec(-5, 0), "5CR", 0},
		{"Z-", vdec(-5, 0), "5-", 0}, {"ZS$", vdec(5, 0), "5+$", 0}, {"-V99", vdec(-5, 2), "-05", 0}, {"V-99", vdec(-5, 2), "-05", 0}, {"99V-", vdec(-5, 0), "05-", 0},
		// A number that is cut to 0 is not below it.
		{"S9", vdec(-5, 1), "+0", 0}, {"+9", vdec(-99, 2), "+0", 0}, {"-9", vdec(-99, 2), " 0", 0}, {"9CR", vdec(-1, 31), "0  ", 0}, {"-9V9", vdec(-99, 3), " 00", 0}, {"-9V9", vdec(-10, 2), "-01", 0}, {"-9V9", vdec(-1, 1), "-01", 0}, {"SS9", vdec(-9, 1), " +0", 0}, {"9", vdec(-9, 1), "0", 0}, {"9V9", vdec(-99, 3), "00", 0}, {"ZZ", vdec(-9, 1), "  ", 0}, {"-9", vbin(-1, 1), " 0", 0}, {"-9", vfloat(-9, -1), " 0", 0}, {"-9", vfloat(-1, -75), " 0", 0},
	})
}

// 7.2: drifting runs, and where their sign is put.
func TestDrifting(t *testing.T) {
	checkEdited(t, []edited{
		{"$$,$$9", vdec(1, 0), "    $1", 0}, {"$$,$$9", vdec(0, 0), "    $0", 0}, {"$$,$$9", vdec(234, 0), "  $234", 0}, {"$$,$$9", vdec(1234, 0), "$1,234", 0},
		{"$$$", vdec(5, 0), " $5", 0}, {"$$$", vdec(15, 0), "$15", 0}, {"$$$", vdec(0, 0), "   ", 0}, {"$$", vdec(5, 0), "$5", 0}, {"$$9", vdec(50, 0), "$50", 0}, {"$$V", vdec(5, 0), "$5", 0},
		{"SSS", vdec(5, 0), " +5", 0}, {"SSS", vdec(-5, 0), " -5", 0}, {"SSS", vdec(-15, 0), "-15", 0}, {"SS9", vdec(0, 0), " +0", 0}, {"+++", vdec(5, 0), " +5", 0}, {"+++", vdec(-5, 0), "  5", 0}, {"+++", vdec(-15, 0), " 15", 0}, {"---", vdec(5, 0), "  5", 0}, {"---9", vdec(-5, 0), "  -5", 0}, {"---9", vdec(-105, 0), "-105", 0},
		// No symbol of the run shows a digit: its last place.
		{"$$V.99", vdec(5, 2), " $.05", 0}, {"$$,9", vdec(5, 0), " $ 5", 0}, {"$$,9", vdec(15, 0), "$1,5", 0}, {"$$.,/9", vdec(5, 0), " $   5", 0}, {"$,$V.9", vdec(5, 1), "  $.5", 0}, {"--99", vdec(-5, 0), " -05", 0}, {"SSV99", vdec(5, 2), " +05", 0}, {"--BV9", vdec(-5, 1), " - 5", 0}, {"$$$,$$$V.99", vdec(5, 2), "      $.05", 0},
		// Insertions within the run: blanks ahead of the first digit, and the sign may take their place.
		{"$,$9", vdec(5, 0), "  $5", 0}, {"$,$9", vdec(15, 0), " $15", 0}, {"$,,$9", vdec(15, 0), "  $15", 0}, {"$,$,$", vdec(12, 0), " $1,2", 0}, {"$,$,$", vdec(2, 0), "   $2", 0}, {"S/SB.S", vdec(-2, 0), "    -2", 0}, {"S/SB.S", vdec(-12, 0), " -1 .2", 0}, {"-,-9", vdec(15, 0), "  15", 0}, {"$.$", vdec(0, 0), "   ", 0}, {"$.$9", vdec(0, 0), "  $0", 0},
		// Beside the run: insertions and what is static.
		{",$$9", vdec(5, 0), ", $5", 0}, {"$$9,", vdec(5, 0), " $5,", 0}, {"-,$$9", vdec(-5, 0), "-, $5", 0}, {"$---9", vdec(-5, 0), "$  -5", 0}, {"$---9", vdec(-555, 0), "$-555", 0}, {"S$$9", vdec(-55, 0), "-$55", 0}, {"$$9-", vdec(-5, 0), " $5-", 0}, {"$$9CR", vdec(-5, 0), " $5CR", 0}, {"$$DB", vdec(-5, 0), "$5DB", 0}, {"---$", vdec(-5, 0), " -5$", 0}, {"B$$/9", vdec(5, 0), "  $ 5", 0},
		{"(16)$", vdec(1, 0), many(" ", 14) + "$1", 0}, {"(16)-", vdec(-123456789012345, 0), "-123456789012345", 0},
	})
}

// 7.2: 0 by pictures without 9, whatever else they have.
func TestSuppressedWhole(t *testing.T) {
	for picture, text := range map[string]string{
		"Z": " ", "ZZ": "  ", "*": "*", "***": "***", "Z,Z": "   ", ",Z": "  ", "Z.": "  ", "ZV.Z": "   ", "V.Z": "  ", "*V.*": "***", "*B*": "***", "B*": "**", "/*.": "***",
		"-Z": "  ", "S*": "**", "SZ": "  ", "+Z": "  ", "$Z": "  ", "$*": "**", "Z$": "  ", "*-": "**", "ZCR": "   ", "*CR": "***", "*DB": "***", "$*,*V.**CR": many("*", 9), "$Z,ZV.ZZCR": many(" ", 9),
		"$$": "  ", "SS": "  ", "++": "  ", "--": "  ", "$,$": "   ", ".$$.": "    ", "-$$": "   ", "$++": "   ", "$$CR": "    ", "$$V": "  ",
	} {
		checkEdited(t, []edited{{picture, vdec(0, 0), text, 0}, {picture, vfloat(0, 0), text, 0}, {picture, vbin(0, 9), text, 0}, {picture, vdec(-1, 31), text, 0}})
	}
	checkEdited(t, []edited{{"9", vdec(0, 0), "0", 0}, {"S9,9", vdec(0, 0), "+0,0", 0}, {"*9V.9CR", vdec(0, 0), "*0.0  ", 0}})
}

// 7.2: CSize, and the digits that have room.
func TestSize(t *testing.T) {
	const size = api.CSize
	checkEdited(t, []edited{
		{"99", vdec(123, 0), "23", size}, {"99", vdec(100, 0), "00", size}, {"99", vdec(99, 0), "99", 0}, {"9V9", vdec(123, 1), "23", size}, {"V9", vdec(1, 0), "0", size}, {"V9", vdec(12, 1), "2", size}, {"Z9", vdec(101, 0), " 1", size},
		{"ZZZ", vdec(1000, 0), "   ", size}, {"***", vdec(1000, 0), "***", size}, {"*V.**", vdec(1000, 2), "****", size}, {"ZZZ", vdec(1001, 0), "  1", size}, {"$$", vdec(10, 0), "  ", size}, {"$$$", vdec(105, 0), " $5", size}, {"-ZZ", vdec(-100, 0), "   ", size}, {"ZZCR", vdec(-100, 0), "    ", size},
		{"S99", vdec(-123, 0), "-23", size}, {"999-", vdec(-1000, 0), "000-", size}, {"S9", vdec(-10, 0), "-0", size}, {"+9", vdec(-10, 0), " 0", size}, {"9CR", vdec(-10, 0), "0CR", size}, {"9DB", vdec(-10, 0), "0DB", size}, {"--9", vdec(-100, 0), " -0", size}, {"--9", vdec(-105, 0), " -5", size},
		// Below 0 without a sign.
		{"99", vdec(-5, 0), "05", size}, {"ZZ", vdec(-5, 0), " 5", size}, {"$$9", vdec(-5, 0), " $5", size}, {"$99", vdec(-5, 0), "$05", size}, {"99", vdec(-123, 0), "23", size}, {"ZZZ", vdec(-1000, 0), "   ", size}, {"9V9", vdec(-1, 1), "01", size}, {"**", vdec(-100, 0), "**", size}, {"9", vfloat(-1, 75), "0", size}, {"9", vbin(-2, 1), "1", size},
		{"(15)9", vfloat(123, 13), "230000000000000", size}, {"(15)9", vfloat(1, 15), many("0", 15), size}, {"V(15)9", vdec(999999999999999, 0), many("0", 15), size}, {"(15)Z", vfloat(1, 75), many(" ", 15), size}, {"S9", vfloat(-1, 75), "-0", size},
	})
}

// 7.2: numbers of all kinds, cut to the picture's places.
func TestCut(t *testing.T) {
	checkEdited(t, []edited{
		{"9V9", vdec(199, 2), "19", 0}, {"9", vdec(99, 1), "9", 0}, {"-9", vdec(-99, 1), "-9", 0}, {"9V99", vdec(1999, 3), "199", 0}, {"99V99", vbin(5, 2), "0125", 0}, {"9V9", vbin(7, 2), "17", 0}, {"-9V9", vbin(-7, 2), "-17", 0}, {"9V(14)9", vbin(1, 14), "000006103515625", 0}, {"V(15)9", vbin(1, 31), "000000000465661", 0},
		{"999", vfloat(12, 1), "120", 0}, {"9V99", vfloat(125, -2), "125", 0}, {"9V9", vfloat(125, -2), "12", 0}, {"-9V9", vfloat(-125, -2), "-12", 0}, {"9", vfloat(1, -75), "0", 0}, {"(15)9", vfloat(1, 14), "1" + many("0", 14), 0}, {"(15)9", vfloat(999999999999999, 0), many("9", 15), 0}, {"9", vdec(999999999999999, 15), "0", 0}, {"9", vdec(9, 0), "9", 0},
	})
}

// fraction is a number as it is.
func fraction(v api.Value) *big.Rat {
	base, q := int64(10), -v.Q
	switch v.Kind {
	case api.TBin:
		base = 2
	case api.TFloat:
		q = v.Q
	}
	scale := new(big.Int).Exp(big.NewInt(base), big.NewInt(int64(max(q, -q))), nil)
	x := new(big.Rat).SetInt64(int64(v.N))
	if q < 0 {
		return x.Quo(x, new(big.Rat).SetInt(scale))
	}
	return x.Mul(x, new(big.Rat).SetInt(scale))
}

func isDigitSymbol(row string, at int) bool {
	first, _ := runOf(row)
	return strings.IndexByte("9Z*", row[at]) >= 0 || first >= 0 && row[at] == row[first] && at > first
}

// runOf is from where to where a run drifts; -1 and -2 if none does.
func runOf(row string) (first, last int) {
	for _, letter := range []string{"S", "+", "-", "$"} {
		if strings.Count(row, letter) > 1 {
			return strings.Index(row, letter), strings.LastIndex(row, letter)
		}
	}
	return -1, -2
}

// wanted is what is to be told of a number by a row: its digits cut by long numbers, and what stands at each place told by looking around it.
func wanted(row string, v api.Value) (text string, cond int) {
	pointAt := strings.IndexByte(row, 'V')
	p, q := 0, 0
	for at := range len(row) {
		if isDigitSymbol(row, at) {
			p++
			if pointAt >= 0 && at > pointAt {
				q++
			}
		}
	}
	x := fraction(v)
	x.Mul(x, new(big.Rat).SetInt(new(big.Int).Exp(big.NewInt(10), big.NewInt(int64(q)), nil)))
	n := new(big.Int).Quo(x.Num(), x.Denom())
	below := n.Sign() < 0
	digits := n.Abs(n).String()
	if below && !strings.ContainsAny(row, "S+-CD") || len(digits) > p {
		cond = api.CSize
	}
	digits = many("0", max(0, p-len(digits))) + digits
	return placed(row, digits[len(digits)-p:], below), cond
}

// placed is what stands at each place for some digits.
func placed(row, digits string, below bool) string {
	filler := " "
	if strings.Contains(row, "*") {
		filler = "*"
	}
	zero := strings.Trim(digits, "0") == ""
	shown := shownDigits(row, digits)
	first, last := runOf(row)
	begun := len(row) // the first digit that is shown
	for at := len(row) - 1; at >= 0; at-- {
		if shown[at] != "" {
			begun = at
		}
	}
	drifted := last
	if begun <= last {
		drifted = begun - 1
	}
	text := ""
	for at, letter := range row {
		face := faceOf(byte(letter), below)
		switch {
		case letter == 'V':
		case zero && !strings.Contains(row, "9"):
			text += many(filler, len(face))
		case first >= 0 && at == drifted:
			text += faceOf(row[first], below)
		case shown[at] != "":
			text += shown[at]
		case first <= at && at <= last && at < begun || strings.ContainsRune("Z*", letter):
			text += filler
		case strings.ContainsRune(".,/B", letter) && isFilled(row, shown, at):
			text += filler
		default:
			text += face
		}
	}
	return text
}

// shownDigits are at the places of the digit symbols that are not suppressed.
func shownDigits(row, digits string) []string {
	pointAt := strings.IndexByte(row+"V", 'V')
	shown := make([]string, len(row))
	n := 0
	for at := range len(row) {
		if isDigitSymbol(row, at) {
			n++
			if row[at] == '9' || at > pointAt || strings.Trim(digits[:n], "0") != "" {
				shown[at] = digits[n-1 : n]
			}
		}
	}
	return shown
}

// isFilled reports whether the nearest digit symbol ahead of an insertion is suppressed, without V in between.
func isFilled(row string, shown []string, at int) bool {
	for at--; at >= 0 && row[at] != 'V'; at-- {
		if isDigitSymbol(row, at) {
			return shown[at] == ""
		}
	}
	return false
}

// faceOf is what a symbol shows when it is no digit's; of one that always is, anything of a byte.
func faceOf(letter byte, below bool) string {
	faces := map[byte][2]string{'S': {"+", "-"}, '+': {"+", " "}, '-': {" ", "-"}, 'C': {"  ", "CR"}, 'D': {"  ", "DB"}, 'B': {" ", " "}, 'V': {"", ""}}
	face, is := faces[letter]
	if !is {
		return string(letter)
	}
	if below {
		return face[1]
	}
	return face[0]
}

// somePlaces are numbers of a type's size that differ in where their digits begin and end.
func somePlaces(p, q int) []api.Value {
	l := []api.Value{vdec(0, q)}
	for n := 1; p > 0; p-- {
		for _, m := range []int{n, 5*n + n/10*3, 10*n - 1} {
			l = append(l, vdec(m, q), vdec(-m, q))
		}
		n *= 10
	}
	return append(l, vdec(-1, q+1))
}

// 7.2: all short pictures, with numbers of their size and greater ones.
func TestEditedByPlaces(t *testing.T) {
	t.Parallel()
	r := newRules(6)
	n := 0
	check := func(row string) {
		if !r.allow(row) || ofCharacters.MatchString(row) {
			return
		}
		p := made(t, spelled(row))
		for _, v := range somePlaces(p.Type().P+1, p.Type().Q) {
			text, cond := wanted(row, v)
			checkEdited(t, []edited{{spelled(row), v, text, cond}})
			n++
		}
	}
	eachRow("9Z*V.,S+-$CD", 4, check)
	eachRow("9ZV,-$", 5, check)
	eachRow("9*V/S", 5, check)
	if n < 100000 {
		t.Errorf("%d numbers edited", n)
	}
}

// someRow is a row of a numeric picture, often long.
func someRow(r *rand.Rand) string {
	front, back := r.Intn(9), r.Intn(8)
	row := many([]string{"Z", "*", "S", "+", "-", "$"}[r.Intn(6)], front) + many("9", back)
	if r.Intn(2) == 0 {
		row = []string{"S", "-", "$", "+", "$-"}[r.Intn(5)] + row
	}
	if r.Intn(2) == 0 {
		row += []string{"S", "-", "$", "+", "C", "D", "$D"}[r.Intn(7)]
	}
	for _, letter := range []string{"V", ",", ".", "B", "/", ",", "BBB"} {
		if at := r.Intn(len(row) + 1); r.Intn(2) == 0 {
			row = row[:at] + letter + row[at:]
		}
	}
	return row
}

// someNumber is a valid number of any kind, often about as great as a picture's.
func someNumber(r *rand.Rand, of api.Type) api.Value {
	n := r.Intn(2000000) - 1000000
	if r.Intn(2) == 0 {
		n = r.Intn(1 << r.Intn(49))
		n -= r.Intn(n + 1)
	}
	if r.Intn(3) == 0 {
		n = -n
	}
	switch r.Intn(4) {
	case 0:
		return vbin(n%(1<<31), r.Intn(32))
	case 1:
		for n != 0 && n%10 == 0 {
			n /= 10
		}
		if n == 0 {
			return vfloat(0, 0)
		}
		return vfloat(n, r.Intn(30)-15-of.Q)
	case 2:
		return vdec(n, r.Intn(32))
	}
	return vdec(n, of.Q)
}

// eachSome does a check many times with some picture, often a long one, and some number.
func eachSome(seed int64, times int, check func(row string, v api.Value)) {
	r := rand.New(rand.NewSource(seed))
	for done := 0; done < times; {
		row := someRow(r)
		if p, _, e := picture.Parse(spelled(row)); e == api.OK {
			check(row, someNumber(r, p.Type()))
			done++
		}
	}
}

// 7.2: numbers of all kinds by long pictures.
func TestEditedLong(t *testing.T) {
	t.Parallel()
	seen := map[int]int{}
	eachSome(1, 10000, func(row string, v api.Value) {
		text, cond := wanted(row, v)
		checkEdited(t, []edited{{spelled(row), v, text, cond}})
		seen[cond]++
	})
	if seen[0] < 2000 || seen[api.CSize] < 2000 {
		t.Errorf("%v", seen)
	}
}
