package conv_test

import (
	"math/big"
	"math/rand"
	"regexp"
	"strings"
	"testing"

	"ironbark/api"
	"ironbark/conv"
	"ironbark/digit"
)

func checkConstant(t *testing.T, source string, want typed) {
	t.Helper()
	if v, of, at, e := conv.Constant(source); v != want.Value || of != want.of || at != -1 || e != api.OK {
		t.Errorf("Constant(%q) = %+v, %+v, %d, %d; want %+v", source, v, of, at, e, want)
	}
}

// checkNone checks that a text is wrong at a place.
func checkNone(t *testing.T, source string, want int) {
	t.Helper()
	if v, of, at, e := conv.Constant(source); v != (api.Value{}) || of != (api.Type{}) || at != want || e != api.OK {
		t.Errorf("Constant(%q) = %+v, %+v, %d, %d; want %d", source, v, of, at, e, want)
	}
}

func TestConstants(t *testing.T) {
	for source, want := range map[string]typed{
		"12.50":  dec(1250, 4, 2),
		"-12.5":  dec(-125, 3, 1),
		"+12.5":  dec(125, 3, 1),
		" +7 ":   dec(7, 1, 0),
		"1.":     dec(1, 1, 0),
		"120":    dec(120, 3, 0),
		".5":     dec(5, 1, 1),
		"0.50":   dec(50, 2, 2),
		"007":    dec(7, 1, 0),
		"0.05":   dec(5, 1, 2),
		"00.050": dec(50, 2, 3),
		"0":      dec(0, 1, 0),
		"-0":     dec(0, 1, 0),
		"000":    dec(0, 1, 0),
		"0.00":   dec(0, 1, 2),
		".0":     dec(0, 1, 1),
		"0.":     dec(0, 1, 0),
		"1.001":  dec(1001, 4, 3),
		"101":    dec(101, 3, 0),
		"":       dec(0, 1, 0),
		" ":      dec(0, 1, 0),
		"      ": dec(0, 1, 0),

		"1E5":      float(1, 5, 1),
		"1.5E3":    float(15, 2, 2),
		"1.500E3":  float(15, 2, 4),
		"1500E0":   float(15, 2, 4),
		"-1500.E0": float(-15, 2, 4),
		"0.05E+03": float(5, 1, 1),
		".5E-1":    float(5, -2, 1),
		"1.E-07":   float(1, -7, 1),
		"0E5":      float(0, 0, 1),
		"-0E99":    float(0, 0, 1),
		"0.000E-9": float(0, 0, 1),
		"  1E0  ":  float(1, 0, 1),
		"1E75":     float(1, 75, 1),
		"9.9E75":   float(99, 74, 2),
		"1E-75":    float(1, -75, 1),
		"0.01E77":  float(1, 75, 1),
		"100E-77":  float(1, -75, 3),

		"101.1B":  bin(11, 4, 1),
		"-101.1B": bin(-11, 4, 1),
		"+1B":     bin(1, 1, 0),
		"1.B":     bin(1, 1, 0),
		".1B":     bin(1, 1, 1),
		"0.01B":   bin(1, 1, 2),
		"0.10B":   bin(2, 2, 2),
		"001B":    bin(1, 1, 0),
		"0.00B":   bin(0, 1, 2),
		"-0B":     bin(0, 1, 0),
		" 11B ":   bin(3, 2, 0),

		many("9", 15):                                   dec(mostDec, 15, 0),
		"-" + many("0", 200) + many("9", 15):            dec(-mostDec, 15, 0),
		many("9", 14) + ".9":                            dec(mostDec, 15, 14-13),
		"0." + many("0", 16) + many("9", 15):            dec(mostDec, 15, 31),
		"." + many("0", 31):                             dec(0, 1, 31),
		many("1", 31) + "B":                             bin(mostBin, 31, 0),
		"-" + many("1", 16) + "B":                       bin(-(1<<16 - 1), 16, 0),
		"." + many("1", 31) + "B":                       bin(mostBin, 31, 31),
		many("0", 40) + "1" + many("0", 30) + "." + "B": bin(1<<30, 31, 0),
		"." + many("0", 31) + "B":                       bin(0, 1, 31),
		many("9", 15) + "E61":                           float(mostDec, 61, 15),
		"1" + many("0", 14) + "E1":                      float(1, 15, 15),
		// Of a float there is no scale that could be too far.
		"." + many("0", 40) + "1E5": float(1, -36, 1),
		"." + many("0", 40) + "E5":  float(0, 0, 1),
		many(" ", 249) + "7":        dec(7, 1, 0),
		"7" + many(" ", 249):        dec(7, 1, 0),
		many(" ", 250):              dec(0, 1, 0),
	} {
		checkConstant(t, source, want)
	}
}

func TestNoConstants(t *testing.T) {
	for source, at := range map[string]int{
		// The chapter's.
		"12B": 2, "1E": 2, "+": 1, "+ 1": 1, "1E5B": 3, "1.2X": 3, many("1", 16): 15,
		// In the place of the first byte.
		"X": 0, "B": 0, "E5": 0, "$1": 0, "\"": 0, "  X": 2, " '": 1, "~": 0, "/": 0, ":": 0, ",": 0, "^1": 0,
		// Behind a sign.
		"-": 1, "--1": 1, "+-1": 1, "-+1": 1, "- 1": 1, " -": 2, "+E1": 1, "+B": 1, "-   ": 1,
		// Among digits.
		".": 1, "..": 1, "1..": 2, "1.1.": 3, ".1.": 2, ". 5": 1, ".E5": 1, ".B": 1, "+.": 2, "-. ": 2, "1,5": 1, "1-": 1, "1+1": 1, "1/2": 1, "1:2": 1,
		// Behind digits.
		"1 1": 2, "1 X": 2, "1  .": 3, "1 B": 2, "1 E5": 2, "1e5": 1, "1b": 1, "12.0B": 4, "1.2B": 3, "0.3 B": 4,
		// Behind an E or a B.
		"1EE": 2, "1E+": 3, "1E-": 3, "1E +1": 2, "1E+ 1": 3, "1E+-1": 3, "1E.5": 2, "1E1.": 3, "1E123": 4, "1E001": 4, "1E-001": 5, "1EX": 2, "1E5E": 3, "1E ": 2, "1E5 5": 4, "2E1B": 3,
		"1BB": 2, "1B1": 2, "1B.": 2, "1B E": 3, "1BE1": 2, "1B+": 2,
		many(" ", 249) + "-": 250, many("1", 249) + "E": 250, many("0", 249) + "X": 249, many(" ", 249) + ".": 250,
	} {
		checkNone(t, source, at)
	}
}

func TestDigitsTooMany(t *testing.T) {
	for source, at := range map[string]int{
		many("9", 16):                              15,
		many("9", 250):                             15,
		"  -" + many("9", 16) + " ":                18,
		many("9", 15) + ".0":                       16,
		many("9", 14) + ".99":                      16,
		"." + many("9", 16):                        16,
		"0." + many("0", 10) + many("9", 16):       27,
		"000" + many("1", 15) + "0":                18,
		many("1", 15) + "0E5":                      15,
		"." + many("0", 40) + many("9", 16) + "E9": 56,
		many("1", 16) + "E99":                      15,
		many("1", 32) + "B":                        31,
		"0" + many("1", 31) + ".1B":                33,
		"-." + many("1", 32) + "B":                 33,
		"." + many("0", 32):                        32,
		"1." + many("0", 32):                       16, // the place of the precision comes first
		"1." + many("0", 31) + "1B":                32, // there, too
		"0." + many("0", 31) + "1":                 33,
		"0." + many("0", 32) + "B":                 33,
		"." + many("0", 31) + "1B":                 32,
		// The scale's place comes first.
		"." + many("0", 20) + many("1", 20):       32,
		"." + many("0", 5) + many("1", 40) + "B":  32,
		"0." + many("0", 1) + many("1", 32) + "B": 33,
		// How it is written is asked first.
		many("9", 16) + "X":                       16,
		many("9", 16) + "B":                       16,
		many("1", 40) + "BX":                      41,
		many("9", 16) + "E":                       17,
		many("9", 20) + " 1":                      21,
		"." + many("0", 40) + "1E100":             45,
		many("1", 40) + "E1B":                     42,
		many("9", 16) + "." + many("9", 40) + ".": 57,
	} {
		checkNone(t, source, at)
	}
}

func TestExponentsOutOfRange(t *testing.T) {
	for source, at := range map[string]int{
		"1E76":                      1,
		"1E-76":                     1,
		"-1E+99":                    2,
		" 1.5E99":                   4,
		"10E75":                     2,
		"100E74":                    3,
		"0.1E-75":                   3,
		"0.01E78":                   4,
		"99E75":                     2,
		"." + many("0", 80) + "1E5": 82,
		many("0", 90) + "1E76":      91,
		// The precision is asked first.
		many("1", 16) + "E75":         15,
		many("1", 15) + "E62":         15,
		many("1", 14) + "0E-90":       15,
		"." + many("0", 200) + "7E99": 202,
	} {
		checkNone(t, source, at)
	}
}

// written is how constants and blanks are written.
var written = regexp.MustCompile(`^ *([+-]?([0-9]+\.?[0-9]*|\.[0-9]+)(E[+-]?[0-9][0-9]?)?|[+-]?([01]+\.?[01]*|\.[01]+)B)? *$`)

// begun reports whether a text is the beginning of what is written so: a digit is all that such a beginning can lack.
func begun(source string) bool {
	return written.MatchString(source) || written.MatchString(source+"1")
}

// wrongAt is the first byte with which no constant begins; -1 if there is none.
func wrongAt(source string) int {
	for at := range len(source) {
		if !begun(source[:at+1]) {
			return at
		}
	}
	if !written.MatchString(source) {
		return len(source)
	}
	return -1
}

// Of short texts all, of the bytes that matter.
func TestHowConstantsAreWritten(t *testing.T) {
	texts := []string{""}
	right := 0
	for range 6 {
		var longer []string
		for _, source := range texts {
			want := wrongAt(source)
			if _, _, at, e := conv.Constant(source); at != want || e != api.OK {
				t.Fatalf("Constant(%q) is wrong at %d, %d; want %d", source, at, e, want)
			}
			if want == -1 {
				right++
			}
			for _, next := range " +-.016EBX" {
				longer = append(longer, source+string(next))
			}
		}
		texts = longer
	}
	if right < 1000 {
		t.Errorf("%d right ones", right)
	}
}

// Each byte, behind each beginning of a constant.
func TestEachByteOfConstants(t *testing.T) {
	for b := 32; b <= 126; b++ {
		for _, ahead := range []string{"", " ", "+", "1", "7", "1.", ".", ".1", "1E", "1E-", "1E1", "1E11", "1B", "1 "} {
			source := ahead + string(rune(b))
			if _, _, at, e := conv.Constant(source); at != wrongAt(source) || e != api.OK {
				t.Errorf("Constant(%q) is wrong at %d, %d; want %d", source, at, e, wrongAt(source))
			}
		}
	}
}

// counted goes over a constant's digits one by one: how many count, how many stand behind the point, and the place of the first one that is too many.
func counted(source string, most, mostBehind int) (p, q, tooMany int) {
	behind := false
	for at := range len(source) {
		switch b := source[at]; {
		case b == 'E' || b == 'B':
			return max(p, 1), q, -1
		case b == '.':
			behind = true
		case '0' <= b && b <= '9':
			if b != '0' || p > 0 {
				p++
			}
			if behind {
				q++
			}
			if p > most || q > mostBehind {
				return 0, 0, at
			}
		}
	}
	return max(p, 1), q, -1
}

// someDigits are digits with a point or none, many of them 0.
func someDigits(r *rand.Rand, of string, most int) string {
	n := 1 + r.Intn(most)
	made := many("0", r.Intn(n))
	for len(made) < n {
		made += string(of[r.Intn(len(of))])
	}
	if r.Intn(3) > 0 {
		at := r.Intn(n + 1)
		made = made[:at] + "." + made[at:]
	}
	return made
}

func someBlanks(r *rand.Rand) string { return many(" ", r.Intn(3)) }

func someSign(r *rand.Rand) string { return []string{"", "+", "-"}[r.Intn(3)] }

// Decimal constants and floats by fractions, with their types and the places of digits that are too many.
func TestWhatConstantsCount(t *testing.T) {
	r := rand.New(rand.NewSource(1))
	seen := map[bool]int{}
	for range 20000 {
		number := someSign(r) + someDigits(r, "0123456789", 20+r.Intn(30))
		kind, mostBehind := api.TDec, api.MaxScale
		if r.Intn(2) == 0 {
			kind, mostBehind = api.TFloat, api.MaxLen
			number += "E" + someSign(r) + string(rune('0'+r.Intn(10))) + []string{"", "7"}[r.Intn(2)]
		}
		source := someBlanks(r) + number + someBlanks(r)
		p, q, tooMany := counted(source, api.MaxDec, mostBehind)
		seen[tooMany < 0]++
		if tooMany >= 0 {
			checkNone(t, source, tooMany)
			continue
		}
		of := api.Type{Kind: kind, P: p, Q: q}
		if kind == api.TFloat {
			of.Q = 0
		}
		checkCounted(t, source, number, of)
	}
	if seen[true] < 3000 || seen[false] < 3000 {
		t.Errorf("%v", seen)
	}
}

// checkCounted checks a constant that is wrong nowhere but, perhaps, at its E.
func checkCounted(t *testing.T, source, number string, of api.Type) {
	t.Helper()
	want, ok := new(big.Rat).SetString(strings.TrimPrefix(number, "+"))
	if !ok {
		t.Fatalf("%q is no number", number)
	}
	v, got, at, e := conv.Constant(source)
	if mark := strings.Index(source, "E"); mark >= 0 && !inRange(want) {
		checkNone(t, source, mark)
		return
	}
	if at != -1 || e != api.OK || got != of || !digit.Has(got, v) || fraction(v).Cmp(want) != 0 {
		t.Fatalf("Constant(%q) = %+v, %+v, %d, %d; want %+v of %+v", source, v, got, at, e, want, of)
	}
}

// power is 10, or another base, to a power.
func power(base, n int) *big.Rat {
	p := new(big.Rat).SetInt(new(big.Int).Exp(big.NewInt(int64(base)), big.NewInt(int64(max(n, -n))), nil))
	if n < 0 {
		p.Inv(p)
	}
	return p
}

// inRange reports whether a number is 0, or its exponent is one that a float has.
func inRange(x *big.Rat) bool {
	size := new(big.Rat).Abs(x)
	return size.Sign() == 0 || size.Cmp(power(10, -api.MaxExp)) >= 0 && size.Cmp(power(10, api.MaxExp+1)) < 0
}

// fraction is a number as a fraction.
func fraction(v api.Value) *big.Rat {
	n := new(big.Rat).SetInt64(int64(v.N))
	switch v.Kind {
	case api.TBin:
		return n.Mul(n, power(2, -v.Q))
	case api.TDec:
		return n.Mul(n, power(10, -v.Q))
	}
	return n.Mul(n, power(10, v.Q))
}

func TestWhatBinaryConstantsCount(t *testing.T) {
	r := rand.New(rand.NewSource(2))
	seen := map[bool]int{}
	for range 10000 {
		number := someDigits(r, "01", 40+r.Intn(60))
		sign := someSign(r)
		source := someBlanks(r) + sign + number + "B" + someBlanks(r)
		p, q, tooMany := counted(source, api.MaxBin, api.MaxScale)
		seen[tooMany < 0]++
		if tooMany >= 0 {
			checkNone(t, source, tooMany)
			continue
		}
		whole, _ := new(big.Int).SetString(strings.Replace(number, ".", "", 1), 2)
		n := int(whole.Int64())
		if sign == "-" {
			n = -n
		}
		checkConstant(t, source, bin(n, p, q))
	}
	if seen[true] < 2000 || seen[false] < 1000 {
		t.Errorf("%v", seen)
	}
}
