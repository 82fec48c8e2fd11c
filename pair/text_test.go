package pair_test

import (
	"math/rand"
	"strings"
	"testing"

	"ironbark/api"
	"ironbark/pair"
)

// Text writes pairs, and P4.4: Read reads them.
func TestTextAndBack(t *testing.T) {
	for _, x := range []struct {
		x    api.Pair
		text string
	}{
		{both(vdec(15, 1), vdec(-20, 1)), "1.5-2.0I"}, // the chapter's example
		{both(vfloat(1, -2), vfloat(2, 0)), "1E-2+2E0I"},
		{both(vdec(0, 0), vdec(0, 0)), "0+0I"},
		{both(vdec(0, 2), vdec(0, 2)), "0.00+0.00I"},
		{both(vdec(-1, 0), vdec(0, 0)), "-1+0I"},
		{both(vdec(-5, 1), vdec(-5, 1)), "-0.5-0.5I"},
		{both(vdec(mostDec, 0), vdec(-mostDec, 0)), "999999999999999-999999999999999I"},
		{both(vdec(-1, 31), vdec(mostDec, 31)), "-0.0000000000000000000000000000001+0.0000000000000000999999999999999I"},
		{both(vfloat(0, 0), vfloat(0, 0)), "0E0+0E0I"},
		{both(vfloat(0, 0), vfloat(-15, -76)), "0E0-1.5E-75I"},
		{both(vfloat(-25, 0), vfloat(1, 75)), "-2.5E1+1E75I"},
		{both(vfloat(-mostDec, -89), vfloat(-mostDec, -89)), "-9.99999999999999E-75-9.99999999999999E-75I"},
	} {
		if s, e := pair.Text(x.x); s != x.text || e != api.OK {
			t.Errorf("Text(%+v) is %q, %d; want %q", x.x, s, e, x.text)
		}
		if y, e := pair.Read(x.text); y != x.x || e != api.OK {
			t.Errorf("Read(%q) = %+v, %d; want %+v", x.text, y, e, x.x)
		}
	}
}

// P4.4
func TestSomeTextsAndBack(t *testing.T) {
	r := rand.New(rand.NewSource(9))
	for range 10000 {
		x := some(r)
		if x.of.Kind == api.TBin {
			continue
		}
		s, e := pair.Text(x.Pair)
		if y, f := pair.Read(s); y != x.Pair || e != api.OK || f != api.OK {
			t.Fatalf("%+v is written as %q (%d) and read as %+v (%d)", x, s, e, y, f)
		}
	}
}

func refusesRead(t *testing.T, want api.Errno, texts ...string) {
	t.Helper()
	for _, s := range texts {
		if x, e := pair.Read(s); x != (api.Pair{}) || e != want {
			t.Errorf("Read(%q) = %+v, %d; want %d", s, x, e, want)
		}
	}
}

func TestReadErrors(t *testing.T) {
	// no pair, or a part that is no number
	refusesRead(t, api.ErrSyntax, "", "I", "1", "1I", "+I", "-I", "1+I", "+1I", "-1I", "1+2", "1+2i", "1+2J", "1+2II", "1+2I ", " 1+2I", "1 +2I", "1+ 2I", "1+2 I", "I+1", "1I+2", "1I+2I", "1+2I\n",
		"1++2I", "1+-2I", "1-+2I", "--1+2I", "1+2+3I", "a+2I", "1+bI", ".+1I", "1+.I", "1E5I", "1E+5I", "1E-5I", "1E+I", "1E0+I", "1E+1EI", "1e0+2e0I", "1E0+2EI", "1E-+2E0I", "1E0+2E--3I", "1E0+2E003I", "1,5+2,5I", "\xff+1I", "1+\xffI")
	// what Text does not write
	refusesRead(t, api.ErrSyntax, "1-0I", "01+2I", "1+02I", "+1+2I", "-0+1I", "-0+0I", "0-0I", "1.5-0.0I", "-0.0+1.5I", ".5+0.5I", "0.5+.5I", "1.+2I", "1+2.I", "00+1I", "1.5+02.5I",
		"1E0-0E0I", "-0E0+1E0I", "1E+0+2E0I", "1E0+2E+0I", "1E00+2E0I", "1E0+2E05I", "10E0+2E0I", "1E0+20E0I", "1.0E0+2E0I", "0.1E0+2E0I", "0E5+1E0I", "1E-0+1E0I", "01E0+1E0I", "0.0E0+0E0I")
	// parts of two kinds or scales; this is asked ahead of how they are written
	refusesRead(t, api.ErrType, "1+2.0I", "1.5+2I", "1.50+2.5I", "1+2E0I", "1E0+2I", "1.5E0-2.5I", "0+0E0I", "0-0.0I", "01+2.0I", "+1+2E0I", "1E0-0I", "1.5-0I", "-0+0E0I", "1.+2.0I", "00E0+00I")
	refusesRead(t, api.ErrRange, "1234567890123456+1I", "1-1234567890123456I", "0.00000000000000000000000000000001+0I", "1E76+1E0I", "1E0+1E-76I", "1E99-1E99I", "9.999999999999991E0+1E0I", "1+1E76I", "1E76+1I", "01+1234567890123456I")
	// The last sign is the one between: what stands ahead of it is one part.
	refusesRead(t, api.ErrSyntax, "1E76+1+1I", "1234567890123456-1-1I", "1E76-1+1E0I", "1+1-1E76I")
	// The first part's error is told.
	refusesRead(t, api.ErrRange, "1E76+1.1.1I", "1234567890123456+xI", "1E76+I")
	refusesRead(t, api.ErrSyntax, "x+1E76I", "1.1.1-1234567890123456I", "+-1E76I", "1234567890123456", "1E76+1E0", "1E76I", "1234567890123456I")
}

func TestReadTooLong(t *testing.T) {
	long := strings.Repeat("0", 77) + "1+1I"
	refusesRead(t, api.ErrLong, long, "1+1"+strings.Repeat("I", 78), strings.Repeat("x", 81), strings.Repeat("I", 1<<16), strings.Repeat("9", 70)+"+1.5E99999I", strings.Repeat("0", 77)+"1+.1I")
	refusesRead(t, api.ErrSyntax, long[1:], strings.Repeat("x", 80), strings.Repeat("-", 80), strings.Repeat("+", 79)+"I")
	refusesRead(t, api.ErrType, long[2:78]+"+.1I")
	refusesRead(t, api.ErrRange, strings.Repeat("9", 77)+"+1I")
}

// What Read takes is what Text writes, and of it nothing is left over.
func TestReadTakesTextsAlone(t *testing.T) {
	r := rand.New(rand.NewSource(10))
	const letters = "00112.5+--EEI"
	read := 0
	for range 300000 {
		s := make([]byte, r.Intn(10))
		for i := range s {
			s[i] = letters[r.Intn(len(letters))]
		}
		x, e := pair.Read(string(s) + "I")
		if e != api.OK {
			if x != (api.Pair{}) {
				t.Fatalf("%q: %+v beside %d", s, x, e)
			}
			continue
		}
		read++
		if back, e := pair.Text(x); back != string(s)+"I" || e != api.OK {
			t.Fatalf("%q is read as %+v, whose text is %q, %d", s, x, back, e)
		}
	}
	if read < 1000 {
		t.Errorf("only %d texts were read", read)
	}
}
