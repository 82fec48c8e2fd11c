package picture_test

import (
	"math/big"
	"math/rand"
	"strings"
	"testing"

	"ironbark/api"
	"ironbark/digit"
	"ironbark/picture"
)

// P7.2: what was edited is read, cut; what was read is edited.
func TestBack(t *testing.T) {
	t.Parallel()
	done := 0
	eachSome(3, 10000, func(row string, v api.Value) {
		p := made(t, spelled(row))
		text, cond, e := p.Edit(v)
		if e != api.OK {
			t.Fatalf("%s of %+v: %d", row, v, e)
		}
		if cond != 0 {
			return
		}
		cut, _, _ := digit.Fit(v, p.Type())
		checkRead(t, p, read{row, text, cut, 0})
		checkEdited(t, []edited{{spelled(row), cut, text, 0}})
		done++
	})
	if done < 2000 {
		t.Errorf("%d texts read", done)
	}
}

// P7.3: the length of an edited text, whatever is edited, and its bytes.
func TestLong(t *testing.T) {
	t.Parallel()
	eachSome(4, 10000, func(row string, v api.Value) {
		p := made(t, spelled(row))
		text, _, e := p.Edit(v)
		may := mayOf(row)
		if len(text) != p.Len() || len(text) != len(may) || e != api.OK {
			t.Fatalf("%s of %+v: %q, %d", row, v, text, e)
		}
		for at, bytes := range may {
			if !strings.Contains(bytes, text[at:at+1]) {
				t.Fatalf("%s of %+v: %q", row, v, text)
			}
		}
	})
}

// P7.4: Text writes each picture so that it is read again, and always so.
func TestTextsAreRead(t *testing.T) {
	r := newRules(5)
	check := func(row string) {
		if !r.allow(row) {
			return
		}
		p := made(t, spelled(row))
		if text := p.Text(); made(t, text) != p || made(t, strings.ToLower(text)) != p || len(text) > 80 {
			t.Errorf("%s: %q", row, text)
		}
	}
	eachRow("9Z*V.S-$CDAX", 4, check)
	eachSome(5, 3000, func(row string, _ api.Value) { check(row) })
}

// P7.4: the same for long rows of few symbols, with factors in all ways.
func TestFactorsAreRead(t *testing.T) {
	r := rand.New(rand.NewSource(6))
	for range 3000 {
		row := ""
		for len(row) < 1+r.Intn(40) {
			row += many([]string{"X", "9", "A"}[r.Intn(3)], []int{1, 2, 3, 4, 31, 40}[r.Intn(6)])
		}
		row = "A" + row[:min(39, len(row))]
		p := made(t, row)
		text := p.Text()
		if made(t, text) != p || p.Len() != len(row) || p.Text() != byFactors(row) {
			t.Fatalf("%s: %q", row, text)
		}
	}
}

// byFactors writes a row by taking as many equal symbols as a factor may count, again and again.
func byFactors(row string) string {
	text := ""
	for row != "" {
		rest := strings.TrimLeft(row, row[:1])
		n := min(30, len(row)-len(rest))
		switch {
		case n < 3:
			text += row[:n]
		default:
			text += "(" + big.NewInt(int64(n)).String() + ")" + row[:1]
		}
		row = row[n:]
	}
	return text
}

// P7.5: the digits of a text are the number.
func TestDigitsAreTheNumber(t *testing.T) {
	t.Parallel()
	done := 0
	eachSome(7, 10000, func(row string, v api.Value) {
		p := made(t, spelled(row))
		text, cond, _ := p.Edit(v)
		x := fraction(v)
		x.Mul(x.Abs(x), fraction(vfloat(1, p.Type().Q)))
		digits := strings.Map(func(b rune) rune {
			if b < '0' || b > '9' {
				return -1
			}
			return b
		}, text)
		if digits == "" || cond != 0 {
			return
		}
		if got, _ := new(big.Int).SetString(digits, 10); got.Cmp(new(big.Int).Quo(x.Num(), x.Denom())) != 0 {
			t.Fatalf("%s of %+v: %q", row, v, text)
		}
		done++
	})
	if done < 2000 {
		t.Errorf("%d texts", done)
	}
}

// P7.6: greater numbers have greater texts.
func TestOrder(t *testing.T) {
	r := rand.New(rand.NewSource(8))
	for range 2000 {
		row := many("9", 1+r.Intn(15))
		if at := r.Intn(len(row) + 1); r.Intn(3) > 0 {
			row = row[:at] + "V" + row[at:]
		}
		p := made(t, row)
		of := p.Type()
		bound := int(fraction(vfloat(1, of.P)).Num().Int64())
		a, b := vdec(r.Intn(bound), of.Q), vdec(r.Intn(bound), of.Q)
		low, _, _ := p.Edit(a)
		high, _, _ := p.Edit(b)
		if order, _ := digit.Compare(a, b); strings.Compare(low, high) != order {
			t.Fatalf("%s of %+v and %+v: %q and %q", row, a, b, low, high)
		}
	}
}

// someText is a text of bytes that are often a picture's or a number's.
func someText(r *rand.Rand) string {
	const bytes = "9999ZZZ**VV.,/BS+-$$CRDBAX(3)(12)zcrdb01 \x00\x80\xff\nQ"
	text := make([]byte, []int{r.Intn(4), r.Intn(20), r.Intn(210)}[r.Intn(3)])
	for at := range text {
		text[at] = bytes[r.Intn(len(bytes))]
	}
	return string(text)
}

// P7.1, R3, R7: any arguments; each call tells the same twice, nothing beside an error, and a place just with CConversion.
func TestAnyArguments(t *testing.T) {
	t.Parallel()
	r := rand.New(rand.NewSource(9))
	pictures := []picture.Picture{{}}
	for range 100000 {
		text := someText(r)
		p, at, e := picture.Parse(text)
		if again, place, errno := picture.Parse(text); again != p || place != at || errno != e || at < 0 || at > len(text) || e == api.OK && at != 0 {
			t.Fatalf("Parse(%q): %+v, %d, %d", text, p, at, e)
		}
		if (e == api.OK) == (p == picture.Picture{}) || e != api.OK && e != api.ErrSyntax && e != api.ErrLong {
			t.Fatalf("Parse(%q): %+v, %d, %d", text, p, at, e)
		}
		if e == api.OK {
			pictures = append(pictures, p)
		}
	}
	if len(pictures) < 1000 {
		t.Errorf("%d pictures", len(pictures))
	}
	for range 30000 {
		checkAny(t, r, pictures[r.Intn(len(pictures))])
	}
}

func checkAny(t *testing.T, r *rand.Rand, p picture.Picture) {
	t.Helper()
	text, v := someText(r), api.Value{Kind: r.Intn(5), N: r.Intn(2000) - 1000, Q: r.Intn(40) - 4}
	edited, cond, e := p.Edit(v)
	if e != api.OK && (edited != "" || cond != 0) || e == api.OK && cond != 0 && cond != api.CSize || p.Len() > 80 {
		t.Fatalf("%s edits %+v: %q, %d, %d", p.Text(), v, edited, cond, e)
	}
	w, cond, at, e := p.Read(text)
	if e != api.OK && cond != 0 || cond != conditionOf(at) || (w == api.Value{}) == (e == api.OK && cond == 0) || w != (api.Value{}) && !digit.Has(p.Type(), w) {
		t.Fatalf("%s reads %q: %+v, %d, %d, %d", p.Text(), text, w, cond, at, e)
	}
	if p.Numeric() {
		if c, a, errno := p.Check(text); c != cond || a != at || errno != e {
			t.Fatalf("%s checks %q: %d, %d, %d", p.Text(), text, c, a, errno)
		}
	}
	out, cond, at, e := p.Put(text)
	if e != api.OK && (cond != 0 || out != "") || cond != conditionOf(at) || e == api.OK && len(out) != p.Len() {
		t.Fatalf("%s puts %q: %q, %d, %d, %d", p.Text(), text, out, cond, at, e)
	}
}
