package bits_test

import (
	"math/rand"
	"testing"

	"ironbark/api"
	"ironbark/bits"
)

// some is a string of one kind, at most so long, often short.
func some(r *rand.Rand, kind, most int) api.Value {
	items := "01"
	if kind == api.TChar {
		items = "  abc!~Z09'"
	}
	length := r.Intn(most + 1)
	if r.Intn(2) == 0 {
		length %= 8
	}
	return someOf(r, kind, items, length)
}

func someOf(r *rand.Rand, kind int, items string, length int) api.Value {
	text := make([]byte, length)
	for at := range text {
		text[at] = items[r.Intn(len(items))]
	}
	return api.Value{Kind: kind, S: string(text)}
}

// eachKind does a check many times, for strings of both kinds.
func eachKind(seed int64, times int, check func(r *rand.Rand, kind int)) {
	r := rand.New(rand.NewSource(seed))
	for range times {
		check(r, api.TChar)
		check(r, api.TBit)
	}
}

// P5.2: Sub of what was joined.
func TestPartsOfJoined(t *testing.T) {
	eachKind(2, 3000, func(r *rand.Rand, kind int) {
		a, b := some(r, kind, 125), some(r, kind, 125)
		s, e := bits.Join(a, b)
		if e != api.OK {
			t.Fatalf("%+v and %+v joined: %d", a, b, e)
		}
		checkSub(t, []cutOut{{s, 1, len(a.S), a.S, 0}, {s, len(a.S) + 1, len(b.S), b.S, 0}})
		if v, cond, e := bits.Rest(s, len(a.S)+1); v != b || cond != 0 || e != api.OK {
			t.Fatalf("behind %+v in %+v: %+v, %d, %d", a, s, v, cond, e)
		}
	})
}

// P5.2: Sub of what SetSub set.
func TestPartsThatWereSet(t *testing.T) {
	eachKind(3, 3000, func(r *rand.Rand, kind int) {
		s, v := some(r, kind, 250), some(r, kind, 250)
		i := 1 + r.Intn(len(s.S)+1)
		n := r.Intn(len(s.S) - i + 2)
		set, cond, e := bits.SetSub(s, i, n, v)
		if cond != 0 || e != api.OK || len(set.S) != len(s.S) {
			t.Fatalf("SetSub(%+v, %d, %d, %+v) = %+v, %d, %d", s, i, n, v, set, cond, e)
		}
		fitted, _, _ := bits.Fit(v, api.Type{Kind: kind, N: n})
		checkSub(t, []cutOut{{set, i, n, fitted.S, 0}, {set, 1, i - 1, s.S[:i-1], 0}})
		if rest, _, _ := bits.Rest(set, i+n); rest.S != s.S[i-1+n:] {
			t.Fatalf("SetSub(%+v, %d, %d, %+v) = %+v", s, i, n, v, set)
		}
	})
}

// P5.3: what Index finds.
func TestFound(t *testing.T) {
	eachKind(4, 3000, func(r *rand.Rand, kind int) {
		s, p := some(r, kind, 250), some(r, kind, 3)
		if r.Intn(2) == 0 && len(s.S) > 0 {
			from := r.Intn(len(s.S))
			p.S = s.S[from : from+r.Intn(len(s.S)-from+1)]
		}
		at, e := bits.Index(s, p)
		if e != api.OK {
			t.Fatalf("Index(%+v, %+v): %d", s, p, e)
		}
		if at != 0 {
			checkSub(t, []cutOut{{s, at, len(p.S), p.S, 0}})
		}
		for place := 1; place != at && place+len(p.S)-1 <= len(s.S) && p.S != ""; place++ {
			if v, _, _ := bits.Sub(s, place, len(p.S)); v == p {
				t.Fatalf("%+v is in %+v at %d, not at %d", p, s, place, at)
			}
		}
	})
}

// P5.3: Verify by way of Translate. Without a blank in the set there is none in the string.
func TestVerifiedByTranslate(t *testing.T) {
	r := rand.New(rand.NewSource(5))
	seen := map[bool]int{}
	for range 5000 {
		set := someOf(r, api.TChar, "abcde", r.Intn(6))
		items := "abcd"
		if r.Intn(2) == 0 {
			set.S += " "
			items += " "
		}
		s := someOf(r, api.TChar, items, r.Intn(6))
		blanks, _ := bits.Low(len(set.S))
		turned, _ := bits.Translate(s, blanks, set)
		want, _ := bits.Low(len(s.S))
		at, e := bits.Verify(s, set)
		if e != api.OK || (at == 0) != (turned == want) {
			t.Fatalf("Verify(%+v, %+v) is %d, %d, but Translate gives %+v", s, set, at, e, turned)
		}
		seen[at == 0]++
	}
	if seen[true] < 500 || seen[false] < 500 {
		t.Errorf("%v", seen)
	}
}

// P5.4: each table by And, Or and Not, for strings of one length.
func TestTablesOfAndOrNot(t *testing.T) {
	r := rand.New(rand.NewSource(6))
	not, and, or := must1(t, bits.Not), must2(t, bits.And), must2(t, bits.Or)
	for range 300 {
		length := r.Intn(251)
		a, b := someOf(r, api.TBit, "01", length), someOf(r, api.TBit, "01", length)
		rows := []api.Value{and(not(a), not(b)), and(not(a), b), and(a, not(b)), and(a, b)}
		for _, table := range tables() {
			want := and(a, not(a))
			for row, wanted := range table {
				if wanted == '1' {
					want = or(want, rows[row])
				}
			}
			checkString(t, want)(bits.Bool(a, b, table))
		}
		if not(and(a, b)) != or(not(a), not(b)) || not(or(a, b)) != and(not(a), not(b)) {
			t.Fatalf("%+v and %+v", a, b)
		}
	}
}

// must1 and must2 are functions that tell no error here.
func must1(t *testing.T, f func(a api.Value) (api.Value, api.Errno)) func(a api.Value) api.Value {
	return func(a api.Value) api.Value {
		v, e := f(a)
		if e != api.OK {
			t.Fatalf("%+v: %d", a, e)
		}
		return v
	}
}

func must2(t *testing.T, f func(a, b api.Value) (api.Value, api.Errno)) func(a, b api.Value) api.Value {
	return func(a, b api.Value) api.Value {
		v, e := f(a, b)
		if e != api.OK {
			t.Fatalf("%+v, %+v: %d", a, b, e)
		}
		return v
	}
}

// P5.5: Compare is an order.
func TestOrder(t *testing.T) {
	for _, all := range [][]api.Value{small(text, " !a", 3), small(digits, "01", 4)} {
		order := map[[2]api.Value]int{}
		for _, a := range all {
			for _, b := range all {
				n, e := bits.Compare(a, b)
				if e != api.OK || n < -1 || n > 1 {
					t.Fatalf("Compare(%+v, %+v) = %d, %d", a, b, n, e)
				}
				order[[2]api.Value{a, b}] = n
			}
		}
		for _, a := range all {
			for _, b := range all {
				if order[[2]api.Value{a, b}] != -order[[2]api.Value{b, a}] {
					t.Errorf("%+v and %+v", a, b)
				}
				for _, c := range all {
					ab, bc, ac := order[[2]api.Value{a, b}], order[[2]api.Value{b, c}], order[[2]api.Value{a, c}]
					if ab <= 0 && bc <= 0 && ac > 0 || ab == 0 && bc == 0 && ac != 0 {
						t.Errorf("%+v, %+v, %+v: %d, %d, %d", a, b, c, ab, bc, ac)
					}
				}
			}
		}
	}
}

// P5.5: strings that fillers make one are equal, and others are not.
func TestOrderOfFilled(t *testing.T) {
	eachKind(7, 2000, func(r *rand.Rand, kind int) {
		a, b := some(r, kind, 250), some(r, kind, 250)
		x, _, _ := bits.Fit(a, api.Type{Kind: kind, N: api.MaxLen})
		y, _, _ := bits.Fit(b, api.Type{Kind: kind, N: api.MaxLen})
		checkAnswer(t, 0)(bits.Compare(a, x))
		checkAnswer(t, 0)(bits.Compare(x, a))
		if n, _ := bits.Compare(a, b); (n == 0) != (x == y) {
			t.Fatalf("Compare(%+v, %+v) = %d", a, b, n)
		}
	})
}

// P5.6: Reverse twice, of what is joined, and Fit twice.
func TestTurned(t *testing.T) {
	eachKind(8, 3000, func(r *rand.Rand, kind int) {
		reverse, join := must1(t, bits.Reverse), must2(t, bits.Join)
		a, b := some(r, kind, 125), some(r, kind, 125)
		if reverse(reverse(a)) != a {
			t.Fatalf("%+v", a)
		}
		if reverse(join(a, b)) != join(reverse(b), reverse(a)) {
			t.Fatalf("%+v and %+v", a, b)
		}
		of := api.Type{Kind: kind, N: r.Intn(251), Vary: r.Intn(2) == 0}
		if r.Intn(2) == 0 {
			of.N %= 8
		}
		once, _, e := bits.Fit(a, of)
		twice, cond, again := bits.Fit(once, of)
		if once != twice || cond != 0 || e != api.OK || again != api.OK {
			t.Fatalf("Fit(%+v, %+v) = %+v, %d, and then %+v, %d, %d", a, of, once, e, twice, cond, again)
		}
		if len(a.S) != of.N {
			return
		}
		if same, cond, _ := bits.Fit(a, of); same != a || cond != 0 {
			t.Fatalf("Fit(%+v, %+v) = %+v, %d", a, of, same, cond)
		}
	})
}
