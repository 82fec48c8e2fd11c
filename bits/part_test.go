package bits_test

import (
	"testing"

	"ironbark/api"
	"ironbark/bits"
)

const far = api.MaxCount

type cutOut struct {
	s    api.Value
	i, n int
	want string
	cond int
}

func checkSub(t *testing.T, l []cutOut) {
	t.Helper()
	for _, x := range l {
		want := api.Value{Kind: x.s.Kind, S: x.want}
		if v, cond, e := bits.Sub(x.s, x.i, x.n); v != want || cond != x.cond || e != api.OK {
			t.Errorf("Sub(%+v, %d, %d) = %+v, %d, %d; want %q, %d", x.s, x.i, x.n, v, cond, e, x.want, x.cond)
		}
	}
}

func TestSub(t *testing.T) {
	const not = api.CStringRange
	abc, whole := text("abc"), long("abcdefg", api.MaxLen)
	checkSub(t, []cutOut{
		{text("abcdef"), 3, 2, "cd", 0},
		{abc, 1, 3, "abc", 0},
		{abc, 1, 0, "", 0},
		{abc, 3, 1, "c", 0},
		{digits("0110"), 2, 2, "11", 0},
		{digits("0110"), 4, 1, "0", 0},
		// n = 0 is right up to the place behind the last one.
		{abc, 3, 0, "", 0},
		{abc, 4, 0, "", 0},
		{abc, 5, 0, "", not},
		{abc, 0, 0, "", not},
		{abc, -1, 0, "", not},
		{text(""), 1, 0, "", 0},
		{text(""), 2, 0, "", not},
		{text(""), 0, 0, "", not},
		{text(""), 1, 1, "", not},
		{digits(""), 1, 0, "", 0},
		// too long behind
		{abc, 2, 5, "bc", not},
		{abc, 1, 4, "abc", not},
		{abc, 3, 2, "c", not},
		{abc, 4, 1, "", not},
		{abc, 5, 3, "", not},
		// too early
		{abc, -1, 3, "a", not},
		{abc, 0, 1, "", not},
		{abc, 0, 2, "a", not},
		{abc, 0, 4, "abc", not},
		{abc, 0, 9, "abc", not},
		{abc, -5, 3, "", not},
		{digits("0110"), -1, 4, "01", not},
		// n below 0
		{abc, 1, -1, "", not},
		{abc, 2, -1, "", not},
		{abc, 4, -1, "", not},
		{abc, 5, -1, "", not},
		{abc, 3, -2, "", not},
		{abc, 0, -1, "", not},
		// numbers far beyond a string
		{abc, far, 0, "", not},
		{abc, far, far, "", not},
		{abc, far, -far, "", not},
		{abc, -far, far, "", not},
		{abc, -far, -far, "", not},
		{abc, -far + 1, far, "", not},
		{abc, -far + 2, far, "a", not},
		{abc, -far + 4, far, "abc", not},
		{abc, 1, far, "abc", not},
		{abc, 3, far, "c", not},
		{abc, 4, far, "", not},
		{abc, 1, -far, "", not},
		{abc, 4, -far, "", not},
		{digits("10"), -far, far, "", not},
		{text(whole), 1, api.MaxLen, whole, 0},
		{text(whole), api.MaxLen, 1, whole[api.MaxLen-1:], 0},
		{text(whole), api.MaxLen + 1, 0, "", 0},
		{text(whole), api.MaxLen, 2, whole[api.MaxLen-1:], not},
	})
}

func TestRest(t *testing.T) {
	const not = api.CStringRange
	abc, whole := text("abc"), long("abcdefg", api.MaxLen)
	for _, x := range []struct {
		s    api.Value
		i    int
		want string
		cond int
	}{
		{abc, 1, "abc", 0},
		{abc, 2, "bc", 0},
		{abc, 3, "c", 0},
		{abc, 4, "", 0},
		{abc, 5, "", not},
		{abc, 6, "", not},
		{abc, 0, "abc", not},
		{abc, -1, "abc", not},
		{abc, -100, "abc", not},
		{abc, far, "", not},
		{abc, -far, "abc", not},
		{text(""), 1, "", 0},
		{text(""), 2, "", not},
		{text(""), 0, "", not},
		{digits("0110"), 3, "10", 0},
		{digits("0110"), 5, "", 0},
		{digits("0110"), 6, "", not},
		{digits("0110"), -far, "0110", not},
		{digits(""), 1, "", 0},
		{text(whole), 250, whole[249:], 0},
		{text(whole), 251, "", 0},
		{text(whole), 252, "", not},
		{text(whole), 0, whole, not},
	} {
		want := api.Value{Kind: x.s.Kind, S: x.want}
		if v, cond, e := bits.Rest(x.s, x.i); v != want || cond != x.cond || e != api.OK {
			t.Errorf("Rest(%+v, %d) = %+v, %d, %d; want %q, %d", x.s, x.i, v, cond, e, x.want, x.cond)
		}
	}
}

func TestSetSub(t *testing.T) {
	const not = api.CStringRange
	six, whole := text("abcdef"), long("abcdefg", api.MaxLen)
	for _, x := range []struct {
		s    api.Value
		i, n int
		v    api.Value
		want string
		cond int
	}{
		{six, 2, 3, text("XYZ"), "aXYZef", 0},
		// v is filled up or cut behind, which is no condition
		{six, 2, 3, text("XY"), "aXY ef", 0},
		{six, 2, 3, text(""), "a   ef", 0},
		{six, 2, 3, text("VWXYZ"), "aVWXef", 0},
		{six, 1, 6, text("X"), "X     ", 0},
		{six, 6, 1, text("XY"), "abcdeX", 0},
		{six, 1, 1, text("XY"), "Xbcdef", 0},
		{digits("1111"), 2, 2, digits("0"), "1001", 0},
		{digits("0000"), 2, 2, digits("101"), "0100", 0},
		// no places
		{six, 3, 0, text("XY"), "abcdef", 0},
		{six, 7, 0, text("XY"), "abcdef", 0},
		{six, 8, 0, text("XY"), "abcdef", not},
		{six, 0, 0, text("XY"), "abcdef", not},
		{text(""), 1, 0, text("XY"), "", 0},
		{text(""), 1, 1, text("XY"), "", not},
		{six, 3, -1, text("XY"), "abcdef", not},
		{six, 1, -far, text("XY"), "abcdef", not},
		// Of a part that is not right each place gets what it would have got.
		{six, 5, 4, text("WXYZ"), "abcdWX", not},
		{six, 5, 4, text("W"), "abcdW ", not},
		{six, 0, 3, text("XYZ"), "YZcdef", not},
		{six, 0, 3, text("X"), "  cdef", not},
		{six, -1, 3, text("XYZ"), "Zbcdef", not},
		{six, -1, 3, text("XY"), " bcdef", not},
		{six, -2, 3, text("XYZ"), "abcdef", not},
		{six, -1, 10, text("0123456789"), "234567", not},
		{six, -1, 10, text("012345"), "2345  ", not},
		{digits("1111"), 0, 3, digits("01"), "1011", not},
		{six, 7, 1, text("X"), "abcdef", not},
		{six, 9, 3, text("XYZ"), "abcdef", not},
		// numbers far beyond a string
		{six, 1, far, text("XY"), "XY    ", not},
		{six, 5, far, text("XYZ"), "abcdXY", not},
		{six, far, far, text("XY"), "abcdef", not},
		{six, far, -far, text("XY"), "abcdef", not},
		{six, -far, far, text("XY"), "abcdef", not},
		{six, -far + 2, far, text("XY"), " bcdef", not},
		{six, -far + 9, far, text("XY"), "      ", not},
		{six, -far, -far, text("XY"), "abcdef", not},
		{digits("1111"), -far + 3, far, digits("11"), "0011", not},
		{text(whole), 250, 1, text("X"), whole[:249] + "X", 0},
		{text(whole), 1, 250, text(long("xyz", 250)), long("xyz", 250), 0},
		{text("ab"), 1, 2, text(whole), "ab", 0},
	} {
		want := api.Value{Kind: x.s.Kind, S: x.want}
		if v, cond, e := bits.SetSub(x.s, x.i, x.n, x.v); v != want || cond != x.cond || e != api.OK {
			t.Errorf("SetSub(%+v, %d, %d, %+v) = %+v, %d, %d; want %q, %d", x.s, x.i, x.n, x.v, v, cond, e, x.want, x.cond)
		}
	}
}

// isRight is what a part is that is right, place by place: each of its places is one of the string's, and it begins behind one of them, or at the first.
func isRight(length, i, n int) bool {
	if i < 1 || i > length+1 || n < 0 {
		return false
	}
	for place := i; place < i+n; place++ {
		if place > length {
			return false
		}
	}
	return true
}

// Of short strings all parts, also those that begin ahead of them and behind them.
func TestPartsPlaceByPlace(t *testing.T) {
	for _, s := range append(small(text, " ab", 3), small(digits, "01", 5)...) {
		l := len(s.S)
		for i := -4; i <= l+4; i++ {
			for n := -3; n <= l+6; n++ {
				cond := 0
				if !isRight(l, i, n) {
					cond = api.CStringRange
				}
				checkSub(t, []cutOut{{s, i, n, placed(s, i, n), cond}})
				checkSetSub(t, s, i, n, cond)
			}
			v, cond, e := bits.Rest(s, i)
			if w, c, _ := bits.Sub(s, i, l-i+1); v != w || cond != c || e != api.OK {
				t.Errorf("Rest(%+v, %d) = %+v, %d, %d; want %+v, %d", s, i, v, cond, e, w, c)
			}
		}
	}
}

// placed is what stands at the places of a part that a string has.
func placed(s api.Value, i, n int) string {
	found := ""
	for place := i; place < i+n; place++ {
		if place >= 1 && place <= len(s.S) {
			found += s.S[place-1 : place]
		}
	}
	return found
}

// checkSetSub sets a part by strings that are shorter, longer and as long.
func checkSetSub(t *testing.T, s api.Value, i, n, cond int) {
	t.Helper()
	sources, filler := []string{"", "x", "yz", "uvwxyz"}, " "
	if s.Kind == api.TBit {
		sources, filler = []string{"", "1", "01", "110100"}, "0"
	}
	for _, source := range sources {
		want := []byte(s.S)
		for k := range max(n, 0) {
			item := filler
			if k < len(source) {
				item = source[k : k+1]
			}
			if place := i + k; place >= 1 && place <= len(s.S) {
				want[place-1] = item[0]
			}
		}
		v, c, e := bits.SetSub(s, i, n, api.Value{Kind: s.Kind, S: source})
		if v != (api.Value{Kind: s.Kind, S: string(want)}) || c != cond || e != api.OK {
			t.Errorf("SetSub(%+v, %d, %d, %q) = %+v, %d, %d; want %q, %d", s, i, n, source, v, c, e, want, cond)
		}
	}
}

// small are all strings of a kind that are at most so long and have some items.
func small(of func(s string) api.Value, items string, most int) []api.Value {
	last := []string{""}
	l := []api.Value{of("")}
	for range most {
		var next []string
		for _, s := range last {
			for _, item := range items {
				next = append(next, s+string(item))
			}
		}
		for _, s := range next {
			l = append(l, of(s))
		}
		last = next
	}
	return l
}
