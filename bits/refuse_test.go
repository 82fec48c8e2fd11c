package bits_test

import (
	"math"
	"math/rand"
	"strconv"
	"testing"

	"ironbark/api"
	"ironbark/bits"
)

// told is all that a call tells.
type told struct {
	v     api.Value
	n     int
	is    bool
	cond  int
	errno api.Errno
}

func tellsString(v api.Value, e api.Errno) told { return told{v: v, errno: e} }

func tellsPart(v api.Value, cond int, e api.Errno) told { return told{v: v, cond: cond, errno: e} }

func tellsNumber(n int, e api.Errno) told { return told{n: n, errno: e} }

func tellsTruth(is bool, e api.Errno) told { return told{is: is, errno: e} }

// call is a function with all its arguments but the strings, of which it takes so many; kind is the one that they have, if there is but one.
type call struct {
	name  string
	takes int
	kind  int
	do    func(s []api.Value) told
}

// calls are all functions of strings, with numbers and a table.
func calls(i, n int, table string) []call {
	return []call{
		{"Join", 2, 0, func(s []api.Value) told { return tellsString(bits.Join(s[0], s[1])) }},
		{"Sub", 1, 0, func(s []api.Value) told { return tellsPart(bits.Sub(s[0], i, n)) }},
		{"Rest", 1, 0, func(s []api.Value) told { return tellsPart(bits.Rest(s[0], i)) }},
		{"SetSub", 2, 0, func(s []api.Value) told { return tellsPart(bits.SetSub(s[0], i, n, s[1])) }},
		{"Index", 2, 0, func(s []api.Value) told { return tellsNumber(bits.Index(s[0], s[1])) }},
		{"Tally", 2, 0, func(s []api.Value) told { return tellsNumber(bits.Tally(s[0], s[1])) }},
		{"Verify", 2, 0, func(s []api.Value) told { return tellsNumber(bits.Verify(s[0], s[1])) }},
		{"Search", 2, 0, func(s []api.Value) told { return tellsNumber(bits.Search(s[0], s[1])) }},
		{"Translate", 3, 0, func(s []api.Value) told { return tellsString(bits.Translate(s[0], s[1], s[2])) }},
		{"Repeat", 1, 0, func(s []api.Value) told { return tellsString(bits.Repeat(s[0], n)) }},
		{"Copy", 1, 0, func(s []api.Value) told { return tellsString(bits.Copy(s[0], n)) }},
		{"Reverse", 1, 0, func(s []api.Value) told { return tellsString(bits.Reverse(s[0])) }},
		{"Trim", 1, api.TChar, func(s []api.Value) told { return tellsString(bits.Trim(s[0])) }},
		{"Bool", 2, api.TBit, func(s []api.Value) told { return tellsString(bits.Bool(s[0], s[1], table)) }},
		{"And", 2, api.TBit, func(s []api.Value) told { return tellsString(bits.And(s[0], s[1])) }},
		{"Or", 2, api.TBit, func(s []api.Value) told { return tellsString(bits.Or(s[0], s[1])) }},
		{"Xor", 2, api.TBit, func(s []api.Value) told { return tellsString(bits.Xor(s[0], s[1])) }},
		{"Not", 1, api.TBit, func(s []api.Value) told { return tellsString(bits.Not(s[0])) }},
		{"Compare", 2, 0, func(s []api.Value) told { return tellsNumber(bits.Compare(s[0], s[1])) }},
		{"Some", 1, api.TBit, func(s []api.Value) told { return tellsTruth(bits.Some(s[0])) }},
		{"Every", 1, api.TBit, func(s []api.Value) told { return tellsTruth(bits.Every(s[0])) }},
	}
}

// manyCalls are calls with arguments that are right, and with such as a later error is about.
func manyCalls() []call {
	l := calls(1, 1, "0110")
	l = append(l, calls(api.MaxCount+1, 1, "012")...)
	l = append(l, calls(1, api.MaxCount+1, "")...)
	return append(l, calls(0, math.MinInt, "01101")...)
}

func (c call) refuses(t *testing.T, want api.Errno, s ...api.Value) {
	t.Helper()
	if got := c.do(s); got != (told{errno: want}) {
		t.Errorf("%s of %+v tells %+v; want %d", c.name, s, got, want)
	}
}

// mixed are all rows of so many of some values.
func mixed(values []api.Value, many int) [][]api.Value {
	rows := [][]api.Value{{}}
	for range many {
		var next [][]api.Value
		for _, row := range rows {
			for _, v := range values {
				next = append(next, append(append([]api.Value{}, row...), v))
			}
		}
		rows = next
	}
	return rows
}

func TestInvalid(t *testing.T) {
	right := []api.Value{text("a"), digits("1"), text(long("x", api.MaxLen)), {Kind: -5}}
	for _, c := range manyCalls() {
		for _, wrong := range wrongValues() {
			for place := range c.takes {
				for _, row := range mixed(right, c.takes) {
					row[place] = wrong
					c.refuses(t, api.ErrInvalid, row...)
				}
			}
		}
	}
}

func TestKinds(t *testing.T) {
	right := []api.Value{text("1"), text(""), text(long("x", api.MaxLen)), digits("1"), digits(""), digits(long("1", api.MaxLen))}
	for _, c := range manyCalls() {
		for _, row := range mixed(right, c.takes) {
			kind, other := c.kind, false
			if kind == 0 {
				kind = row[0].Kind
			}
			for _, v := range row {
				other = other || v.Kind != kind
			}
			if other {
				c.refuses(t, api.ErrKind, row...)
			}
		}
	}
}

func TestFitErrors(t *testing.T) {
	refuses := func(v api.Value, of api.Type, want api.Errno) {
		t.Helper()
		if got := tellsPart(bits.Fit(v, of)); got != (told{errno: want}) {
			t.Errorf("Fit(%+v, %+v) tells %+v; want %d", v, of, got, want)
		}
	}
	for _, v := range wrongValues() {
		for _, of := range append(wrongTypes(), tchar(1), tbit(1), vary(tchar(9))) {
			refuses(v, of, api.ErrInvalid)
		}
	}
	for _, of := range wrongTypes() {
		for _, v := range []api.Value{text("1"), text(""), digits("1"), digits("")} {
			refuses(v, of, api.ErrInvalid)
		}
	}
	for _, n := range []int{0, 1, 2, 250} {
		refuses(text("1"), tbit(n), api.ErrKind)
		refuses(text(""), vary(tbit(n)), api.ErrKind)
		refuses(digits("1"), tchar(n), api.ErrKind)
		refuses(digits(""), vary(tchar(n)), api.ErrKind)
	}
}

// Numbers may be as far from 0 as MaxCount, and no further; strings do not matter.
func TestCountErrors(t *testing.T) {
	strings := []api.Value{text(""), text("abc"), digits(""), digits("10"), text(long("x", api.MaxLen))}
	for _, far := range []int{api.MaxCount + 1, -api.MaxCount - 1, math.MaxInt, math.MinInt, math.MaxInt32, math.MinInt32} {
		for _, s := range strings {
			for _, near := range []int{far, api.MaxCount, -api.MaxCount, 0, 1} {
				for _, c := range calls(far, near, "") {
					switch c.name {
					case "Sub", "Rest":
						c.refuses(t, api.ErrRange, s)
					case "SetSub":
						c.refuses(t, api.ErrRange, s, s)
					}
				}
				for _, c := range calls(near, far, "") {
					switch c.name {
					case "Sub", "Repeat", "Copy":
						c.refuses(t, api.ErrRange, s)
					case "SetSub":
						c.refuses(t, api.ErrRange, s, s)
					}
				}
			}
		}
	}
	for _, n := range []int{-1, -2, -250, -api.MaxCount} {
		for _, s := range strings {
			if got := tellsString(bits.Copy(s, n)); got != (told{errno: api.ErrRange}) {
				t.Errorf("Copy(%+v, %d) tells %+v", s, n, got)
			}
		}
	}
}

func TestLengthErrors(t *testing.T) {
	for _, n := range []int{-1, -2, 251, 252, 1000, api.MaxCount, -api.MaxCount, api.MaxCount + 1, math.MaxInt, math.MinInt} {
		if got := tellsString(bits.Low(n)); got != (told{errno: api.ErrRange}) {
			t.Errorf("Low(%d) tells %+v", n, got)
		}
		if got := tellsString(bits.High(n)); got != (told{errno: api.ErrRange}) {
			t.Errorf("High(%d) tells %+v", n, got)
		}
	}
}

func TestTableErrors(t *testing.T) {
	for _, table := range []string{"", "0", "01", "011", "01101", "0110 ", " 0110", "011 ", "0112", "2110", "011/", "a110", "01 1", "０１１０", "\x00\x00\x00\x00", "\x00\x01\x01\x00", "011\xff", "01100110", long("0", 256)} {
		for _, s := range []string{"", "1", "0101"} {
			if got := tellsString(bits.Bool(digits(s), digits("0"), table)); got != (told{errno: api.ErrRange}) {
				t.Errorf("Bool by %q tells %+v", table, got)
			}
		}
	}
}

func TestLong(t *testing.T) {
	refuses := func(v api.Value, e api.Errno) {
		t.Helper()
		if v != (api.Value{}) || e != api.ErrLong {
			t.Errorf("%+v, %d; want %d", v, e, api.ErrLong)
		}
	}
	for _, of := range []func(s string) api.Value{text, digits} {
		whole := of(long("1", api.MaxLen))
		refuses(bits.Join(whole, of("0")))
		refuses(bits.Join(of("0"), whole))
		refuses(bits.Join(whole, whole))
		refuses(bits.Join(of(long("0", 125)), of(long("1", 126))))
		refuses(bits.Repeat(whole, 1))
		refuses(bits.Repeat(of("0"), 250))
		refuses(bits.Repeat(of("01"), 125))
		refuses(bits.Repeat(of("011"), 83))
		refuses(bits.Copy(whole, 2))
		refuses(bits.Copy(of("0"), 251))
		refuses(bits.Copy(of("01"), 126))
		refuses(bits.Copy(of("011"), 84))
		// before anything is built
		for _, s := range []api.Value{of("0"), of("01"), of("0101"), whole} {
			refuses(bits.Repeat(s, api.MaxCount))
			refuses(bits.Repeat(s, api.MaxCount-1))
			refuses(bits.Copy(s, api.MaxCount))
		}
	}
}

// P5.1: whatever the arguments, a call ends and does not panic; what is told is a string again, or zero beside an error.
func TestAnyArguments(t *testing.T) {
	r := rand.New(rand.NewSource(1))
	numbers := []int{0, 1, 2, 3, -1, -2, 250, 251, 252, api.MaxCount, -api.MaxCount, api.MaxCount + 1, -api.MaxCount - 1, math.MaxInt, math.MinInt, math.MaxInt32, math.MinInt32}
	values := append(wrongValues(), small(text, " a", 3)...)
	values = append(values, small(digits, "01", 3)...)
	values = append(values, text(long("ab ", api.MaxLen)), digits(long("011", api.MaxLen)))
	of := append(wrongTypes(), tchar(0), tchar(2), vary(tchar(2)), tbit(0), tbit(2), vary(tbit(2)), tchar(250), tbit(250))
	sane := func(name string, got told) {
		if got.errno != api.OK && got != (told{errno: got.errno}) || got.v != (api.Value{}) && !bits.Valid(got.v) {
			t.Errorf("%s tells %+v", name, got)
		}
	}
	for range 3000 {
		number := func() int { return numbers[r.Intn(len(numbers))] }
		value := func() api.Value { return values[r.Intn(len(values))] }
		for _, c := range calls(number(), number(), strconv.Itoa(number())) {
			sane(c.name, c.do([]api.Value{value(), value(), value()}))
		}
		sane("Fit", tellsPart(bits.Fit(value(), of[r.Intn(len(of))])))
		sane("Low", tellsString(bits.Low(number())))
		sane("High", tellsString(bits.High(number())))
	}
}
