package picture_test

import (
	"math"
	"testing"

	"ironbark/api"
	"ironbark/picture"
)

// wrongValues are no valid numbers, each in another way.
func wrongValues() []api.Value {
	return []api.Value{
		{}, {Kind: -1}, {Kind: 10}, {Kind: math.MinInt}, {Kind: math.MaxInt}, {N: 1},
		vbin(1<<31, 0), vbin(-1<<31, 0), vbin(1, -1), vbin(1, 32), {Kind: api.TBin, S: "1"},
		vdec(1_000_000_000_000_000, 0), vdec(-1_000_000_000_000_000, 0), vdec(1, -1), vdec(1, 32), vdec(math.MinInt, 0), vdec(math.MaxInt, 0), {Kind: api.TDec, S: " "},
		vfloat(10, 0), vfloat(0, 1), vfloat(1, 76), vfloat(1, -76), vfloat(1_000_000_000_000_001, 0), vfloat(1, math.MaxInt), vfloat(1, math.MinInt), {Kind: api.TFloat, N: 1, S: "1"},
		// Of other kinds, valid or not.
		{Kind: api.TChar}, {Kind: api.TChar, S: "12"}, {Kind: api.TChar, N: 1}, {Kind: api.TBit, S: "1"}, {Kind: api.TBit, S: "2"}, {Kind: api.TPic, S: "12"}, {Kind: api.TPtr}, {Kind: api.TPtr, N: -1}, {Kind: api.TLabel, N: 1}, {Kind: api.TEntry},
	}
}

// refused is what a call with a picture is to tell.
type refused struct {
	name string
	e    api.Errno
}

func checkEditRefused(t *testing.T, p picture.Picture, v api.Value, want refused) {
	t.Helper()
	if text, cond, e := p.Edit(v); text != "" || cond != 0 || e != want.e {
		t.Errorf("Edit, %s, %+v: %q, %d, %d", want.name, v, text, cond, e)
	}
}

func checkReadRefused(t *testing.T, p picture.Picture, text string, want refused) {
	t.Helper()
	if v, cond, at, e := p.Read(text); v != (api.Value{}) || cond != 0 || at != 0 || e != want.e {
		t.Errorf("Read, %s, %q: %+v, %d, %d, %d", want.name, text, v, cond, at, e)
	}
}

func checkPutRefused(t *testing.T, p picture.Picture, text string, want refused) {
	t.Helper()
	if out, cond, at, e := p.Put(text); out != "" || cond != 0 || at != 0 || e != want.e {
		t.Errorf("Put, %s, %q: %q, %d, %d, %d", want.name, text, out, cond, at, e)
	}
}

func checkCheckRefused(t *testing.T, p picture.Picture, text string, want refused) {
	t.Helper()
	if cond, at, e := p.Check(text); cond != 0 || at != 0 || e != want.e {
		t.Errorf("Check, %s, %q: %d, %d, %d", want.name, text, cond, at, e)
	}
}

// ErrInvalid comes ahead of ErrKind.
func TestEditRefuses(t *testing.T) {
	number, characters := made(t, "S(15)9"), made(t, "AX")
	for _, v := range wrongValues() {
		for _, p := range []picture.Picture{number, characters, {}} {
			checkEditRefused(t, p, v, refused{p.Text(), api.ErrInvalid})
		}
	}
	for _, v := range []api.Value{vbin(1, 0), vdec(0, 31), vfloat(-1, -75), vbin(1<<31-1, 31), vdec(-999_999_999_999_999, 0), vfloat(1, 75)} {
		checkEditRefused(t, picture.Picture{}, v, refused{"no picture", api.ErrInvalid})
		checkEditRefused(t, characters, v, refused{"AX", api.ErrKind})
		if text, _, e := number.Edit(v); len(text) != 16 || e != api.OK {
			t.Errorf("%+v: %q, %d", v, text, e)
		}
	}
}

// ErrInvalid comes ahead of ErrLong, that ahead of ErrKind.
func TestTextsRefused(t *testing.T) {
	number, characters := made(t, "99"), made(t, "X9")
	for _, text := range []string{many("1", 201), many("\x00", 201), many(" ", 100000)} {
		none, long := refused{"no picture", api.ErrInvalid}, refused{"a long text", api.ErrLong}
		for _, p := range []picture.Picture{number, characters} {
			checkReadRefused(t, p, text, long)
			checkPutRefused(t, p, text, long)
			checkCheckRefused(t, p, text, long)
		}
		checkReadRefused(t, picture.Picture{}, text, none)
		checkPutRefused(t, picture.Picture{}, text, none)
		checkCheckRefused(t, picture.Picture{}, text, none)
	}
	for _, text := range []string{"", "12", "x", "\xff", many("1", 200), many("\x00", 200)} {
		none, kind := refused{"no picture", api.ErrInvalid}, refused{"another kind", api.ErrKind}
		checkReadRefused(t, characters, text, kind)
		checkPutRefused(t, number, text, kind)
		checkReadRefused(t, picture.Picture{}, text, none)
		checkPutRefused(t, picture.Picture{}, text, none)
		checkCheckRefused(t, picture.Picture{}, text, none)
	}
}

// Texts that are just not too long are wrong, but not refused.
func TestTextsJustNotRefused(t *testing.T) {
	text := many("1", 200)
	checkReads(t, []read{{"99", text, api.Value{}, 3}, {"Z9", many("\x00", 200), api.Value{}, 1}})
	checkPut(t, made(t, "X9"), put{"X9", text, "11", 0})
	if cond, at, e := made(t, "X9").Check(text); cond != api.CConversion || at != 3 || e != api.OK {
		t.Errorf("%d, %d, %d", cond, at, e)
	}
}
