package wide

import (
	"math"
	"math/big"
	"math/rand"
	"testing"

	"tombola/api"
)

const (
	top  = math.MaxUint64
	half = 1 << 32
)

// edges are the numbers around which halves and words carry, borrow and wrap round.
var edges = []uint64{
	0, 1, 2, 3, 10, half - 1, half, half + 1,
	1<<63 - 1, 1 << 63, 1<<63 + 1, top - half, top - 1, top,
}

// numbers are the edges, and numbers of every length in bits.
func numbers() []uint64 {
	source := rand.New(rand.NewSource(1))
	out := append([]uint64{}, edges...)
	for shift := 0; shift < 64; shift++ {
		out = append(out, source.Uint64()>>shift)
	}
	return out
}

// wides are all pairs of edges, and wide numbers of many lengths.
func wides() []api.Wide {
	source := rand.New(rand.NewSource(2))
	var out []api.Wide
	for _, hi := range edges {
		for _, lo := range edges {
			out = append(out, api.Wide{Hi: hi, Lo: lo})
		}
	}
	for shift := 0; shift < 64; shift++ {
		out = append(out, api.Wide{Hi: source.Uint64() >> shift, Lo: source.Uint64()})
	}
	return out
}

func long(a uint64) *big.Int {
	return new(big.Int).SetUint64(a)
}

func longWide(a api.Wide) *big.Int {
	out := new(big.Int).Lsh(long(a.Hi), 64)
	return out.Add(out, long(a.Lo))
}

// fitting is what a call has to answer for an exact number: it and true, or 0 and false if it is not from 0 to 2^64 - 1.
func fitting(exact *big.Int) (uint64, bool) {
	if !exact.IsUint64() {
		return 0, false
	}
	return exact.Uint64(), true
}

// fittingWide is the same for wide numbers, which go to 2^128 - 1.
func fittingWide(exact *big.Int) (api.Wide, bool) {
	if exact.Sign() < 0 || exact.BitLen() > 128 {
		return api.Wide{}, false
	}
	high := new(big.Int).Rsh(exact, 64).Uint64()
	low := new(big.Int).And(exact, long(top)).Uint64()
	return api.Wide{Hi: high, Lo: low}, true
}

// P1.1, at numbers that are written out.
func TestNumbersWrittenOut(t *testing.T) {
	calls := map[string]func(a, b uint64) (uint64, bool){"Add": Add, "Sub": Sub, "Mul": Mul}
	rows := []struct {
		name string
		a, b uint64
		want uint64
		fits bool
	}{
		{"Add", 0, 0, 0, true},
		{"Add", 2, 3, 5, true},
		{"Add", top - 1, 1, top, true},
		{"Add", top, 0, top, true},
		{"Add", 0, top, top, true},
		{"Add", top, 1, 0, false},
		{"Add", 1, top, 0, false},
		{"Add", top, top, 0, false},
		{"Add", 1 << 63, 1 << 63, 0, false},
		{"Sub", 0, 0, 0, true},
		{"Sub", 5, 3, 2, true},
		{"Sub", top, top, 0, true},
		{"Sub", top, 0, top, true},
		{"Sub", 3, 5, 0, false},
		{"Sub", 0, 1, 0, false},
		{"Sub", 0, top, 0, false},
		{"Mul", 0, 0, 0, true},
		{"Mul", 6, 7, 42, true},
		{"Mul", 0, top, 0, true},
		{"Mul", top, 1, top, true},
		{"Mul", half, half - 1, top - half + 1, true},
		{"Mul", half - 1, half + 1, top, true},
		{"Mul", 3, 6148914691236517205, top, true},
		{"Mul", half, half, 0, false},
		{"Mul", 2, 1 << 63, 0, false},
		{"Mul", top, 2, 0, false},
		{"Mul", top, top, 0, false},
	}
	for _, row := range rows {
		got, ok := calls[row.name](row.a, row.b)
		if got != row.want || ok != row.fits {
			t.Errorf("%s(%d, %d) = %d, %v, not %d, %v", row.name, row.a, row.b, got, ok, row.want, row.fits)
		}
	}
}

// P1.1, at products that are written out.
func TestFullWrittenOut(t *testing.T) {
	rows := []struct {
		a, b uint64
		want api.Wide
	}{
		{0, 0, api.Wide{}},
		{0, top, api.Wide{}},
		{6, 7, api.Wide{Lo: 42}},
		{half, half, api.Wide{Hi: 1}},
		{half - 1, half + 1, api.Wide{Lo: top}},
		{half + 1, half + 1, api.Wide{Hi: 1, Lo: 2*half + 1}},
		{1 << 63, 2, api.Wide{Hi: 1}},
		{1 << 63, 1 << 63, api.Wide{Hi: 1 << 62}},
		{top, 2, api.Wide{Hi: 1, Lo: top - 1}},
		{top, top, api.Wide{Hi: top - 1, Lo: 1}},
	}
	for _, row := range rows {
		if got := Full(row.a, row.b); got != row.want {
			t.Errorf("Full(%d, %d) = %v, not %v", row.a, row.b, got, row.want)
		}
		if got := Full(row.b, row.a); got != row.want {
			t.Errorf("Full(%d, %d) = %v, not %v", row.b, row.a, got, row.want)
		}
	}
}

// P1.1, held against exact numbers.
func TestNumbersExact(t *testing.T) {
	check := func(name string, a, b, got uint64, ok bool, exact *big.Int) {
		if want, fits := fitting(exact); got != want || ok != fits {
			t.Fatalf("%s(%d, %d) = %d, %v, not %d, %v", name, a, b, got, ok, want, fits)
		}
	}
	all := numbers()
	for _, a := range all {
		for _, b := range all {
			x, y := long(a), long(b)
			product := new(big.Int).Mul(x, y)
			got, ok := Add(a, b)
			check("Add", a, b, got, ok, new(big.Int).Add(x, y))
			got, ok = Sub(a, b)
			check("Sub", a, b, got, ok, new(big.Int).Sub(x, y))
			got, ok = Mul(a, b)
			check("Mul", a, b, got, ok, product)
			if full := Full(a, b); longWide(full).Cmp(product) != 0 {
				t.Fatalf("Full(%d, %d) = %v, not %v", a, b, full, product)
			}
		}
	}
}

// P1.2, at sums and differences that are written out.
func TestWidesWrittenOut(t *testing.T) {
	calls := map[string]func(a, b api.Wide) (api.Wide, bool){"Sum": Sum, "Less": Less}
	most := api.Wide{Hi: top, Lo: top}
	rows := []struct {
		name string
		a, b api.Wide
		want api.Wide
		fits bool
	}{
		{"Sum", api.Wide{}, api.Wide{}, api.Wide{}, true},
		{"Sum", api.Wide{Hi: 1, Lo: 2}, api.Wide{Hi: 3, Lo: 4}, api.Wide{Hi: 4, Lo: 6}, true},
		{"Sum", api.Wide{Lo: top}, api.Wide{Lo: 1}, api.Wide{Hi: 1}, true},
		{"Sum", api.Wide{Hi: top - 1, Lo: top}, api.Wide{Lo: 1}, api.Wide{Hi: top}, true},
		{"Sum", most, api.Wide{}, most, true},
		{"Sum", most, api.Wide{Lo: 1}, api.Wide{}, false},
		{"Sum", api.Wide{Lo: 1}, most, api.Wide{}, false},
		{"Sum", most, most, api.Wide{}, false},
		{"Sum", api.Wide{Hi: 1 << 63}, api.Wide{Hi: 1 << 63, Lo: 5}, api.Wide{}, false},
		{"Sum", api.Wide{Hi: top}, api.Wide{Hi: 1, Lo: 5}, api.Wide{}, false},
		{"Less", api.Wide{}, api.Wide{}, api.Wide{}, true},
		{"Less", api.Wide{Hi: 4, Lo: 6}, api.Wide{Hi: 3, Lo: 4}, api.Wide{Hi: 1, Lo: 2}, true},
		{"Less", api.Wide{Hi: 1}, api.Wide{Lo: 1}, api.Wide{Lo: top}, true},
		{"Less", most, most, api.Wide{}, true},
		{"Less", most, api.Wide{}, most, true},
		{"Less", api.Wide{}, api.Wide{Lo: 1}, api.Wide{}, false},
		{"Less", api.Wide{Hi: 1}, api.Wide{Hi: 1, Lo: 1}, api.Wide{}, false},
		{"Less", api.Wide{Lo: top}, api.Wide{Hi: 1}, api.Wide{}, false},
		{"Less", api.Wide{}, most, api.Wide{}, false},
	}
	for _, row := range rows {
		got, ok := calls[row.name](row.a, row.b)
		if got != row.want || ok != row.fits {
			t.Errorf("%s(%v, %v) = %v, %v, not %v, %v", row.name, row.a, row.b, got, ok, row.want, row.fits)
		}
	}
}

// P1.2, at multiples that are written out.
func TestTimesWrittenOut(t *testing.T) {
	most := api.Wide{Hi: top, Lo: top}
	rows := []struct {
		a    api.Wide
		b    uint64
		want api.Wide
		fits bool
	}{
		{api.Wide{}, 0, api.Wide{}, true},
		{most, 0, api.Wide{}, true},
		{most, 1, most, true},
		{api.Wide{Hi: 2, Lo: 3}, 5, api.Wide{Hi: 10, Lo: 15}, true},
		{api.Wide{Lo: top}, top, api.Wide{Hi: top - 1, Lo: 1}, true},
		{api.Wide{Hi: 1, Lo: 1}, top, most, true},
		{api.Wide{Hi: 1<<63 - 1, Lo: top}, 2, api.Wide{Hi: top, Lo: top - 1}, true},
		{api.Wide{Hi: 1 << 63}, 2, api.Wide{}, false},
		{api.Wide{Hi: 1, Lo: 2}, top, api.Wide{}, false},
		{api.Wide{Hi: half}, half, api.Wide{}, false},
		{most, 2, api.Wide{}, false},
		{most, top, api.Wide{}, false},
	}
	for _, row := range rows {
		got, ok := Times(row.a, row.b)
		if got != row.want || ok != row.fits {
			t.Errorf("Times(%v, %d) = %v, %v, not %v, %v", row.a, row.b, got, ok, row.want, row.fits)
		}
	}
}

// P1.2, held against exact numbers.
func TestWidesExact(t *testing.T) {
	check := func(name string, a, b, got api.Wide, ok bool, exact *big.Int) {
		if want, fits := fittingWide(exact); got != want || ok != fits {
			t.Fatalf("%s(%v, %v) = %v, %v, not %v, %v", name, a, b, got, ok, want, fits)
		}
	}
	all := wides()
	for _, a := range all {
		x := longWide(a)
		for _, b := range all {
			y := longWide(b)
			got, ok := Sum(a, b)
			check("Sum", a, b, got, ok, new(big.Int).Add(x, y))
			got, ok = Less(a, b)
			check("Less", a, b, got, ok, new(big.Int).Sub(x, y))
		}
		for _, b := range numbers() {
			got, ok := Times(a, b)
			check("Times", a, api.Wide{Lo: b}, got, ok, new(big.Int).Mul(x, long(b)))
		}
	}
}

// P1.2: what fits is below 2^64.
func TestFits(t *testing.T) {
	for _, lo := range numbers() {
		if got, ok := Fits(api.Wide{Lo: lo}); got != lo || !ok {
			t.Errorf("Fits(0, %d) = %d, %v", lo, got, ok)
		}
		for _, hi := range edges[1:] {
			if got, ok := Fits(api.Wide{Hi: hi, Lo: lo}); got != 0 || ok {
				t.Errorf("Fits(%d, %d) = %d, %v, not 0, false", hi, lo, got, ok)
			}
		}
	}
}

// P1.3, at quotients that are written out.
func TestDivWrittenOut(t *testing.T) {
	most := api.Wide{Hi: top, Lo: top}
	rows := []struct {
		a        api.Wide
		d        uint64
		quotient api.Wide
		rest     uint64
	}{
		{api.Wide{}, 1, api.Wide{}, 0},
		{api.Wide{}, top, api.Wide{}, 0},
		{api.Wide{Lo: 17}, 5, api.Wide{Lo: 3}, 2},
		{api.Wide{Lo: 4}, 5, api.Wide{}, 4},
		{api.Wide{Lo: 5}, 5, api.Wide{Lo: 1}, 0},
		{api.Wide{Hi: 1}, 2, api.Wide{Lo: 1 << 63}, 0},
		{api.Wide{Hi: 1}, 3, api.Wide{Lo: 6148914691236517205}, 1},
		{api.Wide{Hi: 5, Lo: 7}, 5, api.Wide{Hi: 1, Lo: 1}, 2},
		{api.Wide{Hi: 1}, top, api.Wide{Lo: 1}, 1},
		{api.Wide{Hi: top - 1, Lo: top}, top, api.Wide{Lo: top}, top - 1},
		{api.Wide{Hi: top}, top, api.Wide{Hi: 1}, 0},
		{most, top, api.Wide{Hi: 1, Lo: 1}, 0},
		{most, 1, most, 0},
		{most, 1 << 63, api.Wide{Hi: 1, Lo: top}, 1<<63 - 1},
	}
	for _, row := range rows {
		quotient, rest, ok := Div(row.a, row.d)
		if quotient != row.quotient || rest != row.rest || !ok {
			t.Errorf("Div(%v, %d) = %v, %d, %v, not %v, %d", row.a, row.d, quotient, rest, ok, row.quotient, row.rest)
		}
	}
}

// P1.3: nothing is divided by 0.
func TestDivByZero(t *testing.T) {
	for _, a := range wides() {
		if quotient, rest, ok := Div(a, 0); quotient != (api.Wide{}) || rest != 0 || ok {
			t.Fatalf("Div(%v, 0) = %v, %d, %v", a, quotient, rest, ok)
		}
	}
}

// P1.3, held against exact numbers.
func TestDivExact(t *testing.T) {
	for _, a := range wides() {
		for _, d := range numbers() {
			if d == 0 {
				continue
			}
			exact, left := new(big.Int).DivMod(longWide(a), long(d), new(big.Int))
			quotient, rest, ok := Div(a, d)
			if !ok || longWide(quotient).Cmp(exact) != 0 || long(rest).Cmp(left) != 0 {
				t.Fatalf("Div(%v, %d) = %v, %d, %v, not %v, %v", a, d, quotient, rest, ok, exact, left)
			}
		}
	}
}

// P1.3: the high digit counts first.
func TestCmp(t *testing.T) {
	rows := []struct {
		a, b api.Wide
		want int
	}{
		{api.Wide{}, api.Wide{}, 0},
		{api.Wide{Lo: 1}, api.Wide{Lo: 2}, -1},
		{api.Wide{Lo: 2}, api.Wide{Lo: 1}, 1},
		{api.Wide{Hi: 1}, api.Wide{Lo: top}, 1},
		{api.Wide{Lo: top}, api.Wide{Hi: 1}, -1},
		{api.Wide{Hi: 1, Lo: 9}, api.Wide{Hi: 2, Lo: 3}, -1},
		{api.Wide{Hi: 2, Lo: 3}, api.Wide{Hi: 1, Lo: 9}, 1},
		{api.Wide{Hi: top, Lo: top}, api.Wide{Hi: top, Lo: top}, 0},
	}
	for _, row := range rows {
		if got := Cmp(row.a, row.b); got != row.want {
			t.Errorf("Cmp(%v, %v) = %d, not %d", row.a, row.b, got, row.want)
		}
	}
	for _, a := range wides() {
		for _, b := range wides() {
			if got, want := Cmp(a, b), longWide(a).Cmp(longWide(b)); got != want {
				t.Fatalf("Cmp(%v, %v) = %d, not %d", a, b, got, want)
			}
		}
	}
}

// P1.4: what was divided comes back, out of this package's own calls.
func TestDividedComesBack(t *testing.T) {
	for _, a := range wides() {
		for _, d := range numbers() {
			if d == 0 {
				continue
			}
			quotient, rest, _ := Div(a, d)
			if rest >= d {
				t.Fatalf("Div(%v, %d): the rest %d is not below the divisor", a, d, rest)
			}
			product, ok := Times(quotient, d)
			if !ok {
				t.Fatalf("Times(%v, %d) does not fit", quotient, d)
			}
			if back, ok := Sum(product, api.Wide{Lo: rest}); !ok || back != a {
				t.Fatalf("%v by %d is %v, rest %d: that comes back as %v", a, d, quotient, rest, back)
			}
		}
	}
}
