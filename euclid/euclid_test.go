package euclid

import (
	"math"
	"math/big"
	"math/rand"
	"slices"
	"testing"

	"tombola/wide"
)

const (
	top  = math.MaxUint64
	half = 1 << 32
	// prime is the greatest prime below 2^64, fibonacci and ahead two numbers of which the division goes on longest.
	prime     = 18446744073709551557
	fibonacci = 12200160415121876738
	ahead     = 7540113804746346429
)

// edges are the least and the greatest numbers, and such as have much, or nothing, in common.
var edges = []uint64{
	0, 1, 2, 3, 4, 6, 7, 12, 18, 30, 97, 1000,
	half - 1, half, half + 1, 6148914691236517205, ahead, fibonacci,
	1<<63 - 1, 1 << 63, 1<<63 + 1, prime, top - 1, top,
}

// numbers are the edges, and numbers of many lengths in bits.
func numbers() []uint64 {
	source := rand.New(rand.NewSource(3))
	out := slices.Clone(edges)
	for shift := 0; shift < 64; shift += 3 {
		out = append(out, source.Uint64()>>shift)
	}
	return out
}

func long(a uint64) *big.Int {
	return new(big.Int).SetUint64(a)
}

// exactGcd is what a list has in common, by long numbers.
func exactGcd(l []uint64) uint64 {
	out := new(big.Int)
	for _, n := range l {
		out.GCD(nil, nil, out, long(n))
	}
	return out.Uint64()
}

// exactLcm is the least number that all of a list divide, by long numbers of any length, and whether it fits.
func exactLcm(l []uint64) (uint64, bool) {
	out := big.NewInt(1)
	for _, n := range l {
		if n == 0 {
			return 0, true
		}
		common := new(big.Int).GCD(nil, nil, out, long(n))
		out.Mul(out, new(big.Int).Div(long(n), common))
	}
	if !out.IsUint64() {
		return 0, false
	}
	return out.Uint64(), true
}

// P2.1, at lists that are written out.
func TestGcdWrittenOut(t *testing.T) {
	rows := []struct {
		list []uint64
		want uint64
	}{
		{nil, 0},
		{[]uint64{}, 0},
		{[]uint64{0}, 0},
		{[]uint64{0, 0, 0}, 0},
		{[]uint64{1}, 1},
		{[]uint64{7}, 7},
		{[]uint64{top}, top},
		{[]uint64{0, 7}, 7},
		{[]uint64{7, 0}, 7},
		{[]uint64{0, 6, 0, 9, 0}, 3},
		{[]uint64{12, 18}, 6},
		{[]uint64{18, 12}, 6},
		{[]uint64{12, 18, 8}, 2},
		{[]uint64{6, 10, 15}, 1},
		{[]uint64{5, 5, 5}, 5},
		{[]uint64{1 << 63, half}, half},
		{[]uint64{top, 6148914691236517205}, 6148914691236517205},
		{[]uint64{top, top}, top},
		{[]uint64{top, top - 1}, 1},
		{[]uint64{fibonacci, ahead}, 1},
		{[]uint64{prime, top}, 1},
	}
	for _, row := range rows {
		if got := Gcd(row.list...); got != row.want {
			t.Errorf("Gcd(%v) = %d, not %d", row.list, got, row.want)
		}
	}
	if got := Gcd(); got != 0 {
		t.Errorf("Gcd() = %d, not 0", got)
	}
}

// P2.1, at lists that are written out: a 0 makes 0, wherever it stands, and nothing is too much then.
func TestLcmWrittenOut(t *testing.T) {
	rows := []struct {
		list []uint64
		want uint64
		fits bool
	}{
		{nil, 1, true},
		{[]uint64{}, 1, true},
		{[]uint64{0}, 0, true},
		{[]uint64{0, 0}, 0, true},
		{[]uint64{0, 7}, 0, true},
		{[]uint64{7, 0}, 0, true},
		{[]uint64{1}, 1, true},
		{[]uint64{7}, 7, true},
		{[]uint64{top}, top, true},
		{[]uint64{12, 18}, 36, true},
		{[]uint64{18, 12}, 36, true},
		{[]uint64{4, 6, 10}, 60, true},
		{[]uint64{5, 5, 5}, 5, true},
		{[]uint64{1, top}, top, true},
		{[]uint64{top, 3, 5, 17}, top, true},
		{[]uint64{half - 1, half + 1}, top, true},
		{[]uint64{1 << 63, half}, 1 << 63, true},
		{[]uint64{1 << 63, 3}, 0, false},
		{[]uint64{3, 1 << 63}, 0, false},
		{[]uint64{half, half - 1}, half * (half - 1), true},
		{[]uint64{half, half + 1}, 0, false},
		{[]uint64{top, 2}, 0, false},
		{[]uint64{top, top - 1}, 0, false},
		{[]uint64{top, top - 1, 1}, 0, false},
		{[]uint64{top, top - 1, 0}, 0, true},
		{[]uint64{0, top, top - 1}, 0, true},
		{[]uint64{top, 0, top - 1}, 0, true},
	}
	for _, row := range rows {
		if got, ok := Lcm(row.list...); got != row.want || ok != row.fits {
			t.Errorf("Lcm(%v) = %d, %v, not %d, %v", row.list, got, ok, row.want, row.fits)
		}
	}
	if got, ok := Lcm(); got != 1 || !ok {
		t.Errorf("Lcm() = %d, %v, not 1, true", got, ok)
	}
}

// P2.1, held against exact numbers, in lists of up to three.
func TestListsExact(t *testing.T) {
	check := func(l ...uint64) {
		if got, want := Gcd(l...), exactGcd(l); got != want {
			t.Fatalf("Gcd(%v) = %d, not %d", l, got, want)
		}
		want, fits := exactLcm(l)
		if got, ok := Lcm(l...); got != want || ok != fits {
			t.Fatalf("Lcm(%v) = %d, %v, not %d, %v", l, got, ok, want, fits)
		}
	}
	all := numbers()
	for _, a := range all {
		check(a)
		for _, b := range all {
			check(a, b)
			for _, c := range all {
				check(a, b, c)
			}
		}
	}
}

// P2.1: of small numbers, by going through all of them.
func TestListsByTrial(t *testing.T) {
	for a := uint64(1); a <= 30; a++ {
		for b := uint64(1); b <= 30; b++ {
			greatest, least := a, a
			for a%greatest != 0 || b%greatest != 0 {
				greatest--
			}
			for least%a != 0 || least%b != 0 {
				least++
			}
			if got := Gcd(a, b); got != greatest {
				t.Errorf("Gcd(%d, %d) = %d, not %d", a, b, got, greatest)
			}
			if got, ok := Lcm(a, b); got != least || !ok {
				t.Errorf("Lcm(%d, %d) = %d, %v, not %d", a, b, got, ok, least)
			}
		}
	}
}

// P2.1: any many numbers, and the list that is handed in stays as it is.
func TestLongLists(t *testing.T) {
	list := make([]uint64, 1<<16)
	for i := range list {
		list[i] = 6 << (i % 40)
	}
	before := slices.Clone(list)
	if got := Gcd(list...); got != 6 {
		t.Errorf("Gcd of many is %d, not 6", got)
	}
	if got, ok := Lcm(list...); got != 6<<39 || !ok {
		t.Errorf("Lcm of many is %d, %v, not %d", got, ok, uint64(6<<39))
	}
	if !slices.Equal(list, before) {
		t.Error("the list that was handed in was changed")
	}
}

// P2.1, at pairs that are written out.
func TestReduceWrittenOut(t *testing.T) {
	rows := []struct{ a, b, x, y uint64 }{
		{0, 0, 0, 0},
		{0, 1, 0, 1},
		{0, 7, 0, 1},
		{7, 0, 1, 0},
		{top, 0, 1, 0},
		{1, 1, 1, 1},
		{7, 7, 1, 1},
		{12, 18, 2, 3},
		{18, 12, 3, 2},
		{5, 7, 5, 7},
		{100, 10, 10, 1},
		{top, top, 1, 1},
		{top, top - 1, top, top - 1},
		{top, 3, 6148914691236517205, 1},
		{1 << 63, half, 1 << 31, 1},
	}
	for _, row := range rows {
		if x, y := Reduce(row.a, row.b); x != row.x || y != row.y {
			t.Errorf("Reduce(%d, %d) = %d, %d, not %d, %d", row.a, row.b, x, y, row.x, row.y)
		}
	}
}

// P2.1: what is reduced is to each other as it was, and has nothing in common any more.
func TestReduceKeepsTheShare(t *testing.T) {
	for _, a := range numbers() {
		for _, b := range numbers() {
			if a == 0 && b == 0 {
				continue
			}
			x, y := Reduce(a, b)
			if wide.Full(a, y) != wide.Full(b, x) || exactGcd([]uint64{x, y}) != 1 {
				t.Fatalf("Reduce(%d, %d) = %d, %d", a, b, x, y)
			}
		}
	}
}

// P2.2, at products that are written out.
func TestMulModWrittenOut(t *testing.T) {
	rows := []struct{ a, b, m, want uint64 }{
		{0, 0, 1, 0},
		{5, 7, 1, 0},
		{top, top, 1, 0},
		{0, 5, 7, 0},
		{3, 5, 7, 1},
		{3, 4, 13, 12},
		{10, 10, 10, 0},
		{half, half, top, 1},
		{half, half, 3, 1},
		{top, top, top, 0},
		{top, top, top - 1, 1},
		{top - 1, top - 1, top, 1},
		{1 << 63, 2, prime, 59},
		{top, 1, 1 << 63, 1<<63 - 1},
	}
	for _, row := range rows {
		if got, ok := MulMod(row.a, row.b, row.m); got != row.want || !ok {
			t.Errorf("MulMod(%d, %d, %d) = %d, %v, not %d", row.a, row.b, row.m, got, ok, row.want)
		}
	}
}

// P2.2, at powers that are written out; what is to the 0 is 1, and that is 0 modulo 1.
func TestPowModWrittenOut(t *testing.T) {
	rows := []struct{ a, n, m, want uint64 }{
		{0, 0, 1, 0},
		{5, 0, 1, 0},
		{5, 3, 1, 0},
		{0, 0, 2, 1},
		{0, 0, top, 1},
		{7, 0, 7, 1},
		{top, 0, top, 1},
		{0, 1, 5, 0},
		{0, top, 5, 0},
		{1, top, 5, 1},
		{2, 10, 1000, 24},
		{2, 10, 2000, 1024},
		{2, 64, top, 1},
		{2, 63, top, 1 << 63},
		{2, 64, prime, 59},
		{3, 4, 80, 1},
		{9, 1, 7, 2},
		{2, prime - 1, prime, 1},
		{top, 2, top - 1, 1},
		{top - 1, top, top, top - 1},
		{2, top, 1 << 63, 0},
	}
	for _, row := range rows {
		if got, ok := PowMod(row.a, row.n, row.m); got != row.want || !ok {
			t.Errorf("PowMod(%d, %d, %d) = %d, %v, not %d", row.a, row.n, row.m, got, ok, row.want)
		}
	}
}

// P2.2: modulo 0 there is nothing, not even of 0, and not even to the 0.
func TestModuloZero(t *testing.T) {
	for _, a := range edges {
		for _, b := range edges {
			if got, ok := MulMod(a, b, 0); got != 0 || ok {
				t.Fatalf("MulMod(%d, %d, 0) = %d, %v, not 0, false", a, b, got, ok)
			}
			if got, ok := PowMod(a, b, 0); got != 0 || ok {
				t.Fatalf("PowMod(%d, %d, 0) = %d, %v, not 0, false", a, b, got, ok)
			}
		}
	}
}

// P2.2, held against exact numbers.
func TestModuloExact(t *testing.T) {
	for _, a := range numbers() {
		for _, b := range numbers() {
			for _, m := range edges[1:] {
				product := new(big.Int).Mul(long(a), long(b))
				want := product.Mod(product, long(m)).Uint64()
				if got, ok := MulMod(a, b, m); got != want || !ok {
					t.Fatalf("MulMod(%d, %d, %d) = %d, %v, not %d", a, b, m, got, ok, want)
				}
				want = new(big.Int).Exp(long(a), long(b), long(m)).Uint64()
				if got, ok := PowMod(a, b, m); got != want || !ok {
					t.Fatalf("PowMod(%d, %d, %d) = %d, %v, not %d", a, b, m, got, ok, want)
				}
			}
		}
	}
}

// P2.2: of small numbers, by multiplying one by one.
func TestPowModByTrial(t *testing.T) {
	for m := uint64(1); m <= 20; m++ {
		for a := uint64(0); a <= 25; a++ {
			want := 1 % m
			for n := uint64(0); n <= 25; n++ {
				if got, ok := PowMod(a, n, m); got != want || !ok {
					t.Fatalf("PowMod(%d, %d, %d) = %d, %v, not %d", a, n, m, got, ok, want)
				}
				want = want * a % m
			}
		}
	}
}

// P2.2, at inverses that are written out.
func TestInverseWrittenOut(t *testing.T) {
	rows := []struct {
		a, m uint64
		want uint64
		is   bool
	}{
		{0, 0, 0, false},
		{1, 0, 0, false},
		{top, 0, 0, false},
		{0, 1, 0, false},
		{1, 1, 0, false},
		{top, 1, 0, false},
		{0, 2, 0, false},
		{1, 2, 1, true},
		{2, 2, 0, false},
		{3, 2, 1, true},
		{3, 7, 5, true},
		{5, 7, 3, true},
		{6, 7, 6, true},
		{7, 7, 0, false},
		{10, 7, 5, true},
		{6, 9, 0, false},
		{1, top, 1, true},
		{2, top, 1 << 63, true},
		{1 << 63, top, 2, true},
		{3, top, 0, false},
		{top - 1, top, top - 1, true},
		{top, top, 0, false},
		{top, top - 1, 1, true},
		{top, 1 << 63, 1<<63 - 1, true},
		{2, prime, (prime + 1) / 2, true},
		{prime, top, 16856507515631141993, true},
		{prime + 1, prime, 1, true},
	}
	for _, row := range rows {
		if got, ok := Inverse(row.a, row.m); got != row.want || ok != row.is {
			t.Errorf("Inverse(%d, %d) = %d, %v, not %d, %v", row.a, row.m, got, ok, row.want, row.is)
		}
	}
}

// exactInverse is an inverse, by long numbers, and whether there is one.
func exactInverse(a, m uint64) (uint64, bool) {
	if m < 2 {
		return 0, false
	}
	out := new(big.Int).ModInverse(long(a), long(m))
	if out == nil {
		return 0, false
	}
	return out.Uint64(), true
}

// P2.2, held against exact numbers.
func TestInverseExact(t *testing.T) {
	for _, a := range numbers() {
		for _, m := range numbers() {
			want, is := exactInverse(a, m)
			if got, ok := Inverse(a, m); got != want || ok != is {
				t.Fatalf("Inverse(%d, %d) = %d, %v, not %d, %v", a, m, got, ok, want, is)
			}
		}
	}
}

// P2.2: of small numbers, by going through all of them.
func TestInverseByTrial(t *testing.T) {
	for m := uint64(0); m <= 60; m++ {
		for a := uint64(0); a <= 130; a++ {
			var want uint64
			is := false
			for n := uint64(0); m >= 2 && n < m; n++ {
				if a*n%m == 1 {
					want, is = n, true
				}
			}
			if got, ok := Inverse(a, m); got != want || ok != is {
				t.Fatalf("Inverse(%d, %d) = %d, %v, not %d, %v", a, m, got, ok, want, is)
			}
		}
	}
}

// P2.3: the Gcd times the Lcm of two is their product.
func TestGcdTimesLcm(t *testing.T) {
	for _, a := range numbers() {
		for _, b := range numbers() {
			least, fits := Lcm(a, b)
			if fits && wide.Full(Gcd(a, b), least) != wide.Full(a, b) {
				t.Fatalf("Gcd(%d, %d) times Lcm %d is not their product", a, b, least)
			}
			if fits {
				continue
			}
			// What does not fit is 2^64 or more: their product by the Gcd has a high half.
			if quotient, _, ok := wide.Div(wide.Full(a, b), Gcd(a, b)); !ok || quotient.Hi == 0 {
				t.Fatalf("Lcm(%d, %d) does not fit, but is %v", a, b, quotient)
			}
		}
	}
}

// P2.3: what has an inverse has nothing in common with m, and the other way round; and it times its inverse is 1.
func TestInverseAndGcd(t *testing.T) {
	for _, a := range numbers() {
		for _, m := range numbers() {
			if m < 2 {
				continue
			}
			inverse, is := Inverse(a, m)
			if is != (Gcd(a, m) == 1) {
				t.Fatalf("Inverse(%d, %d) is there: %v, but the Gcd is %d", a, m, is, Gcd(a, m))
			}
			if !is {
				continue
			}
			if product, ok := MulMod(a, inverse, m); !ok || product != 1 || inverse >= m {
				t.Fatalf("%d times Inverse(%d, %d) = %d is %d", a, a, m, inverse, product)
			}
		}
	}
}
