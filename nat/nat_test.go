package nat

import (
	"math/big"
	"math/rand"
	"slices"
	"strings"
	"testing"

	"tombola/api"
)

const top = 1<<32 - 1

// edgeNumbers are numbers at which digits, words and carries end, some of them with noughts at the end.
func edgeNumbers() []api.Nat {
	return []api.Nat{
		nil, {}, {0}, {0, 0, 0}, {1}, {1, 0}, {2}, {10}, {top}, {top, 0, 0}, {0, 1}, {0, 1, 0}, {1, 1}, {top, top},
		{0, 0, 1}, {1, 0, 1}, {top, top, top}, {0, 1 << 31}, {top, 1<<31 - 1}, {0, 0, 1 << 31}, {top, 0, 1 << 31},
		{0, top, 1<<31 - 1}, {0, 0, 0, 1}, {1, top, 0, top, 0}, {999999999}, {1000000000}, {0, 0, 0, 0, 0, 7},
	}
}

// randomNumbers are numbers of few digits, of which many are such that carries go far.
func randomNumbers(source *rand.Rand, count, digits int) []api.Nat {
	kinds := []uint32{0, 1, 1 << 31, 1<<31 - 1, top, top - 1}
	list := make([]api.Nat, count)
	for i := range list {
		list[i] = make(api.Nat, source.Intn(digits+1))
		for j := range list[i] {
			if list[i][j] = source.Uint32(); source.Intn(3) != 0 {
				list[i][j] = kinds[source.Intn(len(kinds))]
			}
		}
	}
	return list
}

func sampleNumbers() []api.Nat {
	return append(edgeNumbers(), randomNumbers(rand.New(rand.NewSource(3)), 60, 7)...)
}

// big2 is a number as another one counts.
func big2(a api.Nat) *big.Int {
	n := new(big.Int)
	for _, digit := range slices.Backward(a) {
		n.Lsh(n, 32)
		n.Or(n, big.NewInt(int64(digit)))
	}
	return n
}

// same tells whether an answer is a number, and has no nought at its end.
func same(a api.Nat, n *big.Int) bool {
	return big2(a).Cmp(n) == 0 && (len(a) == 0 || a[len(a)-1] != 0)
}

// P3.1, at numbers that are written out.
func TestOfIsTheDigitsOfAWord(t *testing.T) {
	rows := []struct {
		n    uint64
		want api.Nat
	}{
		{0, nil}, {1, api.Nat{1}}, {top, api.Nat{top}}, {1 << 32, api.Nat{0, 1}}, {1<<32 + 7, api.Nat{7, 1}},
		{1<<64 - 1, api.Nat{top, top}}, {1 << 63, api.Nat{0, 1 << 31}},
	}
	for _, r := range rows {
		if got := Of(r.n); !slices.Equal(got, r.want) {
			t.Errorf("Of(%d) = %v, want %v", r.n, got, r.want)
		}
	}
}

// P3.1, at numbers with noughts at the end, between and nowhere.
func TestCutLeavesOutNoughtsAtTheEnd(t *testing.T) {
	rows := []struct{ a, want api.Nat }{
		{nil, nil}, {api.Nat{}, nil}, {api.Nat{0}, nil}, {api.Nat{0, 0, 0}, nil}, {api.Nat{5}, api.Nat{5}},
		{api.Nat{5, 0}, api.Nat{5}}, {api.Nat{0, 5, 0, 0}, api.Nat{0, 5}}, {api.Nat{5, 0, 0, 1}, api.Nat{5, 0, 0, 1}},
	}
	for _, r := range rows {
		if got := Cut(r.a); !slices.Equal(got, r.want) {
			t.Errorf("Cut(%v) = %v, want %v", r.a, got, r.want)
		}
	}
}

// P3.1, at the edge of a word.
func TestWordIsTheNumberBelowTwoToThe64(t *testing.T) {
	rows := []struct {
		a    api.Nat
		want uint64
		ok   bool
	}{
		{nil, 0, true}, {api.Nat{0, 0, 0}, 0, true}, {api.Nat{9}, 9, true}, {api.Nat{1, 2}, 1<<33 + 1, true},
		{api.Nat{top, top}, 1<<64 - 1, true}, {api.Nat{top, top, 0, 0}, 1<<64 - 1, true},
		{api.Nat{0, 0, 1}, 0, false}, {api.Nat{7, 7, 7}, 0, false}, {api.Nat{1, 0, 0, 1, 0}, 0, false},
	}
	for _, r := range rows {
		if got, ok := Word(r.a); got != r.want || ok != r.ok {
			t.Errorf("Word(%v) = %d, %v, want %d, %v", r.a, got, ok, r.want, r.ok)
		}
	}
}

// P3.1: the least power of two that is above.
func TestBitsIsTheLeastPowerAbove(t *testing.T) {
	rows := []struct {
		a    api.Nat
		want int
	}{
		{nil, 0}, {api.Nat{0, 0}, 0}, {api.Nat{1}, 1}, {api.Nat{2}, 2}, {api.Nat{3}, 2}, {api.Nat{4}, 3},
		{api.Nat{top}, 32}, {api.Nat{0, 1}, 33}, {api.Nat{top, top, 0}, 64}, {api.Nat{0, 0, 1}, 65},
	}
	for _, r := range rows {
		if got := Bits(r.a); got != r.want {
			t.Errorf("Bits(%v) = %d, want %d", r.a, got, r.want)
		}
	}
	for _, a := range sampleNumbers() {
		if got := Bits(a); got != big2(a).BitLen() {
			t.Errorf("Bits(%v) = %d, want %d", a, got, big2(a).BitLen())
		}
	}
}

// P3.1: noughts at the end have no part in what is compared.
func TestCmpTellsWhichIsGreater(t *testing.T) {
	rows := []struct {
		a, b api.Nat
		want int
	}{
		{nil, api.Nat{0, 0}, 0}, {api.Nat{1}, nil, 1}, {nil, api.Nat{0, 1}, -1}, {api.Nat{1, 0}, api.Nat{1}, 0},
		{api.Nat{5, 1}, api.Nat{4, 2}, -1}, {api.Nat{5, 2}, api.Nat{6, 2}, -1}, {api.Nat{top, 0}, api.Nat{0, 1}, -1},
		{api.Nat{0, 0, 1}, api.Nat{top, top, 0, 0}, 1}, {api.Nat{3, 2, 1}, api.Nat{3, 2, 1, 0}, 0},
	}
	for _, r := range rows {
		if got := Cmp(r.a, r.b); got != r.want {
			t.Errorf("Cmp(%v, %v) = %d, want %d", r.a, r.b, got, r.want)
		}
	}
}

// P3.1, against another reckoner, at pairs of all kinds.
func TestCmpIsThatOfBigNumbers(t *testing.T) {
	list := sampleNumbers()
	for _, a := range list {
		for _, b := range list {
			if got := Cmp(a, b); got != big2(a).Cmp(big2(b)) {
				t.Errorf("Cmp(%v, %v) = %d", a, b, got)
			}
		}
	}
}

// P3.2: of no numbers, one and many.
func TestAddAndMulTakeAnyManyNumbers(t *testing.T) {
	rows := []struct {
		l            []api.Nat
		sum, product string
	}{
		{nil, "0", "1"},
		{[]api.Nat{nil}, "0", "0"},
		{[]api.Nat{{7, 0}}, "7", "7"},
		{[]api.Nat{{2}, {3}, {4}, {5}}, "14", "120"},
		{[]api.Nat{{top, top}, {1}}, "18446744073709551616", "18446744073709551615"},
		{[]api.Nat{{1}, {top, top, top}}, "79228162514264337593543950336", "79228162514264337593543950335"},
		{[]api.Nat{{0, 1}, {0, 1, 0}}, "8589934592", "18446744073709551616"},
		{[]api.Nat{{6}, {0, 0}, {0, 5}}, "21474836486", "0"},
	}
	for _, r := range rows {
		if got := Text(Add(r.l...)); got != r.sum {
			t.Errorf("Add(%v) = %s, want %s", r.l, got, r.sum)
		}
		if got := Text(Mul(r.l...)); got != r.product {
			t.Errorf("Mul(%v) = %s, want %s", r.l, got, r.product)
		}
	}
}

// P3.2, against another reckoner, at lists of up to six numbers.
func TestAddAndMulAreThoseOfBigNumbers(t *testing.T) {
	source := rand.New(rand.NewSource(32))
	for range 2000 {
		list := randomNumbers(source, source.Intn(7), 5)
		sum, product := new(big.Int), big.NewInt(1)
		for _, a := range list {
			sum.Add(sum, big2(a))
			product.Mul(product, big2(a))
		}
		if got := Add(list...); !same(got, sum) {
			t.Fatalf("Add(%v) = %v, want %v", list, got, sum)
		}
		if got := Mul(list...); !same(got, product) {
			t.Fatalf("Mul(%v) = %v, want %v", list, got, product)
		}
	}
}

// P3.2: a difference is there just if it is not below 0.
func TestSubIsTheDifference(t *testing.T) {
	rows := []struct {
		a, b, want api.Nat
		ok         bool
	}{
		{nil, nil, nil, true}, {api.Nat{5}, nil, api.Nat{5}, true}, {api.Nat{5, 0}, api.Nat{3, 0, 0}, api.Nat{2}, true},
		{api.Nat{0, 0, 1}, api.Nat{1}, api.Nat{top, top}, true}, {api.Nat{4, 9}, api.Nat{5, 8}, api.Nat{top}, true},
		{api.Nat{4, 9}, api.Nat{4, 9, 0}, nil, true}, {nil, api.Nat{1}, nil, false}, {api.Nat{4, 8}, api.Nat{3, 9}, nil, false},
		{api.Nat{top, top}, api.Nat{0, 0, 1}, nil, false}, {nil, api.Nat{0, 0}, nil, true},
	}
	for _, r := range rows {
		if got, ok := Sub(r.a, r.b); !slices.Equal(got, r.want) || ok != r.ok {
			t.Errorf("Sub(%v, %v) = %v, %v, want %v, %v", r.a, r.b, got, ok, r.want, r.ok)
		}
	}
	list := sampleNumbers()
	for _, a := range list {
		for _, b := range list {
			want := new(big.Int).Sub(big2(a), big2(b))
			got, ok := Sub(a, b)
			if ok != (want.Sign() >= 0) || ok && !same(got, want) || !ok && len(got) != 0 {
				t.Errorf("Sub(%v, %v) = %v, %v", a, b, got, ok)
			}
		}
	}
}

// P3.2, at quotients that are written out.
func TestDivIsTheQuotientAndTheRest(t *testing.T) {
	rows := []struct {
		a, b, quotient, rest api.Nat
		ok                   bool
	}{
		{nil, nil, nil, nil, false}, {api.Nat{7}, nil, nil, nil, false}, {api.Nat{7, 8, 9}, api.Nat{0, 0}, nil, nil, false},
		{nil, api.Nat{3}, nil, nil, true}, {api.Nat{7}, api.Nat{8, 0}, nil, api.Nat{7}, true},
		{api.Nat{17, 0}, api.Nat{5}, api.Nat{3}, api.Nat{2}, true}, {api.Nat{0, 1}, api.Nat{2}, api.Nat{1 << 31}, nil, true},
		{api.Nat{3, 4, 5}, api.Nat{3, 4, 5, 0}, api.Nat{1}, nil, true}, {api.Nat{2, 4, 5}, api.Nat{3, 4, 5}, nil, api.Nat{2, 4, 5}, true},
		{api.Nat{9, 0, 1}, api.Nat{0, 1}, api.Nat{0, 1}, api.Nat{9}, true},
	}
	for _, r := range rows {
		quotient, rest, ok := Div(r.a, r.b)
		if !slices.Equal(quotient, r.quotient) || !slices.Equal(rest, r.rest) || ok != r.ok {
			t.Errorf("Div(%v, %v) = %v, %v, %v, want %v, %v, %v", r.a, r.b, quotient, rest, ok, r.quotient, r.rest, r.ok)
		}
	}
}

// P3.2, against another reckoner: many of these digits are guessed one or two too great at first.
func TestDivIsThatOfBigNumbers(t *testing.T) {
	source := rand.New(rand.NewSource(323))
	dividends := append(edgeNumbers(), randomNumbers(source, 400, 9)...)
	divisors := append(edgeNumbers(), randomNumbers(source, 200, 5)...)
	for _, a := range dividends {
		for _, b := range divisors {
			if big2(b).Sign() == 0 {
				continue
			}
			wantQuotient, wantRest := new(big.Int).QuoRem(big2(a), big2(b), new(big.Int))
			quotient, rest, ok := Div(a, b)
			if !ok || !same(quotient, wantQuotient) || !same(rest, wantRest) {
				t.Fatalf("Div(%v, %v) = %v, %v, %v", a, b, quotient, rest, ok)
			}
		}
	}
}

// P3.3: with a 0, without one, and with words and longer ones together.
func TestGcdAndLcmOfTwoNumbers(t *testing.T) {
	rows := []struct {
		a, b     api.Nat
		gcd, lcm string
	}{
		{nil, nil, "0", "0"}, {api.Nat{0, 0}, api.Nat{7, 0}, "7", "0"}, {api.Nat{7}, nil, "7", "0"},
		{nil, api.Nat{1, 2, 3}, "55340232229718589441", "0"}, {api.Nat{12}, api.Nat{18}, "6", "36"},
		{api.Nat{5}, api.Nat{5}, "5", "5"}, {api.Nat{1}, api.Nat{0, 0, 1}, "1", "18446744073709551616"},
		{api.Nat{0, 0, 1}, api.Nat{0, 1}, "4294967296", "18446744073709551616"},
		{api.Nat{0, 6}, api.Nat{4}, "4", "25769803776"},
	}
	for _, r := range rows {
		if got := Text(Gcd(r.a, r.b)); got != r.gcd {
			t.Errorf("Gcd(%v, %v) = %s, want %s", r.a, r.b, got, r.gcd)
		}
		if got := Text(Lcm(r.a, r.b)); got != r.lcm {
			t.Errorf("Lcm(%v, %v) = %s, want %s", r.a, r.b, got, r.lcm)
		}
	}
}

// P3.3, against another reckoner, with a part that both have in common.
func TestGcdAndLcmAreThoseOfBigNumbers(t *testing.T) {
	source := rand.New(rand.NewSource(33))
	for range 2000 {
		l := randomNumbers(source, 3, 4)
		a, b := Mul(l[0], l[2]), Mul(l[1], l[2])
		gcd := new(big.Int).GCD(nil, nil, big2(a), big2(b))
		if got := Gcd(a, b); !same(got, gcd) {
			t.Fatalf("Gcd(%v, %v) = %v, want %v", a, b, got, gcd)
		}
		lcm := new(big.Int).Mul(big2(a), big2(b))
		if gcd.Sign() != 0 {
			lcm.Quo(lcm, gcd)
		}
		if got := Lcm(a, b); !same(got, lcm) {
			t.Fatalf("Lcm(%v, %v) = %v, want %v", a, b, got, lcm)
		}
	}
}

// P3.4, at texts whose groups begin with noughts.
func TestTextIsTheDecimalDigits(t *testing.T) {
	rows := []struct {
		a    api.Nat
		want string
	}{
		{nil, "0"}, {api.Nat{0, 0}, "0"}, {api.Nat{7, 0}, "7"}, {api.Nat{999999999}, "999999999"},
		{api.Nat{1000000000}, "1000000000"}, {api.Nat{0, 1}, "4294967296"}, {api.Nat{top, top}, "18446744073709551615"},
		{api.Nat{2808348672, 232830643}, "1000000000000000000"}, {api.Nat{2808348679, 232830643}, "1000000000000000007"},
	}
	for _, r := range rows {
		if got := Text(r.a); got != r.want {
			t.Errorf("Text(%v) = %s, want %s", r.a, got, r.want)
		}
	}
	for _, a := range append(sampleNumbers(), make(api.Nat, 300), append(make(api.Nat, 300), 1)) {
		if got := Text(a); got != big2(a).String() {
			t.Errorf("Text(%v) = %s", a, got)
		}
	}
}

// P3.4: digits of all lengths up to the limit are read.
func TestParseReadsDigits(t *testing.T) {
	for _, s := range []string{"0", "7", "10", "999999999", "1000000000", "1000000001", "4294967295", "4294967296",
		"18446744073709551616", strings.Repeat("9", 4096), "1" + strings.Repeat("0", 4095)} {
		want, _ := new(big.Int).SetString(s, 10)
		if got, err := Parse(s); err != api.OK || !same(got, want) {
			t.Errorf("Parse(%q) = %v, %v", s, got, err)
		}
	}
}

// P3.4: what is no such text, and what is too long, whatever stands in it.
func TestParseTellsWhatIsWrong(t *testing.T) {
	rows := []struct {
		s    string
		want api.Errno
	}{
		{"", api.ErrForm}, {"00", api.ErrForm}, {"01", api.ErrForm}, {"-1", api.ErrForm}, {"+1", api.ErrForm},
		{"-0", api.ErrForm}, {" 1", api.ErrForm}, {"1 ", api.ErrForm}, {"1_0", api.ErrForm}, {"0x1", api.ErrForm},
		{"12a", api.ErrForm}, {"1/", api.ErrForm}, {"1:", api.ErrForm}, {"1.0", api.ErrForm}, {"1e3", api.ErrForm},
		{"\xff", api.ErrForm}, {"1\x00", api.ErrForm}, {"٣", api.ErrForm},
		{strings.Repeat("x", 4096), api.ErrForm}, {"0" + strings.Repeat("1", 4095), api.ErrForm},
		{strings.Repeat("1", 4095) + "x", api.ErrForm}, {strings.Repeat("1", 4097), api.ErrMany},
		{strings.Repeat("x", 4097), api.ErrMany}, {strings.Repeat("0", 5000), api.ErrMany},
	}
	for _, r := range rows {
		if got, err := Parse(r.s); err != r.want || len(got) != 0 {
			t.Errorf("Parse(%.20q) of %d bytes = %v, %v, want %v", r.s, len(r.s), got, err, r.want)
		}
	}
}

// P3.5: the quotient times the divisor, and the rest, which is below it, are the number.
func TestQuotientAndRestMakeTheNumber(t *testing.T) {
	list := sampleNumbers()
	for _, a := range list {
		for _, b := range list {
			quotient, rest, ok := Div(a, b)
			if ok != (Bits(b) != 0) {
				t.Fatalf("Div(%v, %v) is %v", a, b, ok)
			}
			if ok && (Cmp(rest, b) >= 0 || Cmp(Add(Mul(quotient, b), rest), a) != 0) {
				t.Errorf("Div(%v, %v) = %v, %v", a, b, quotient, rest)
			}
		}
	}
}

// P3.5: numbers come back from their texts.
func TestNumbersComeBackFromTexts(t *testing.T) {
	longest, _ := Parse(strings.Repeat("9", api.MaxDigits))
	for _, a := range append(sampleNumbers(), longest) {
		if got, err := Parse(Text(a)); err != api.OK || !slices.Equal(got, Cut(a)) {
			t.Errorf("%v came back as %v, %v", a, got, err)
		}
	}
}

// P3.1 to P3.4: what is answered is new memory, and what is handed in stays as it was (R5).
func TestNothingIsSharedOrWrittenInto(t *testing.T) {
	list := append(edgeNumbers(), api.Nat{0, 1, 2, 3, 4}, api.Nat{5, 4, 3, 2, 1})
	for _, a := range list {
		for _, b := range list {
			oldA, oldB := slices.Clone(a), slices.Clone(b)
			for _, answer := range answersOf(a, b) {
				for i := range answer[:cap(answer)] {
					answer[:cap(answer)][i] ^= 0x55555555
				}
				if !slices.Equal(a, oldA) || !slices.Equal(b, oldB) {
					t.Fatalf("what was handed in, %v and %v, is %v and %v", oldA, oldB, a, b)
				}
			}
		}
	}
}

func answersOf(a, b api.Nat) []api.Nat {
	difference, _ := Sub(a, b)
	quotient, rest, _ := Div(a, b)
	Cmp(a, b)
	Word(a)
	Bits(a)
	Text(a)
	return []api.Nat{
		Cut(a), Add(a), Add(a, b), Mul(a), Mul(a, b), difference, quotient, rest, Gcd(a, b), Gcd(b, a), Lcm(a, b),
	}
}

// P3.2: the quotient and the rest share no memory.
func TestQuotientAndRestAreApart(t *testing.T) {
	list := sampleNumbers()
	for _, a := range list {
		for _, b := range list {
			quotient, rest, _ := Div(a, b)
			old := slices.Clone(rest)
			for i := range quotient[:cap(quotient)] {
				quotient[:cap(quotient)][i]++
			}
			if !slices.Equal(rest, old) {
				t.Fatalf("the rest of %v by %v changes with the quotient", a, b)
			}
		}
	}
}

// P3.2 to P3.4, at numbers of some thousand digits.
func TestLongNumbers(t *testing.T) {
	source := rand.New(rand.NewSource(34))
	a, b := make(api.Nat, 1500), make(api.Nat, 400)
	for _, l := range []api.Nat{a, b} {
		for i := range l {
			l[i] = source.Uint32() | 1
		}
	}
	quotient, rest, ok := Div(a, b)
	if !ok || Cmp(rest, b) >= 0 || Cmp(Add(Mul(b, quotient), rest), a) != 0 {
		t.Error("the quotient is wrong")
	}
	if !same(Gcd(a, b), new(big.Int).GCD(nil, nil, big2(a), big2(b))) {
		t.Error("the greatest divisor is wrong")
	}
	if Text(a) != big2(a).String() {
		t.Error("the text is wrong")
	}
}
