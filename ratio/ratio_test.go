package ratio

import (
	"cmp"
	"math/big"
	"math/rand"
	"slices"
	"strings"
	"testing"

	"tombola/api"
	"tombola/nat"
)

const top = 1<<32 - 1

// frac is a fraction as it is written, right or not.
func frac(num, den api.Nat) api.Ratio {
	return api.Ratio{Num: num, Den: den}
}

// bigNat is a number as another reckoner has it.
func bigNat(a api.Nat) *big.Int {
	n := new(big.Int)
	for _, digit := range slices.Backward(a) {
		n.Lsh(n, 32)
		n.Or(n, big.NewInt(int64(digit)))
	}
	return n
}

func bigRat(a api.Ratio) *big.Rat {
	return new(big.Rat).SetFrac(bigNat(a.Num), bigNat(a.Den))
}

func natOf(n *big.Int) api.Nat {
	a, _ := nat.Parse(n.String())
	return a
}

func ratioOf(r *big.Rat) api.Ratio {
	return frac(natOf(r.Num()), natOf(r.Denom()))
}

// written tells whether two are the same digits, without noughts at their end.
func written(a, b api.Ratio) bool {
	return slices.Equal(a.Num, b.Num) && slices.Equal(a.Den, b.Den)
}

// isNothing tells whether a fraction is the zero value, which is not 0 by 1.
func isNothing(a api.Ratio) bool {
	return len(a.Num) == 0 && len(a.Den) == 0
}

// edges are fractions that are right, around which digits and words end.
func edges() []api.Ratio {
	return []api.Ratio{
		frac(nil, api.Nat{1}), frac(api.Nat{}, api.Nat{1}), frac(api.Nat{1}, api.Nat{1}), frac(api.Nat{1}, api.Nat{2}),
		frac(api.Nat{2}, api.Nat{1}), frac(api.Nat{1}, api.Nat{3}), frac(api.Nat{2}, api.Nat{3}), frac(api.Nat{5}, api.Nat{6}),
		frac(api.Nat{7}, api.Nat{4}), frac(api.Nat{top}, api.Nat{1}), frac(api.Nat{1}, api.Nat{top}),
		frac(api.Nat{0, 1}, api.Nat{1}), frac(api.Nat{1}, api.Nat{0, 1}), frac(api.Nat{top, top}, api.Nat{0, 0, 1}),
		frac(api.Nat{0, 0, 1}, api.Nat{top, top}), frac(api.Nat{1, 0, 1}, api.Nat{0, 0, 0, 1}),
		frac(api.Nat{1}, api.Nat{0, 0, 0, 1}), frac(api.Nat{top}, api.Nat{0, 1 << 31}), frac(api.Nat{top, top}, api.Nat{1}),
	}
}

// randomRatio is right; its parts are products of few small primes, or anything.
func randomRatio(source *rand.Rand) api.Ratio {
	part := func() *big.Int {
		n := big.NewInt(1)
		for range source.Intn(6) {
			n.Mul(n, big.NewInt([]int64{2, 2, 3, 5, 7, 65536, top}[source.Intn(7)]))
		}
		if source.Intn(3) == 0 {
			n.Add(n, new(big.Int).Rand(source, new(big.Int).Lsh(big.NewInt(1), uint(source.Intn(140)))))
		}
		return n
	}
	num := part()
	if source.Intn(12) == 0 {
		num.SetInt64(0)
	}
	return ratioOf(new(big.Rat).SetFrac(num, part()))
}

func samples(seed int64, count int) []api.Ratio {
	source := rand.New(rand.NewSource(seed))
	list := edges()
	for range count {
		list = append(list, randomRatio(source))
	}
	return list
}

// P4.1: what both have in common goes, and so do noughts at the end.
func TestMakeIsTheRightFraction(t *testing.T) {
	rows := []struct {
		num, den api.Nat
		want     api.Ratio
	}{
		{nil, api.Nat{1}, frac(nil, api.Nat{1})}, {api.Nat{0, 0}, api.Nat{7, 0}, frac(nil, api.Nat{1})},
		{nil, api.Nat{0, 0, 5}, frac(nil, api.Nat{1})}, {api.Nat{6}, api.Nat{4}, frac(api.Nat{3}, api.Nat{2})},
		{api.Nat{6, 0}, api.Nat{3, 0, 0}, frac(api.Nat{2}, api.Nat{1})}, {api.Nat{5}, api.Nat{7}, frac(api.Nat{5}, api.Nat{7})},
		{api.Nat{0, 1}, api.Nat{0, 1}, frac(api.Nat{1}, api.Nat{1})}, {api.Nat{0, 0, 3}, api.Nat{0, 6}, frac(api.Nat{1 << 31}, api.Nat{1})},
		{api.Nat{top, 0}, api.Nat{top, top, 0}, frac(api.Nat{1}, api.Nat{1, 1})},
	}
	for _, r := range rows {
		if got, ok := Make(r.num, r.den); !ok || !written(got, r.want) {
			t.Errorf("Make(%v, %v) = %v, %v, want %v", r.num, r.den, got, ok, r.want)
		}
	}
	list := samples(41, 60)
	for _, a := range list {
		for _, b := range list {
			num, den := nat.Mul(a.Num, b.Num), nat.Mul(a.Den, b.Num)
			got, ok := Make(num, den)
			if ok != (len(b.Num) != 0) || ok && !written(got, a) || !ok && !isNothing(got) {
				t.Errorf("Make(%v, %v) = %v, %v, want %v", num, den, got, ok, a)
			}
		}
	}
}

// P4.1: nothing is by 0, however that is written.
func TestMakeByNothing(t *testing.T) {
	for _, num := range []api.Nat{nil, {0}, {1}, {3, 4, 5}} {
		for _, den := range []api.Nat{nil, {}, {0}, {0, 0, 0}} {
			if got, ok := Make(num, den); ok || !isNothing(got) {
				t.Errorf("Make(%v, %v) = %v, %v", num, den, got, ok)
			}
		}
	}
}

// P4.1, at words.
func TestOfIsAFractionOfWords(t *testing.T) {
	rows := []struct {
		n, d uint64
		want api.Ratio
		ok   bool
	}{
		{0, 0, api.Ratio{}, false}, {7, 0, api.Ratio{}, false}, {1<<64 - 1, 0, api.Ratio{}, false},
		{0, 1, frac(nil, api.Nat{1}), true}, {0, 1<<64 - 1, frac(nil, api.Nat{1}), true},
		{1, 2, frac(api.Nat{1}, api.Nat{2}), true}, {10, 4, frac(api.Nat{5}, api.Nat{2}), true},
		{1 << 63, 1 << 32, frac(api.Nat{1 << 31}, api.Nat{1}), true},
		{1<<64 - 1, 1<<64 - 2, frac(api.Nat{top, top}, api.Nat{top - 1, top}), true},
		{1<<64 - 1, 1<<32 - 1, frac(api.Nat{1, 1}, api.Nat{1}), true},
	}
	for _, r := range rows {
		if got, ok := Of(r.n, r.d); ok != r.ok || !written(got, r.want) {
			t.Errorf("Of(%d, %d) = %v, %v, want %v, %v", r.n, r.d, got, ok, r.want, r.ok)
		}
	}
}

// P4.1: 0 is 0 by 1.
func TestZeroIsNothingByOne(t *testing.T) {
	if got := Zero(); !written(got, frac(nil, api.Nat{1})) {
		t.Errorf("Zero() = %v", got)
	}
}

// P4.1: each of the three parts of what is right is broken by itself.
func TestRightTellsWhatIsRight(t *testing.T) {
	for _, a := range samples(411, 200) {
		if !Right(a) {
			t.Errorf("%v is not right", a)
		}
	}
	wrong := []api.Ratio{
		{}, frac(api.Nat{}, api.Nat{}), frac(api.Nat{1}, nil), frac(api.Nat{2}, nil), frac(api.Nat{1}, api.Nat{0}), frac(nil, api.Nat{0, 0}),
		frac(api.Nat{0}, api.Nat{1}), frac(nil, api.Nat{1, 0}), frac(api.Nat{3, 0}, api.Nat{2}), frac(api.Nat{3}, api.Nat{2, 0}),
		frac(api.Nat{1, 0}, api.Nat{1, 0}), frac(nil, api.Nat{2}), frac(nil, api.Nat{0, 1}), frac(api.Nat{2}, api.Nat{2}),
		frac(api.Nat{6}, api.Nat{4}), frac(api.Nat{0, 1}, api.Nat{2}), frac(api.Nat{0, 0, 1}, api.Nat{0, 1}),
		frac(api.Nat{top, top}, api.Nat{top}),
	}
	for _, a := range wrong {
		if Right(a) {
			t.Errorf("%v is right", a)
		}
	}
}

// P4.2: of no fractions, one and many.
func TestAddAndMulTakeAnyManyFractions(t *testing.T) {
	half, third, sixth := frac(api.Nat{1}, api.Nat{2}), frac(api.Nat{1}, api.Nat{3}), frac(api.Nat{1}, api.Nat{6})
	rows := []struct {
		l            []api.Ratio
		sum, product string
	}{
		{nil, "0", "1"}, {[]api.Ratio{Zero()}, "0", "0"}, {[]api.Ratio{half}, "1/2", "1/2"},
		{[]api.Ratio{half, third}, "5/6", "1/6"}, {[]api.Ratio{half, third, sixth}, "1", "1/36"},
		{[]api.Ratio{half, half}, "1", "1/4"}, {[]api.Ratio{Zero(), half, Zero()}, "1/2", "0"},
		{[]api.Ratio{half, frac(api.Nat{2}, api.Nat{1})}, "5/2", "1"}, {[]api.Ratio{Zero(), Zero()}, "0", "0"},
		{[]api.Ratio{frac(api.Nat{3}, api.Nat{10}), frac(api.Nat{5}, api.Nat{14})}, "23/35", "3/28"},
		{[]api.Ratio{frac(api.Nat{top, top}, api.Nat{1}), frac(api.Nat{1}, api.Nat{1})}, "18446744073709551616", "18446744073709551615"},
	}
	for _, r := range rows {
		if got := Add(r.l...); !Right(got) || Text(got) != r.sum {
			t.Errorf("Add(%v) = %v, want %s", r.l, got, r.sum)
		}
		if got := Mul(r.l...); !Right(got) || Text(got) != r.product {
			t.Errorf("Mul(%v) = %v, want %s", r.l, got, r.product)
		}
	}
}

// P4.2, against another reckoner, at lists of up to six fractions.
func TestAddAndMulAreThoseOfBigFractions(t *testing.T) {
	source := rand.New(rand.NewSource(42))
	for range 3000 {
		list := make([]api.Ratio, source.Intn(7))
		sum, product := new(big.Rat), big.NewRat(1, 1)
		for i := range list {
			list[i] = randomRatio(source)
			sum.Add(sum, bigRat(list[i]))
			product.Mul(product, bigRat(list[i]))
		}
		if got := Add(list...); !written(got, ratioOf(sum)) {
			t.Fatalf("Add(%v) = %v, want %v", list, got, sum)
		}
		if got := Mul(list...); !written(got, ratioOf(product)) {
			t.Fatalf("Mul(%v) = %v, want %v", list, got, product)
		}
	}
}

// P4.2: a difference is there just if it is not below 0, a quotient if what divides is not 0.
func TestSubAndDivAtFractionsWrittenOut(t *testing.T) {
	half, third, three := frac(api.Nat{1}, api.Nat{2}), frac(api.Nat{1}, api.Nat{3}), frac(api.Nat{3}, api.Nat{1})
	rows := []struct {
		call         func(a, b api.Ratio) (api.Ratio, bool)
		a, b         api.Ratio
		want         string
		ok           bool
		whatIsCalled string
	}{
		{Sub, half, third, "1/6", true, "Sub"}, {Sub, half, half, "0", true, "Sub"}, {Sub, third, half, "", false, "Sub"},
		{Sub, Zero(), Zero(), "0", true, "Sub"}, {Sub, Zero(), third, "", false, "Sub"}, {Sub, third, Zero(), "1/3", true, "Sub"},
		{Sub, three, half, "5/2", true, "Sub"}, {Sub, frac(api.Nat{5}, api.Nat{6}), third, "1/2", true, "Sub"},
		{Div, half, third, "3/2", true, "Div"}, {Div, half, half, "1", true, "Div"}, {Div, half, Zero(), "", false, "Div"},
		{Div, Zero(), Zero(), "", false, "Div"}, {Div, Zero(), three, "0", true, "Div"}, {Div, three, third, "9", true, "Div"},
		{Div, half, three, "1/6", true, "Div"},
	}
	for _, r := range rows {
		got, ok := r.call(r.a, r.b)
		if ok != r.ok || !ok && !isNothing(got) || ok && (!Right(got) || Text(got) != r.want) {
			t.Errorf("%s(%v, %v) = %v, %v, want %s, %v", r.whatIsCalled, r.a, r.b, got, ok, r.want, r.ok)
		}
	}
}

// P4.2, against another reckoner, at pairs of all kinds.
func TestPairsAreThoseOfBigFractions(t *testing.T) {
	list := samples(421, 90)
	for _, a := range list {
		for _, b := range list {
			left, right := bigRat(a), bigRat(b)
			order := left.Cmp(right)
			if got := Cmp(a, b); got != order {
				t.Errorf("Cmp(%v, %v) = %d, want %d", a, b, got, order)
			}
			if got := Same(a, b); got != (order == 0) {
				t.Errorf("Same(%v, %v) = %v", a, b, got)
			}
			got, ok := Sub(a, b)
			if ok != (order >= 0) || ok && !written(got, ratioOf(new(big.Rat).Sub(left, right))) || !ok && !isNothing(got) {
				t.Errorf("Sub(%v, %v) = %v, %v", a, b, got, ok)
			}
			got, ok = Div(a, b)
			if ok != (right.Sign() != 0) || ok && !written(got, ratioOf(new(big.Rat).Quo(left, right))) || !ok && !isNothing(got) {
				t.Errorf("Div(%v, %v) = %v, %v", a, b, got, ok)
			}
		}
	}
}

// P4.2, at fractions that are written out: neither part alone tells which one is greater.
func TestCmpAndSameAtFractionsWrittenOut(t *testing.T) {
	rows := []struct {
		a, b string
		want int
	}{
		{"0", "0", 0}, {"0", "1/9", -1}, {"1/2", "1/3", 1}, {"1/2", "2/3", -1}, {"3/7", "5/12", 1}, {"7/4", "7/4", 0},
		{"3", "2", 1}, {"2", "1/2", 1}, {"1/2", "2", -1}, {"1/18446744073709551616", "1/18446744073709551617", 1},
	}
	for _, r := range rows {
		a, _ := Parse(r.a)
		b, _ := Parse(r.b)
		if got := Cmp(a, b); got != r.want || Cmp(b, a) != -r.want {
			t.Errorf("Cmp(%s, %s) = %d, want %d", r.a, r.b, got, r.want)
		}
		if got := Same(a, b); got != (r.want == 0) {
			t.Errorf("Same(%s, %s) = %v", r.a, r.b, got)
		}
	}
}

// P4.2: what is left beyond a whole number goes.
func TestFloorIsRoundedDown(t *testing.T) {
	rows := []struct{ a, want string }{
		{"0", "0"}, {"1/2", "0"}, {"1", "1"}, {"3/2", "1"}, {"5/3", "1"}, {"7", "7"}, {"10/3", "3"},
		{"36893488147419103231/2", "18446744073709551615"}, {"18446744073709551615/18446744073709551616", "0"},
		{"18446744073709551616", "18446744073709551616"},
	}
	for _, r := range rows {
		a, _ := Parse(r.a)
		if got := Floor(a); nat.Text(got) != r.want || !slices.Equal(got, nat.Cut(got)) {
			t.Errorf("Floor(%s) = %v, want %s", r.a, got, r.want)
		}
	}
	for _, a := range samples(422, 300) {
		want := new(big.Int).Quo(bigNat(a.Num), bigNat(a.Den))
		if got := Floor(a); !slices.Equal(got, natOf(want)) {
			t.Errorf("Floor(%v) = %v, want %v", a, got, want)
		}
	}
}

// P4.3, at lists that are written out.
func TestCommonAtListsWrittenOut(t *testing.T) {
	rows := []struct{ list, common, parts string }{
		{"", "1", ""}, {"0", "1", "0"}, {"7", "1", "7"}, {"1/2 1/3", "6", "3 2"}, {"1/2 1/2", "2", "1 1"},
		{"3/4 5/6 0 1", "12", "9 10 0 12"}, {"10/3 20/3", "3", "10 20"}, {"0 0", "1", "0 0"}, {"1/4 1/2", "4", "1 2"},
		{"1/4294967296 1/18446744073709551616", "18446744073709551616", "4294967296 1"},
	}
	for _, r := range rows {
		var list []api.Ratio
		for text := range strings.FieldsSeq(r.list) {
			a, err := Parse(text)
			if err != api.OK {
				t.Fatal(text, err)
			}
			list = append(list, a)
		}
		common, parts := Common(list)
		var texts []string
		for _, part := range parts {
			texts = append(texts, nat.Text(part))
		}
		if nat.Text(common) != r.common || strings.Join(texts, " ") != r.parts {
			t.Errorf("Common of %s = %v, %v, want %s, %s", r.list, common, parts, r.common, r.parts)
		}
	}
}

// P4.3: each fraction times the number is a whole one, and no lesser number makes them all so.
func TestCommonIsTheLeastNumber(t *testing.T) {
	source := rand.New(rand.NewSource(43))
	for range 2000 {
		list := make([]api.Ratio, source.Intn(6))
		least := big.NewInt(1)
		for i := range list {
			list[i] = randomRatio(source)
			den := bigNat(list[i].Den)
			gcd := new(big.Int).GCD(nil, nil, least, den)
			least.Mul(least, den.Quo(den, gcd))
		}
		common, parts := Common(list)
		if !slices.Equal(common, natOf(least)) || len(parts) != len(list) {
			t.Fatalf("Common(%v) = %v, %v, want %v", list, common, parts, least)
		}
		for i, a := range list {
			want := new(big.Rat).Mul(bigRat(a), new(big.Rat).SetInt(least))
			if !want.IsInt() || !slices.Equal(parts[i], natOf(want.Num())) {
				t.Fatalf("Common(%v): part %d is %v, want %v", list, i, parts[i], want)
			}
		}
	}
}

// P4.4: Den is told just if it is not 1.
func TestTextOfFractions(t *testing.T) {
	rows := []struct {
		a    api.Ratio
		want string
	}{
		{Zero(), "0"}, {frac(api.Nat{1}, api.Nat{1}), "1"}, {frac(api.Nat{5}, api.Nat{6}), "5/6"}, {frac(api.Nat{1}, api.Nat{10}), "1/10"},
		{frac(api.Nat{0, 1}, api.Nat{1}), "4294967296"}, {frac(api.Nat{1}, api.Nat{0, 1}), "1/4294967296"},
		{frac(api.Nat{1}, api.Nat{1, 1}), "1/4294967297"},
	}
	for _, r := range rows {
		if got := Text(r.a); got != r.want {
			t.Errorf("Text(%v) = %s, want %s", r.a, got, r.want)
		}
	}
	for _, a := range samples(44, 300) {
		if got := Text(a); got != bigRat(a).RatString() {
			t.Errorf("Text(%v) = %s, want %s", a, got, bigRat(a).RatString())
		}
	}
}

// P4.4: the texts of right fractions are read, up to the limit.
func TestParseReadsFractions(t *testing.T) {
	long := strings.Repeat("9", 2047)
	texts := []string{
		"0", "1", "7", "10", "1/2", "2/3", "3/2", "10/3", "1/10", "4294967296/4294967295", "1/18446744073709551616",
		strings.Repeat("9", 4096), "1/" + strings.Repeat("7", 4094), long + "/1" + strings.Repeat("0", 2047),
		strings.Repeat("1", 4094) + "/2",
	}
	for _, s := range texts {
		want, _ := new(big.Rat).SetString(s)
		if got, err := Parse(s); err != api.OK || !written(got, ratioOf(want)) {
			t.Errorf("Parse(%.20q) of %d bytes = %.60v, %v", s, len(s), got, err)
		}
	}
}

// P4.4: what is no such text, and what is too long, whatever stands in it.
func TestParseTellsWhatIsWrong(t *testing.T) {
	rows := []struct {
		s    string
		want api.Errno
	}{
		{"", api.ErrForm}, {"/", api.ErrForm}, {"1/", api.ErrForm}, {"/2", api.ErrForm}, {"1//2", api.ErrForm}, {"1/2/3", api.ErrForm},
		{"1/2/", api.ErrForm}, {"/1/2", api.ErrForm}, {"1/1", api.ErrForm}, {"7/1", api.ErrForm}, {"0/1", api.ErrForm},
		{"0/2", api.ErrForm}, {"0/0", api.ErrForm}, {"1/0", api.ErrForm}, {"2/0", api.ErrForm}, {"2/4", api.ErrForm}, {"6/3", api.ErrForm},
		{"2/2", api.ErrForm}, {"4294967296/2", api.ErrForm}, {"01/2", api.ErrForm}, {"1/02", api.ErrForm}, {"00", api.ErrForm},
		{"-1/2", api.ErrForm}, {"1/-2", api.ErrForm}, {"+1/2", api.ErrForm}, {"1/+2", api.ErrForm}, {" 1/2", api.ErrForm},
		{"1/2 ", api.ErrForm}, {"1 /2", api.ErrForm}, {"1/ 2", api.ErrForm}, {"1/2\n", api.ErrForm}, {"0.5", api.ErrForm}, {"1:2", api.ErrForm},
		{"a/2", api.ErrForm}, {"1/b", api.ErrForm}, {"1\x00/2", api.ErrForm}, {"\xff", api.ErrForm}, {"1/\xff", api.ErrForm}, {"٣/2", api.ErrForm},
		{"1\\2", api.ErrForm}, {strings.Repeat("/", 4096), api.ErrForm}, {"2/" + strings.Repeat("4", 4094), api.ErrForm},
		{"1/" + strings.Repeat("7", 4095), api.ErrMany}, {strings.Repeat("9", 4097), api.ErrMany}, {strings.Repeat("x", 4097), api.ErrMany},
		{"1/2" + strings.Repeat(" ", 4094), api.ErrMany}, {strings.Repeat("/", 5000), api.ErrMany},
	}
	for _, r := range rows {
		if got, err := Parse(r.s); err != r.want || !isNothing(got) {
			t.Errorf("Parse(%.20q) of %d bytes = %.60v, %v, want %v", r.s, len(r.s), got, err, r.want)
		}
	}
}

// P4.4, P4.5: all short texts: what is read is told as it was written, and all that is told is read.
func TestShortTextsAreReadJustIfTheyAreTold(t *testing.T) {
	told := map[string]bool{}
	for num := range uint64(100) {
		for den := range uint64(100) {
			if a, ok := Of(num, den); ok {
				told[Text(a)] = true
			}
		}
	}
	letters := "0129/-"
	texts := []string{""}
	for i := 0; len(texts[i]) < 4; i++ {
		for _, letter := range letters {
			texts = append(texts, texts[i]+string(letter))
		}
	}
	for _, s := range texts {
		a, err := Parse(s)
		if err == api.OK && (!Right(a) || Text(a) != s) || err != api.OK && told[s] {
			t.Errorf("Parse(%q) = %v, %v", s, a, err)
		}
	}
}

// P4.5: fractions come back from their texts.
func TestFractionsComeBackFromTexts(t *testing.T) {
	for _, a := range samples(45, 300) {
		if got, err := Parse(Text(a)); err != api.OK || !written(got, a) {
			t.Errorf("%v came back as %v, %v", a, got, err)
		}
	}
}

// P4.5: sums and products do not hang on the order, nor on how many are added at once.
func TestSumsAndProductsDoNotHangOnTheOrder(t *testing.T) {
	source := rand.New(rand.NewSource(451))
	for range 500 {
		list := make([]api.Ratio, 1+source.Intn(7))
		for i := range list {
			list[i] = randomRatio(source)
		}
		sum, product := Add(list...), Mul(list...)
		cut := source.Intn(len(list))
		parts := []api.Ratio{Add(list[:cut]...), Add(list[cut:]...)}
		factors := []api.Ratio{Mul(list[:cut]...), Mul(list[cut:]...)}
		source.Shuffle(len(list), func(i, j int) { list[i], list[j] = list[j], list[i] })
		for _, got := range []api.Ratio{Add(list...), Add(parts...), Add(parts[1], parts[0])} {
			if !written(got, sum) {
				t.Fatalf("the sum of %v is %v, or %v", list, sum, got)
			}
		}
		for _, got := range []api.Ratio{Mul(list...), Mul(factors...), Mul(factors[1], factors[0])} {
			if !written(got, product) {
				t.Fatalf("the product of %v is %v, or %v", list, product, got)
			}
		}
	}
}

// P4.5: what is taken away, or divided, comes back.
func TestWhatIsTakenAwayComesBack(t *testing.T) {
	list := samples(452, 60)
	for _, a := range list {
		for _, b := range list {
			if left, ok := Sub(a, b); ok && !written(Add(left, b), a) {
				t.Errorf("%v without %v, and that again, is %v", a, b, Add(left, b))
			}
			if left, ok := Sub(Add(a, b), b); !ok || !written(left, a) {
				t.Errorf("%v and %v, without that again, is %v", a, b, left)
			}
			if part, ok := Div(a, b); ok && !written(Mul(part, b), a) {
				t.Errorf("%v by %v, times that again, is %v", a, b, Mul(part, b))
			}
			if part, ok := Div(Mul(a, b), b); ok && !written(part, a) {
				t.Errorf("%v times %v, by that again, is %v", a, b, part)
			}
		}
	}
}

// answersOf are all numbers in all that is answered of two fractions.
func answersOf(a, b api.Ratio) []api.Nat {
	made, _ := Make(a.Num, b.Den)
	difference, _ := Sub(a, b)
	quotient, _ := Div(a, b)
	parsed, _ := Parse(Text(a))
	Right(a)
	Cmp(a, b)
	Same(a, b)
	common, parts := Common([]api.Ratio{a, b, a})
	answers := append([]api.Nat{Floor(a), common}, parts...)
	for _, r := range []api.Ratio{made, Add(a), Add(a, b), Add(Zero(), a), Mul(a), Mul(a, b), difference, quotient, parsed, Zero()} {
		answers = append(answers, r.Num, r.Den)
	}
	return answers
}

// P4.1 to P4.4: what is answered is new memory, no two lists share any, and what is handed in stays as it was (R5).
func TestNothingIsSharedOrWrittenInto(t *testing.T) {
	list := samples(46, 20)
	for _, a := range list {
		for _, b := range list {
			oldA, oldB := frac(slices.Clone(a.Num), slices.Clone(a.Den)), frac(slices.Clone(b.Num), slices.Clone(b.Den))
			answers := answersOf(a, b)
			for i, answer := range answers {
				others := slices.Clone(answers[i+1:])
				for j := range others {
					others[j] = slices.Clone(others[j])
				}
				whole := answer[:cap(answer)]
				for j := range whole {
					whole[j] ^= 0x55555555
				}
				if !slices.EqualFunc(others, answers[i+1:], slices.Equal) {
					t.Fatalf("answer %d of %v and %v shares memory with another one", i, a, b)
				}
			}
			if !written(a, oldA) || !written(b, oldB) {
				t.Fatalf("what was handed in, %v and %v, is %v and %v", oldA, oldB, a, b)
			}
		}
	}
}

// P4.1 to P4.4: of fractions that are not right nothing is promised, but each call ends.
func TestWrongFractionsEnd(t *testing.T) {
	wrong := []api.Ratio{
		{}, frac(nil, api.Nat{0, 0}), frac(api.Nat{1}, nil), frac(api.Nat{5, 6, 7}, api.Nat{0}), frac(api.Nat{4, 0}, api.Nat{2, 0, 0}),
		frac(api.Nat{0, 0}, api.Nat{3}), frac(api.Nat{0, 8}, api.Nat{0, 4, 0}), frac(api.Nat{1}, api.Nat{1}), frac(api.Nat{2}, api.Nat{3}),
	}
	for _, a := range wrong {
		for _, b := range wrong {
			answersOf(a, b)
		}
	}
}

// P4.2, P4.3: at many fractions, whose Dens have little in common.
func TestManyFractions(t *testing.T) {
	list := make([]api.Ratio, 400)
	sum := new(big.Rat)
	for i := range list {
		list[i], _ = Of(1, uint64(i+1))
		sum.Add(sum, big.NewRat(1, int64(i+1)))
	}
	if !written(Add(list...), ratioOf(sum)) {
		t.Error("the sum is wrong")
	}
	common, parts := Common(list)
	whole, ok := Make(nat.Add(parts...), common)
	if !ok || !written(whole, ratioOf(sum)) {
		t.Error("the parts together are wrong")
	}
	slices.SortFunc(list, Cmp)
	if !slices.IsSortedFunc(list, func(a, b api.Ratio) int { return cmp.Compare(bigNat(b.Den).Int64(), bigNat(a.Den).Int64()) }) {
		t.Error("the order is wrong")
	}
}
