package span

import (
	"math"
	"math/big"
	"math/rand"
	"slices"
	"testing"
)

const (
	top  = math.MaxUint64
	half = 1 << 63
)

// fitting are lists of weights whose sum is below 2^64: the edges at which it just is, too.
func fitting() [][]uint64 {
	return [][]uint64{
		nil, {}, {0}, {0, 0, 0}, {1}, {5}, {2, 0, 3}, {1, 2}, {10, 20}, {0, 1}, {1, 0}, {0, 0, 4, 0, 0, 1, 0},
		{3, 1, 4, 1, 5, 9, 2, 6}, {1 << 32, 1 << 32, 1}, {half - 1, half}, {half, half - 1}, {top}, {0, top, 0},
		{top - 1, 1}, {1, top - 1}, {top - 1, 0, 1, 0}, {half, 0, half - 1}, {1 << 62, 1 << 62, 1 << 62, 1<<62 - 1},
	}
}

// unfitting are lists of weights whose sum is 2^64 or more: the edges at which it just is, too.
func unfitting() [][]uint64 {
	return [][]uint64{
		{top, 1}, {1, top}, {half, half}, {half, 0, half}, {top, top}, {half, half, 5}, {5, half, half}, {top, 0, 1, 0},
		{top - 1, 1, 1}, {1 << 62, 1 << 62, 1 << 62, 1 << 62}, {top, top, 2}, {2, 3, top}, {top, top, top, top},
		{half, half, half, half}, {0, top - 2, 3},
	}
}

// random is a list of weights of many lengths in bits, and some that are 0; its sum may fit, or not.
func random(source *rand.Rand) []uint64 {
	out := make([]uint64, source.Intn(9))
	longest := source.Intn(64)
	for i := range out {
		if source.Intn(4) != 0 {
			out[i] = source.Uint64() >> (longest + source.Intn(64-longest))
		}
	}
	return out
}

// lists are all lists above, and many others.
func lists() [][]uint64 {
	source := rand.New(rand.NewSource(9))
	out := append(fitting(), unfitting()...)
	for range 500 {
		out = append(out, random(source))
	}
	return out
}

func long(n uint64) *big.Int {
	return new(big.Int).SetUint64(n)
}

// ahead is the exact sum of the weights ahead of a place.
func ahead(l []uint64, i int) *big.Int {
	out := new(big.Int)
	for _, weight := range l[:i] {
		out.Add(out, long(weight))
	}
	return out
}

// fits tells whether the sum is below 2^64.
func fits(l []uint64) bool {
	return ahead(l, len(l)).IsUint64()
}

// picked is whose span ought to have a number: -1, if nobody's does.
func picked(l []uint64, r uint64) int {
	if !fits(l) {
		return -1
	}
	for i := range l {
		if ahead(l, i).Cmp(long(r)) <= 0 && long(r).Cmp(ahead(l, i+1)) < 0 {
			return i
		}
	}
	return -1
}

// without is a list in which the weight at a place is 0.
func without(l []uint64, i int) []uint64 {
	out := slices.Clone(l)
	out[i] = 0
	return out
}

// near are the numbers next to where spans begin and end, and others.
func near(source *rand.Rand, l []uint64) []uint64 {
	out := []uint64{0, 1, 2, half - 1, half, half + 1, top - 1, top}
	from := uint64(0)
	for _, weight := range l {
		from += weight
		out = append(out, from-2, from-1, from, from+1)
		if weight > 0 {
			out = append(out, from-weight+source.Uint64()%weight)
		}
	}
	return append(out, source.Uint64())
}

// places are those of a list, and some that it has not.
func places(l []uint64) []int {
	out := []int{math.MinInt, -2, -1, len(l), len(l) + 1, math.MaxInt}
	for i := range l {
		out = append(out, i)
	}
	return out
}

// checkPick holds Pick against what it ought to answer, and that is -1 where it is false.
func checkPick(t *testing.T, l []uint64, r uint64, want int) {
	t.Helper()
	if got, ok := Pick(l, r); got != want || ok != (want >= 0) {
		t.Fatalf("Pick(%v, %d) = %d, %v, want %d", l, r, got, ok, want)
	}
}

// checkShift holds Shift against what it ought to answer.
func checkShift(t *testing.T, l []uint64, i int, r, want uint64, ok bool) {
	t.Helper()
	if got, is := Shift(l, i, r); got != want || is != ok {
		t.Fatalf("Shift(%v, %d, %d) = %d, %v, want %d, %v", l, i, r, got, is, want, ok)
	}
}

// P9.1: sums, the greatest one that fits, and the least one that does not.
func TestTotalWrittenOut(t *testing.T) {
	rows := []struct {
		list []uint64
		want uint64
		ok   bool
	}{
		{nil, 0, true}, {[]uint64{}, 0, true}, {[]uint64{0}, 0, true}, {[]uint64{0, 0, 0}, 0, true},
		{[]uint64{7}, 7, true}, {[]uint64{2, 0, 3}, 5, true}, {[]uint64{10, 20}, 30, true}, {[]uint64{1, 2, 3, 4}, 10, true},
		{[]uint64{1 << 32, 1 << 32}, 1 << 33, true}, {[]uint64{top}, top, true}, {[]uint64{0, top, 0}, top, true},
		{[]uint64{top - 1, 1}, top, true}, {[]uint64{half, half - 1}, top, true},
		{[]uint64{top, 1}, 0, false}, {[]uint64{1, top}, 0, false}, {[]uint64{half, half}, 0, false}, {[]uint64{top, top}, 0, false},
		{[]uint64{half, half, 5}, 0, false}, {[]uint64{5, half, half}, 0, false}, {[]uint64{top, 0, 1, 0}, 0, false},
		{[]uint64{top, 2, 3}, 0, false}, {[]uint64{half, half, half, half}, 0, false},
	}
	for _, row := range rows {
		if got, ok := Total(row.list); got != row.want || ok != row.ok {
			t.Errorf("Total(%v) = %d, %v, want %d, %v", row.list, got, ok, row.want, row.ok)
		}
	}
}

// P9.1, held against exact numbers.
func TestTotalExact(t *testing.T) {
	for _, list := range lists() {
		sum := ahead(list, len(list))
		want, ok := uint64(0), sum.IsUint64()
		if ok {
			want = sum.Uint64()
		}
		if got, is := Total(list); got != want || is != ok {
			t.Errorf("Total(%v) = %d, %v, want %d, %v", list, got, is, want, ok)
		}
	}
}

// P9.1: where weights lie, those of 0 too, and at the end of all numbers.
func TestSpansWrittenOut(t *testing.T) {
	rows := []struct {
		list []uint64
		want []Span
	}{
		{nil, nil}, {[]uint64{}, nil}, {[]uint64{0}, []Span{{0, 0}}}, {[]uint64{5}, []Span{{0, 5}}},
		{[]uint64{2, 0, 3}, []Span{{0, 2}, {2, 0}, {2, 3}}},
		{[]uint64{0, 0, 4, 0}, []Span{{0, 0}, {0, 0}, {0, 4}, {4, 0}}},
		{[]uint64{3, 2, 1}, []Span{{0, 3}, {3, 2}, {5, 1}}},
		{[]uint64{top}, []Span{{0, top}}}, {[]uint64{top, 0}, []Span{{0, top}, {top, 0}}},
		{[]uint64{half, half - 1}, []Span{{0, half}, {half, half - 1}}},
		{[]uint64{top - 1, 1, 0}, []Span{{0, top - 1}, {top - 1, 1}, {top, 0}}},
	}
	for _, row := range rows {
		if got, ok := Spans(row.list); !slices.Equal(got, row.want) || !ok {
			t.Errorf("Spans(%v) = %v, %v, want %v", row.list, got, ok, row.want)
		}
	}
}

// P9.1: each span begins at the sum of those ahead of it, and has as many numbers as the weight says.
func TestSpansExact(t *testing.T) {
	for _, list := range lists() {
		if !fits(list) {
			continue
		}
		got, ok := Spans(list)
		if len(got) != len(list) || !ok {
			t.Fatalf("Spans(%v) = %v, %v", list, got, ok)
		}
		for i, s := range got {
			if long(s.From).Cmp(ahead(list, i)) != 0 || s.Many != list[i] {
				t.Errorf("Spans(%v)[%d] = %v, want from %v", list, i, s, ahead(list, i))
			}
		}
	}
}

// P9.1: without a total there are no spans, and nothing else is told beside false.
func TestNoSpansWithoutATotal(t *testing.T) {
	for _, list := range lists() {
		if fits(list) {
			continue
		}
		if got, ok := Spans(list); len(got) != 0 || ok {
			t.Errorf("Spans(%v) = %v, %v", list, got, ok)
		}
	}
}

// P9.1: where a span begins and ends: also one that would end at 2^64, or beyond it.
func TestHas(t *testing.T) {
	rows := []struct {
		span Span
		r    uint64
		want bool
	}{
		{Span{}, 0, false}, {Span{}, 1, false}, {Span{}, top, false},
		{Span{0, 1}, 0, true}, {Span{0, 1}, 1, false}, {Span{0, 1}, top, false},
		{Span{2, 0}, 1, false}, {Span{2, 0}, 2, false}, {Span{2, 0}, 3, false},
		{Span{2, 3}, 0, false}, {Span{2, 3}, 1, false}, {Span{2, 3}, 2, true}, {Span{2, 3}, 4, true}, {Span{2, 3}, 5, false}, {Span{2, 3}, top, false},
		{Span{0, top}, 0, true}, {Span{0, top}, top - 1, true}, {Span{0, top}, top, false},
		{Span{half, half}, half - 1, false}, {Span{half, half}, half, true}, {Span{half, half}, top, true}, {Span{half, half}, 0, false},
		{Span{top, 0}, top, false}, {Span{top, 1}, top, true}, {Span{top, 1}, top - 1, false}, {Span{top, 1}, 0, false},
		{Span{top - 1, 5}, top - 2, false}, {Span{top - 1, 5}, top - 1, true}, {Span{top - 1, 5}, top, true},
		{Span{top - 1, 5}, 0, false}, {Span{top - 1, 5}, 2, false}, {Span{top, top}, top, true}, {Span{top, top}, top - 1, false},
		{Span{1, top}, 0, false}, {Span{1, top}, 1, true}, {Span{1, top}, top, true}, {Span{5, top}, 4, false}, {Span{5, top}, 5, true},
	}
	for _, row := range rows {
		if got := Has(row.span, row.r); got != row.want {
			t.Errorf("Has(%v, %d) = %v, want %v", row.span, row.r, got, row.want)
		}
	}
}

// P9.1, held against the document's words in exact numbers.
func TestHasExact(t *testing.T) {
	edges := []uint64{0, 1, 2, 5, 1 << 32, half - 1, half, half + 1, top - 2, top - 1, top}
	for _, from := range edges {
		for _, many := range edges {
			for _, r := range edges {
				difference := new(big.Int).Sub(long(r), long(from))
				want := difference.Sign() >= 0 && difference.Cmp(long(many)) < 0
				if got := Has(Span{From: from, Many: many}, r); got != want {
					t.Errorf("Has({%d %d}, %d) = %v, want %v", from, many, r, got, want)
				}
			}
		}
	}
}

// P9.2: whose span has a number; the document's example is among them.
func TestPickWrittenOut(t *testing.T) {
	rows := []struct {
		list []uint64
		r    uint64
		want int
	}{
		{[]uint64{2, 0, 3}, 0, 0}, {[]uint64{2, 0, 3}, 1, 0}, {[]uint64{2, 0, 3}, 2, 2}, {[]uint64{2, 0, 3}, 4, 2},
		{[]uint64{2, 0, 3}, 5, -1}, {[]uint64{2, 0, 3}, 6, -1}, {[]uint64{2, 0, 3}, top, -1},
		{nil, 0, -1}, {[]uint64{}, 0, -1}, {nil, top, -1}, {[]uint64{0}, 0, -1}, {[]uint64{0, 0}, 0, -1}, {[]uint64{0, 0}, 1, -1},
		{[]uint64{0, 1}, 0, 1}, {[]uint64{1, 0}, 0, 0}, {[]uint64{1, 0}, 1, -1}, {[]uint64{10, 20}, 9, 0}, {[]uint64{10, 20}, 10, 1},
		{[]uint64{10, 20}, 29, 1}, {[]uint64{10, 20}, 30, -1}, {[]uint64{1, 1, 1}, 1, 1},
		{[]uint64{top}, 0, 0}, {[]uint64{top}, top - 1, 0}, {[]uint64{top}, top, -1},
		{[]uint64{half, half - 1}, half - 1, 0}, {[]uint64{half, half - 1}, half, 1}, {[]uint64{half, half - 1}, top - 1, 1},
		{[]uint64{half, half - 1}, top, -1}, {[]uint64{top - 1, 1, 0}, top - 1, 1}, {[]uint64{top - 1, 1, 0}, top, -1},
	}
	for _, row := range rows {
		checkPick(t, row.list, row.r, row.want)
	}
}

// P9.2: where the sum does not fit nobody is picked, whatever the number is: also one that the first weights have.
func TestPickWithoutATotal(t *testing.T) {
	source := rand.New(rand.NewSource(91))
	for _, list := range unfitting() {
		for _, r := range near(source, list) {
			checkPick(t, list, r, -1)
		}
	}
}

// P9.2, held against exact numbers.
func TestPickExact(t *testing.T) {
	source := rand.New(rand.NewSource(92))
	for _, list := range lists() {
		for _, r := range near(source, list) {
			checkPick(t, list, r, picked(list, r))
		}
	}
}

// P9.2: numbers ahead of a weight that is taken away, in it, and behind it.
func TestShiftWrittenOut(t *testing.T) {
	three := []uint64{2, 4, 3}
	rows := []struct {
		list    []uint64
		i       int
		r, want uint64
		ok      bool
	}{
		{three, 1, 0, 0, true}, {three, 1, 1, 1, true}, {three, 1, 2, 0, false}, {three, 1, 5, 0, false}, {three, 1, 6, 2, true}, {three, 1, 8, 4, true},
		{three, 0, 0, 0, false}, {three, 0, 1, 0, false}, {three, 0, 2, 0, true}, {three, 0, 8, 6, true},
		{three, 2, 0, 0, true}, {three, 2, 5, 5, true}, {three, 2, 6, 0, false}, {three, 2, 8, 0, false},
		{three, 0, 9, 0, false}, {three, 1, 9, 0, false}, {three, 2, 9, 0, false}, {three, 1, top, 0, false},
		{three, -1, 0, 0, false}, {three, 3, 0, 0, false}, {three, math.MinInt, 8, 0, false}, {three, math.MaxInt, 8, 0, false},
		{[]uint64{2, 0, 3}, 1, 1, 1, true}, {[]uint64{2, 0, 3}, 1, 2, 2, true}, {[]uint64{2, 0, 3}, 1, 4, 4, true}, {[]uint64{2, 0, 3}, 1, 5, 0, false},
		{[]uint64{0, 3}, 0, 0, 0, true}, {[]uint64{3, 0}, 1, 2, 2, true}, {[]uint64{3, 0}, 1, 3, 0, false},
		{nil, 0, 0, 0, false}, {[]uint64{}, -1, 0, 0, false}, {[]uint64{0}, 0, 0, 0, false}, {[]uint64{5}, 0, 4, 0, false}, {[]uint64{5}, 0, 5, 0, false},
		{[]uint64{half, half - 1}, 0, half, 0, true}, {[]uint64{half, half - 1}, 0, top - 1, half - 2, true}, {[]uint64{half, half - 1}, 0, top, 0, false},
		{[]uint64{half, half - 1}, 1, half - 1, half - 1, true}, {[]uint64{half, half - 1}, 1, half, 0, false},
		{[]uint64{top - 1, 1}, 0, top - 1, 0, true}, {[]uint64{1, top - 1}, 0, top - 1, top - 2, true},
		{[]uint64{top, 1}, 0, 0, 0, false}, {[]uint64{top, 1}, 1, 0, 0, false}, {[]uint64{2, 3, top}, 2, 0, 0, false}, {[]uint64{2, 3, top}, 0, 4, 0, false},
	}
	for _, row := range rows {
		checkShift(t, row.list, row.i, row.r, row.want, row.ok)
	}
}

// P9.2: where the sum does not fit nothing is shifted, though it might fit without the weight.
func TestShiftWithoutATotal(t *testing.T) {
	source := rand.New(rand.NewSource(93))
	for _, list := range unfitting() {
		for _, i := range places(list) {
			for _, r := range near(source, list) {
				checkShift(t, list, i, r, 0, false)
			}
		}
	}
}

// P9.2: a number less what of the span is ahead of it, held against exact numbers.
func TestShiftExact(t *testing.T) {
	source := rand.New(rand.NewSource(94))
	for _, list := range lists() {
		for _, i := range places(list) {
			for _, r := range near(source, list) {
				at := picked(list, r)
				ok := at >= 0 && i >= 0 && i < len(list) && at != i
				want := uint64(0)
				if ok {
					// What is ahead of a number, of the span itself, is nothing or all of it, for the number is not in it.
					want = r
					if ahead(list, i).Cmp(long(r)) <= 0 {
						want -= list[i]
					}
				}
				checkShift(t, list, i, r, want, ok)
			}
		}
	}
}

// P9.3: each number below the total is in just one span, that of who is picked; none beyond is in any, and a weight of 0 has none.
func TestEachNumberIsInOneSpan(t *testing.T) {
	for _, list := range fitting() {
		total, _ := Total(list)
		if total > 100 {
			continue
		}
		spans, _ := Spans(list)
		had := make([]uint64, len(list))
		for r := range total + 3 {
			var in []int
			for i, s := range spans {
				if Has(s, r) {
					in = append(in, i)
					had[i]++
				}
			}
			if r >= total {
				in = append(in, -1)
			}
			if len(in) != 1 {
				t.Fatalf("of %v the spans %v have %d", list, in, r)
			}
			checkPick(t, list, r, in[0])
		}
		if !slices.Equal(had, list) {
			t.Errorf("the spans of %v have %v numbers", list, had)
		}
	}
}

// P9.3: the same of great weights, at the numbers where spans meet.
func TestPickedIsWhoseSpanHasIt(t *testing.T) {
	source := rand.New(rand.NewSource(95))
	for _, list := range lists() {
		spans, _ := Spans(list)
		for _, r := range near(source, list) {
			at, ok := Pick(list, r)
			if ok && list[at] == 0 {
				t.Fatalf("Pick(%v, %d) = %d, which has no number", list, r, at)
			}
			for i, s := range spans {
				if Has(s, r) != (ok && i == at) {
					t.Fatalf("of %v the span %d has %d: %v; picked is %d, %v", list, i, r, Has(s, r), at, ok)
				}
			}
		}
	}
}

// P9.2, P9.3: what is shifted picks, of the list without the weight, whom it picked before.
func TestShiftPicksTheSame(t *testing.T) {
	source := rand.New(rand.NewSource(96))
	for _, list := range lists() {
		for i := range list {
			rest := without(list, i)
			for _, r := range near(source, list) {
				shifted, ok := Shift(list, i, r)
				if !ok {
					continue
				}
				checkPick(t, rest, shifted, picked(list, r))
			}
		}
	}
}

// P9.3: a weight that is taken away moves the others' numbers to all below the total that is left, in their order, each once.
func TestShiftMovesTheOthers(t *testing.T) {
	for _, list := range fitting() {
		total, _ := Total(list)
		if total > 100 {
			continue
		}
		for i := range list {
			next := uint64(0)
			for r := range total + 3 {
				if at := picked(list, r); at < 0 || at == i {
					checkShift(t, list, i, r, 0, false)
					continue
				}
				checkShift(t, list, i, r, next, true)
				next++
			}
			if next != total-list[i] {
				t.Errorf("of %v without %d there are %d numbers", list, i, next)
			}
		}
	}
}

// P9.1, P9.2: what is handed in stays as it is, behind its end too, and spans are new memory (R5).
func TestListsAreLeftAlone(t *testing.T) {
	list := []uint64{2, 4, 3, 7, 8}
	first, _ := Spans(list[:3])
	second, _ := Spans(list[:3])
	Total(list[:3])
	Pick(list[:3], 8)
	Shift(list[:3], 1, 8)
	if !slices.Equal(list, []uint64{2, 4, 3, 7, 8}) {
		t.Fatalf("the list is now %v", list)
	}
	want := []Span{{0, 2}, {2, 4}, {6, 3}}
	first[0], list[1] = Span{9, 9}, 5
	if !slices.Equal(second, want) {
		t.Errorf("the spans are now %v", second)
	}
	list[1] = 4
	if third, _ := Spans(list[:3]); !slices.Equal(third, want) {
		t.Errorf("the spans are now %v", third)
	}
}

// P9.1, P9.2: a list as long as may be.
func TestManyWeights(t *testing.T) {
	const many = 1 << 21
	list := make([]uint64, many)
	for i := range list {
		list[i] = 1 << 43
	}
	if total, ok := Total(list); total != 0 || ok {
		t.Errorf("Total = %d, %v", total, ok)
	}
	checkPick(t, list, 0, -1)
	list[many-1]--
	if total, ok := Total(list); total != top || !ok {
		t.Errorf("Total = %d, %v", total, ok)
	}
	spans, ok := Spans(list)
	if last := spans[many-1]; !ok || last != (Span{From: top - (1<<43 - 1), Many: 1<<43 - 1}) {
		t.Errorf("the last span is %v", last)
	}
	checkPick(t, list, top-1, many-1)
	checkPick(t, list, top, -1)
	checkShift(t, list, 0, top-1, top-1-1<<43, true)
}
