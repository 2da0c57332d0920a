package tree

import (
	"math"
	"math/big"
	"math/rand"
	"slices"
	"testing"

	"tombola/api"
	"tombola/span"
)

const (
	top  = math.MaxUint64
	half = 1 << 63
)

// sizes are how many places a tree may have: the edges of each height, and others.
func sizes() []int {
	return []int{1, 2, 3, 4, 5, 6, 7, 8, 9, 13, 31, 32, 33, 63, 64, 65, 100, 1000, 1024, 1025, 2048, 2049, 4095, 4096}
}

// made is a tree of so many places.
func made(t *testing.T, n int) *Tree {
	t.Helper()
	x, err := New(n)
	if x == nil || err != api.OK {
		t.Fatalf("New(%d) = %v, %v", n, x, err)
	}
	return x
}

// filled is a tree of these weights, one place for each.
func filled(t *testing.T, l ...uint64) *Tree {
	t.Helper()
	x := made(t, len(l))
	if err := x.Fill(l); err != api.OK {
		t.Fatalf("Fill(%v) = %v", l, err)
	}
	return x
}

// fits tells whether the sum is below 2^64.
func fits(l []uint64) bool {
	sum := new(big.Int)
	for _, weight := range l {
		sum.Add(sum, new(big.Int).SetUint64(weight))
	}
	return sum.IsUint64()
}

// height is the least h of which n is at most 2^h.
func height(n int) int {
	h := 0
	for n > 1<<h {
		h++
	}
	return h
}

// check holds all that a tree tells, but whose span has a number, against the weights it ought to have.
func check(t *testing.T, x *Tree, l []uint64) {
	t.Helper()
	if got := x.All(); !slices.Equal(got, l) {
		t.Fatalf("All() = %v, want %v", got, l)
	}
	if x.Len() != len(l) || x.Height() != height(len(l)) {
		t.Fatalf("of %d places: Len() = %d, Height() = %d", len(l), x.Len(), x.Height())
	}
	sum := uint64(0)
	for i, weight := range l {
		if x.Get(i) != weight || x.Ahead(i) != sum {
			t.Fatalf("of %v: Get(%d) = %d, Ahead = %d, want %d, %d", l, i, x.Get(i), x.Ahead(i), weight, sum)
		}
		sum += weight
	}
	for _, i := range []int{len(l), len(l) + 1, 2 * len(l), api.MaxSlots, 2 * api.MaxSlots, math.MaxInt} {
		if i >= len(l) && (x.Get(i) != 0 || x.Ahead(i) != sum) {
			t.Fatalf("of %v: Get(%d) = %d, Ahead = %d, want 0, %d", l, i, x.Get(i), x.Ahead(i), sum)
		}
	}
	for _, i := range []int{-1, -2, -len(l), -api.MaxSlots, math.MinInt} {
		if x.Get(i) != 0 || x.Ahead(i) != 0 {
			t.Fatalf("of %v: Get(%d) = %d, Ahead = %d, want 0", l, i, x.Get(i), x.Ahead(i))
		}
	}
	if x.Total() != sum {
		t.Fatalf("of %v: Total() = %d, want %d", l, x.Total(), sum)
	}
}

// checkFind holds Find, and the sums that it read, against what they ought to be.
func checkFind(t *testing.T, x *Tree, r uint64, want int) {
	t.Helper()
	steps := x.Steps()
	if want >= 0 {
		steps = x.Height() + 1
	}
	if got, ok := x.Find(r); got != want || ok != (want >= 0) || x.Steps() != steps {
		t.Fatalf("of %v: Find(%d) = %d, %v in %d steps, want %d in %d", x.All(), r, got, ok, x.Steps(), want, steps)
	}
}

// checkSet holds Set, and the sums that it wrote, against what they ought to be.
func checkSet(t *testing.T, x *Tree, i int, w uint64, want api.Errno) {
	t.Helper()
	steps := x.Steps()
	if want == api.OK {
		steps = x.Height() + 1
	}
	if got := x.Set(i, w); got != want || x.Steps() != steps {
		t.Fatalf("of %v: Set(%d, %d) = %v in %d steps, want %v in %d", x.All(), i, w, got, x.Steps(), want, steps)
	}
}

// checkGrow holds Grow, which writes and reads no sum that is counted, against what it ought to be.
func checkGrow(t *testing.T, x *Tree, n int, want api.Errno) {
	t.Helper()
	steps, before := x.Steps(), x.Len()
	if got := x.Grow(n); got != want || x.Steps() != steps {
		t.Fatalf("of %d places: Grow(%d) = %v, Steps() = %d, want %v, %d", before, n, got, x.Steps(), want, steps)
	}
}

// checkFill holds Fill, which writes and reads no sum that is counted, against what it ought to be.
func checkFill(t *testing.T, x *Tree, l []uint64, want api.Errno) {
	t.Helper()
	steps := x.Steps()
	if got := x.Fill(l); got != want || x.Steps() != steps {
		t.Fatalf("of %d places: Fill(%v) = %v, Steps() = %d, want %v, %d", x.Len(), l, got, x.Steps(), want, steps)
	}
}

// near are the numbers next to where a list's spans begin and end, and others.
func near(source *rand.Rand, l []uint64) []uint64 {
	out := []uint64{0, 1, 2, half - 1, half, half + 1, top - 1, top, source.Uint64()}
	from := uint64(0)
	for _, weight := range l {
		from += weight
		out = append(out, from-1, from, from+1)
	}
	return out
}

// checkFinds holds Find against span.Pick of all weights.
func checkFinds(t *testing.T, source *rand.Rand, x *Tree, l []uint64) {
	t.Helper()
	numbers := near(source, l)
	source.Shuffle(len(numbers), func(i, j int) { numbers[i], numbers[j] = numbers[j], numbers[i] })
	for _, r := range numbers[:min(len(numbers), 40)] {
		want, _ := span.Pick(l, r)
		checkFind(t, x, r, want)
	}
}

// weight is one of any length in bits, often 0, and at times one that fits nowhere.
func weight(source *rand.Rand) uint64 {
	switch source.Intn(8) {
	case 0, 1:
		return 0
	case 2:
		return top
	}
	return source.Uint64() >> source.Intn(64)
}

// P10.1: how many places there may be; of a new tree all weights are 0, and nothing was written or read.
func TestNew(t *testing.T) {
	for _, n := range []int{0, -1, -4096, math.MinInt, 4097, 8192, math.MaxInt} {
		if x, err := New(n); x != nil || err != api.ErrArg {
			t.Errorf("New(%d) = %v, %v", n, x, err)
		}
	}
	for _, n := range sizes() {
		x := made(t, n)
		check(t, x, make([]uint64, n))
		if x.Steps() != 0 {
			t.Errorf("New(%d) has made %d steps", n, x.Steps())
		}
		checkFind(t, x, 0, -1)
		checkFind(t, x, top, -1)
	}
}

// P10.1: the document's example, and all that is asked of it.
func TestWrittenOut(t *testing.T) {
	x := made(t, 3)
	checkSet(t, x, 0, 2, api.OK)
	checkSet(t, x, 2, 3, api.OK)
	check(t, x, []uint64{2, 0, 3})
	for r, want := range []int{0, 0, 2, 2, 2, -1, -1} {
		checkFind(t, x, uint64(r), want)
	}
	checkSet(t, x, 1, 4, api.OK)
	check(t, x, []uint64{2, 4, 3})
	for r, want := range []int{0, 0, 1, 1, 1, 1, 2, 2, 2, -1} {
		checkFind(t, x, uint64(r), want)
	}
	checkSet(t, x, 0, 0, api.OK)
	check(t, x, []uint64{0, 4, 3})
	for r, want := range []int{1, 1, 1, 1, 2, 2, 2, -1} {
		checkFind(t, x, uint64(r), want)
	}
	if got := []uint64{x.Ahead(0), x.Ahead(1), x.Ahead(2), x.Ahead(3), x.Ahead(4)}; !slices.Equal(got, []uint64{0, 0, 4, 7, 7}) {
		t.Errorf("Ahead = %v", got)
	}
}

// P10.1: a place that there is not, whatever weight is told: it stands ahead of a sum that does not fit.
func TestSetBesideThePlaces(t *testing.T) {
	for _, n := range sizes() {
		x := made(t, n)
		checkSet(t, x, 0, half, api.OK)
		want := x.All()
		for _, i := range []int{-1, -n, math.MinInt, n, n + 1, 2 * n, 8192, math.MaxInt} {
			for _, w := range []uint64{0, 1, half, top} {
				checkSet(t, x, i, w, api.ErrRange)
			}
		}
		check(t, x, want)
	}
}

// P10.1: the greatest sum that fits, and the least one that does not; the weight that a place had counts no more.
func TestSetAtTheEnd(t *testing.T) {
	x := made(t, 3)
	checkSet(t, x, 1, top, api.OK)
	checkSet(t, x, 1, top, api.OK)
	checkSet(t, x, 0, 0, api.OK)
	checkSet(t, x, 0, 1, api.ErrOverflow)
	checkSet(t, x, 2, top, api.ErrOverflow)
	check(t, x, []uint64{0, top, 0})
	checkFind(t, x, top-1, 1)
	checkFind(t, x, top, -1)
	checkSet(t, x, 1, top-5, api.OK)
	checkSet(t, x, 2, 6, api.ErrOverflow)
	checkSet(t, x, 2, 5, api.OK)
	checkSet(t, x, 0, 1, api.ErrOverflow)
	checkSet(t, x, 1, top-4, api.ErrOverflow)
	check(t, x, []uint64{0, top - 5, 5})
	checkFind(t, x, top-6, 1)
	checkFind(t, x, top-5, 2)
	checkFind(t, x, top-1, 2)
	checkFind(t, x, top, -1)
	y := filled(t, half, half-1)
	checkSet(t, y, 1, half, api.ErrOverflow)
	checkSet(t, y, 0, half+1, api.ErrOverflow)
	checkSet(t, y, 0, top, api.ErrOverflow)
	check(t, y, []uint64{half, half - 1})
	checkSet(t, y, 0, half-1, api.OK)
	checkSet(t, y, 1, half, api.OK)
	check(t, y, []uint64{half - 1, half})
	checkFind(t, y, half-2, 0)
	checkFind(t, y, half-1, 1)
}

// P10.1: one place alone, whose sum is the total.
func TestOnePlace(t *testing.T) {
	x := made(t, 1)
	checkSet(t, x, 0, top, api.OK)
	check(t, x, []uint64{top})
	checkFind(t, x, 0, 0)
	checkFind(t, x, top-1, 0)
	checkFind(t, x, top, -1)
	checkSet(t, x, 0, 0, api.OK)
	check(t, x, []uint64{0})
	checkFind(t, x, 0, -1)
	checkSet(t, x, 1, 0, api.ErrRange)
}

// P10.2: no fewer places than before, and no more than there may be; new ones have the weight 0, the others theirs.
func TestGrow(t *testing.T) {
	source := rand.New(rand.NewSource(102))
	for _, n := range sizes() {
		for _, more := range sizes() {
			x := made(t, n)
			checkSet(t, x, n-1, 7, api.OK)
			checkSet(t, x, n/2, 5, api.OK)
			want := x.All()
			for _, wrong := range []int{n - 1, 0, -1, math.MinInt, 4097, math.MaxInt} {
				checkGrow(t, x, wrong, api.ErrArg)
			}
			check(t, x, want)
			if more < n {
				checkGrow(t, x, more, api.ErrArg)
				check(t, x, want)
				continue
			}
			checkGrow(t, x, more, api.OK)
			want = append(want, make([]uint64, more-n)...)
			check(t, x, want)
			checkFinds(t, source, x, want)
		}
	}
}

// P10.2: a tree that grows again and again, and whose new places get weights.
func TestGrowAgain(t *testing.T) {
	source := rand.New(rand.NewSource(103))
	x, want := made(t, 1), []uint64{0}
	for _, n := range sizes() {
		checkGrow(t, x, n, api.OK)
		checkGrow(t, x, n, api.OK)
		want = append(want, make([]uint64, n-len(want))...)
		check(t, x, want)
		for _, i := range []int{n - 1, n / 2, source.Intn(n)} {
			want[i] = source.Uint64() >> 20
			checkSet(t, x, i, want[i], api.OK)
		}
		check(t, x, want)
		checkFinds(t, source, x, want)
	}
	checkGrow(t, x, 4097, api.ErrArg)
	check(t, x, want)
}

// P10.2: the first places get what is told, all others 0; no weights at all are none of the others' either.
func TestFill(t *testing.T) {
	x := made(t, 5)
	for _, list := range [][]uint64{
		{1, 2, 3, 4, 5}, {9}, {0, 7}, {}, {5, 4, 3, 2, 1}, nil, {0, 0, 0, 0, 0}, {0, 0, 0, 0, 8}, {1, 1, 1}, {top}, {0, 0, half, half - 1},
		{0, 0, 0, 0, top}, {3, 0, 3, 0},
	} {
		checkFill(t, x, list, api.OK)
		want := append(slices.Clone(list), make([]uint64, 5-len(list))...)
		check(t, x, want)
		checkFinds(t, rand.New(rand.NewSource(104)), x, want)
	}
}

// P10.2: more weights than places, whatever their sum is; and a sum that does not fit, though those that fall away are great.
func TestFillRefused(t *testing.T) {
	x := filled(t, top-3, 1, 2)
	want := x.All()
	for _, list := range [][]uint64{{1, 2, 3, 4}, {0, 0, 0, 0}, {top, 1, 0, 0}, {top, top, top, top}, make([]uint64, 4097)} {
		checkFill(t, x, list, api.ErrRange)
	}
	for _, list := range [][]uint64{{top, 1}, {1, top}, {half, half}, {half, 0, half}, {top, top, 2}, {top, top, top}, {5, top - 5, 1}} {
		checkFill(t, x, list, api.ErrOverflow)
	}
	check(t, x, want)
	checkFill(t, x, []uint64{5, top - 5}, api.OK)
	check(t, x, []uint64{5, top - 5, 0})
}

// P10.2: trees of all sizes are filled, in part and as a whole, and filled again.
func TestFillAll(t *testing.T) {
	source := rand.New(rand.NewSource(105))
	for _, n := range sizes() {
		x := made(t, n)
		for _, many := range []int{n, n / 2, n - 1, 0, n} {
			list := make([]uint64, n)
			for i := range many {
				list[i] = source.Uint64() >> (12 + source.Intn(52))
			}
			checkFill(t, x, list[:many], api.OK)
			check(t, x, list)
			checkFinds(t, source, x, list)
		}
		checkFill(t, x, make([]uint64, n+1), api.ErrRange)
	}
}

// P10.2: the least h of which n is at most 2^h, for each n.
func TestHeight(t *testing.T) {
	for n := 1; n <= api.MaxSlots; n++ {
		if got := made(t, n).Height(); n > 1<<got || got > 0 && n <= 1<<(got-1) {
			t.Errorf("New(%d).Height() = %d", n, got)
		}
	}
}

// P10.2: none yet; then those of the last Set or Find that did something, and no other call's.
func TestSteps(t *testing.T) {
	x := made(t, 1)
	want := func(steps int, what string) {
		t.Helper()
		if x.Steps() != steps {
			t.Errorf("behind %s: Steps() = %d, want %d", what, x.Steps(), steps)
		}
	}
	x.Set(1, 0)
	x.Set(-1, 0)
	x.Find(0)
	x.Fill([]uint64{1, 2})
	x.Fill([]uint64{0})
	x.Grow(0)
	x.Grow(1)
	want(0, "nothing that was done")
	x.Set(0, 0)
	want(1, "a weight that stays")
	x.Grow(4096)
	x.Fill([]uint64{4, 0, 3})
	x.Set(4096, 1)
	x.Set(1, top)
	x.Find(7)
	x.Get(1)
	x.Ahead(5)
	x.Total()
	x.All()
	want(1, "others' calls")
	x.Find(6)
	want(13, "a place that was found in a greater tree")
	x = filled(t, 1, 2, 3)
	want(0, "a tree that was filled")
	x.Find(5)
	want(3, "a place that was found")
	x.Grow(8)
	want(3, "a tree that grew")
	x.Set(2, 3)
	want(4, "a weight that stays in a greater tree")
}

// P10.2: one sum at least, and at most the height and 1: of each place of trees of all sizes.
func TestStepsAreFew(t *testing.T) {
	few := func(x *Tree) {
		t.Helper()
		if x.Steps() < 1 || x.Steps() > x.Height()+1 {
			t.Fatalf("of %d places: Steps() = %d", x.Len(), x.Steps())
		}
	}
	for _, n := range sizes() {
		x := made(t, n)
		for i := range n {
			x.Set(i, uint64(i%3))
			few(x)
			x.Set(i, uint64(i%3))
			few(x)
		}
		for r := range x.Total() {
			x.Find(r)
			few(x)
		}
	}
}

// P10.3: a nil tree, whatever it is asked.
func TestNil(t *testing.T) {
	var x *Tree
	for _, i := range []int{math.MinInt, -1, 0, 1, 4096, 4097, math.MaxInt} {
		for _, w := range []uint64{0, 1, top} {
			if err := x.Set(i, w); err != api.ErrNil {
				t.Errorf("Set(%d, %d) = %v", i, w, err)
			}
			if at, ok := x.Find(w); at != -1 || ok {
				t.Errorf("Find(%d) = %d, %v", w, at, ok)
			}
		}
		if err := x.Grow(i); err != api.ErrNil {
			t.Errorf("Grow(%d) = %v", i, err)
		}
		if x.Get(i) != 0 || x.Ahead(i) != 0 {
			t.Errorf("Get(%d) = %d, Ahead = %d", i, x.Get(i), x.Ahead(i))
		}
	}
	for _, list := range [][]uint64{nil, {}, {1}, {top, 1}, make([]uint64, 4097)} {
		if err := x.Fill(list); err != api.ErrNil {
			t.Errorf("Fill of %d = %v", len(list), err)
		}
	}
	if x.Len() != 0 || x.Total() != 0 || x.Height() != 0 || x.Steps() != 0 || len(x.All()) != 0 {
		t.Errorf("a nil tree tells %d, %d, %d, %d, %v", x.Len(), x.Total(), x.Height(), x.Steps(), x.All())
	}
}

// P10.4: each number below the total finds just one place, each place as many as its weight; one of the weight 0 none.
func TestEachNumberFindsOnePlace(t *testing.T) {
	source := rand.New(rand.NewSource(106))
	for _, n := range sizes() {
		x := made(t, n)
		want := make([]uint64, n)
		for i := range want {
			if source.Intn(2) == 0 {
				want[i] = uint64(source.Intn(5))
			}
			checkSet(t, x, i, want[i], api.OK)
		}
		had := make([]uint64, n)
		for r := range x.Total() {
			at, ok := x.Find(r)
			if !ok || at < 0 || at >= n || r < x.Ahead(at) || r-x.Ahead(at) >= want[at] {
				t.Fatalf("of %v: Find(%d) = %d, %v", want, r, at, ok)
			}
			had[at]++
		}
		if !slices.Equal(had, want) {
			t.Errorf("%v have %v numbers", want, had)
		}
		checkFind(t, x, x.Total(), -1)
		checkFind(t, x, top, -1)
	}
}

// P10.4: places of the weight 0 on all sides of one that has all of it.
func TestOneWeightAlone(t *testing.T) {
	for _, n := range sizes() {
		for _, i := range []int{0, 1, n / 3, n / 2, n - 2, n - 1} {
			if i < 0 || i >= n {
				continue
			}
			x := made(t, n)
			checkSet(t, x, i, top, api.OK)
			for _, r := range []uint64{0, 1, half, top - 1} {
				checkFind(t, x, r, i)
			}
			checkFind(t, x, top, -1)
			checkSet(t, x, i, 0, api.OK)
			checkFind(t, x, 0, -1)
			check(t, x, make([]uint64, n))
		}
	}
}

// step does one call of any kind to a tree, and answers the weights that it ought to have then.
func step(t *testing.T, source *rand.Rand, x *Tree, l []uint64) []uint64 {
	t.Helper()
	switch source.Intn(12) {
	case 0:
		n := len(l) + source.Intn(2+len(l)/2) - 1
		if n < len(l) || n > api.MaxSlots {
			checkGrow(t, x, n, api.ErrArg)
			return l
		}
		checkGrow(t, x, n, api.OK)
		return append(l, make([]uint64, n-len(l))...)
	case 1:
		next := make([]uint64, source.Intn(len(l)+2))
		for i := range next {
			next[i] = weight(source) >> source.Intn(8)
		}
		return checkRefill(t, x, l, next)
	}
	i, w := source.Intn(len(l)+2)-1, weight(source)
	if i < 0 || i >= len(l) {
		checkSet(t, x, i, w, api.ErrRange)
		return l
	}
	next := slices.Clone(l)
	next[i] = w
	if !fits(next) {
		checkSet(t, x, i, w, api.ErrOverflow)
		return l
	}
	checkSet(t, x, i, w, api.OK)
	return next
}

// checkRefill fills a tree, if that can be, and answers the weights that it ought to have then.
func checkRefill(t *testing.T, x *Tree, l, next []uint64) []uint64 {
	t.Helper()
	if len(next) > len(l) {
		checkFill(t, x, next, api.ErrRange)
		return l
	}
	if !fits(next) {
		checkFill(t, x, next, api.ErrOverflow)
		return l
	}
	checkFill(t, x, next, api.OK)
	return append(next, make([]uint64, len(l)-len(next))...)
}

// P10.1, P10.2, P10.4: all calls one behind the other, held against a list of weights and exact sums.
func TestAllCalls(t *testing.T) {
	for seed := range int64(60) {
		source := rand.New(rand.NewSource(1000 + seed))
		n := 1 + source.Intn(1+source.Intn(40))
		x, want := made(t, n), make([]uint64, n)
		for range 150 {
			want = step(t, source, x, want)
			check(t, x, want)
			checkFinds(t, source, x, want)
		}
	}
}

// P10.1, P10.2: what is handed in stays as it is, and is not kept; what is answered is new memory (R5).
func TestListsAreLeftAlone(t *testing.T) {
	list := []uint64{2, 4, 3, 7, 8}
	x := made(t, 5)
	checkFill(t, x, list[:3], api.OK)
	if !slices.Equal(list, []uint64{2, 4, 3, 7, 8}) {
		t.Fatalf("the list is now %v", list)
	}
	list[0] = 9
	want := []uint64{2, 4, 3, 0, 0}
	check(t, x, want)
	first, second := x.All(), x.All()
	first[1] = 9
	_ = append(first[:2], 9, 9, 9, 9, 9)
	check(t, x, want)
	if !slices.Equal(second, want) {
		t.Errorf("the weights are now %v", second)
	}
	checkSet(t, x, 0, 1, api.OK)
	if !slices.Equal(second, want) {
		t.Errorf("the weights are now %v", second)
	}
}

// P10.1: what is done to one tree does not show at another one.
func TestTreesAreApart(t *testing.T) {
	x, y := filled(t, 1, 2, 3), filled(t, 1, 2, 3)
	checkSet(t, x, 0, 5, api.OK)
	checkGrow(t, x, 4, api.OK)
	check(t, y, []uint64{1, 2, 3})
	checkFind(t, y, 0, 0)
	check(t, x, []uint64{5, 2, 3, 0})
	checkFind(t, y, 1, 1)
	if x.Steps() != 3 || y.Steps() != 3 {
		t.Errorf("%d and %d steps", x.Steps(), y.Steps())
	}
}
