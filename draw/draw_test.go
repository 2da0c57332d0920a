package draw

import (
	"math"
	"math/big"
	"math/rand"
	"slices"
	"testing"

	"tombola/api"
	"tombola/words"
)

const (
	top   = math.MaxUint64
	half  = 1 << 63
	third = 6148914691236517205
)

// totals are the edges, and numbers of every length in bits; 0 is none of them.
func totals() []uint64 {
	source := rand.New(rand.NewSource(8))
	out := []uint64{
		1, 2, 3, 4, 5, 6, 7, 10, 120, 641, 1 << 20, 1<<32 - 1, 1 << 32, 1<<32 + 1,
		third - 1, third, third + 1, half - 1, half, half + 1, top - 2, top - 1, top,
	}
	for shift := range 64 {
		out = append(out, source.Uint64()>>shift|1, source.Uint64()>>shift|1)
	}
	return out
}

// around are the words next to a total, to its multiples, and to where words are left out, and words of every length.
func around(source *rand.Rand, t uint64) []uint64 {
	out := []uint64{0, 1, 2, top - 2, top - 1, top, half - 1, half, half + 1}
	first := -(-t % t)
	for _, near := range []uint64{t, 2 * t, 3 * t, t * (source.Uint64() / t), first} {
		out = append(out, near-2, near-1, near, near+1, near+2)
	}
	for shift := range 64 {
		out = append(out, source.Uint64()>>shift, top-source.Uint64()>>shift)
	}
	return out
}

func long(n uint64) *big.Int {
	return new(big.Int).SetUint64(n)
}

// allWords is how many words there are.
func allWords() *big.Int {
	return new(big.Int).Lsh(big.NewInt(1), 64)
}

func longWide(n api.Wide) *big.Int {
	out := new(big.Int).Lsh(long(n.Hi), 64)
	return out.Add(out, long(n.Lo))
}

// told is what a word ought to tell, as the document says it.
func told(t, w uint64) (uint64, bool) {
	if t == 0 {
		return 0, false
	}
	limit := allWords()
	limit.Sub(limit, new(big.Int).Mod(limit, long(t)))
	if long(w).Cmp(limit) >= 0 {
		return 0, false
	}
	return new(big.Int).Mod(long(w), long(t)).Uint64(), true
}

// checkTold holds both calls that look at one word against what it ought to tell.
func checkTold(t *testing.T, total, word, want uint64, ok bool) {
	t.Helper()
	if got := Taken(total, word); got != ok {
		t.Fatalf("Taken(%d, %d) = %v, want %v", total, word, got, ok)
	}
	if got, is := Tell(total, word); got != want || is != ok {
		t.Fatalf("Tell(%d, %d) = %d, %v, want %d, %v", total, word, got, is, want, ok)
	}
}

// checkWord holds Word against what it ought to answer.
func checkWord(t *testing.T, total, number, k, want uint64, ok bool) {
	t.Helper()
	if got, is := Word(total, number, k); got != want || is != ok {
		t.Fatalf("Word(%d, %d, %d) = %d, %v, want %d, %v", total, number, k, got, is, want, ok)
	}
}

// checkFrom draws a number off a source, which ought to answer so, and to be at that place then.
func checkFrom(t *testing.T, s *words.Source, total, want uint64, err api.Errno, at int) {
	t.Helper()
	if got, is := From(s, total); got != want || is != err {
		t.Fatalf("From(%v, %d) = %d, %d, want %d, %d", s.All(), total, got, int(is), want, int(err))
	}
	if s.At() != at {
		t.Fatalf("after From(%v, %d) the place is %d, want %d", s.All(), total, s.At(), at)
	}
}

// P8.1: what 2^64 leaves.
func TestRestWrittenOut(t *testing.T) {
	rows := []struct{ total, want uint64 }{
		{0, 0}, {1, 0}, {2, 0}, {3, 1}, {4, 0}, {5, 1}, {6, 4}, {7, 2}, {9, 7}, {10, 6}, {11, 5}, {100, 16}, {120, 16}, {641, 1},
		{1 << 20, 0}, {1<<32 - 1, 1}, {1 << 32, 0}, {1<<32 + 1, 1},
		{third - 1, 4}, {third, 1}, {third + 1, third - 1},
		{half - 1, 2}, {half, 0}, {half + 1, half - 1}, {top - 1, 2}, {top, 1},
	}
	for _, row := range rows {
		if got := Rest(row.total); got != row.want {
			t.Errorf("Rest(%d) = %d, want %d", row.total, got, row.want)
		}
	}
}

// P8.1, held against exact numbers.
func TestRestExact(t *testing.T) {
	for _, total := range totals() {
		want := new(big.Int).Mod(allWords(), long(total))
		if got := Rest(total); long(got).Cmp(want) != 0 {
			t.Errorf("Rest(%d) = %d, want %v", total, got, want)
		}
	}
}

// P8.1: what is taken, and what it tells.
func TestTellWrittenOut(t *testing.T) {
	rows := []struct {
		total, word, want uint64
		ok                bool
	}{
		{1, 0, 0, true}, {1, 5, 0, true}, {1, top, 0, true},
		{2, 0, 0, true}, {2, 1, 1, true}, {2, top - 1, 0, true}, {2, top, 1, true},
		{3, 0, 0, true}, {3, 5, 2, true}, {3, top - 3, 0, true}, {3, top - 1, 2, true}, {3, top, 0, false},
		{6, top - 4, 5, true}, {6, top - 3, 0, false}, {6, top - 2, 0, false}, {6, top, 0, false},
		{10, 9, 9, true}, {10, 10, 0, true}, {10, 123, 3, true}, {10, top - 6, 9, true}, {10, top - 5, 0, false},
		{1 << 32, 1<<32 - 1, 1<<32 - 1, true}, {1 << 32, 1 << 32, 0, true}, {1 << 32, top, 1<<32 - 1, true},
		{half, half - 1, half - 1, true}, {half, half, 0, true}, {half, top, half - 1, true},
		{half + 1, half - 1, half - 1, true}, {half + 1, half, half, true}, {half + 1, half + 1, 0, false}, {half + 1, top, 0, false},
		{top, 0, 0, true}, {top, top - 1, top - 1, true}, {top, top, 0, false},
		{top - 1, top - 2, top - 2, true}, {top - 1, top - 1, 0, false}, {top - 1, top, 0, false},
	}
	for _, row := range rows {
		checkTold(t, row.total, row.word, row.want, row.ok)
	}
}

// P8.1: for 0 nothing is taken.
func TestNothingIsTakenForZero(t *testing.T) {
	for _, word := range []uint64{0, 1, 2, 5, 1 << 32, half - 1, half, top - 1, top} {
		checkTold(t, 0, word, 0, false)
	}
}

// P8.1, held against exact numbers.
func TestTellExact(t *testing.T) {
	source := rand.New(rand.NewSource(81))
	for _, total := range totals() {
		for _, word := range around(source, total) {
			want, ok := told(total, word)
			checkTold(t, total, word, want, ok)
		}
	}
}

// P8.2: how many words there are for each number.
func TestEachWrittenOut(t *testing.T) {
	rows := []struct {
		total uint64
		want  api.Wide
	}{
		{0, api.Wide{}}, {1, api.Wide{Hi: 1}}, {2, api.Wide{Lo: half}}, {3, api.Wide{Lo: third}}, {4, api.Wide{Lo: 1 << 62}},
		{5, api.Wide{Lo: 3689348814741910323}}, {10, api.Wide{Lo: 1844674407370955161}}, {641, api.Wide{Lo: 28778071877862015}},
		{1<<32 - 1, api.Wide{Lo: 1<<32 + 1}}, {1 << 32, api.Wide{Lo: 1 << 32}}, {1<<32 + 1, api.Wide{Lo: 1<<32 - 1}},
		{third - 1, api.Wide{Lo: 3}}, {third, api.Wide{Lo: 3}}, {third + 1, api.Wide{Lo: 2}},
		{half - 1, api.Wide{Lo: 2}}, {half, api.Wide{Lo: 2}}, {half + 1, api.Wide{Lo: 1}}, {top, api.Wide{Lo: 1}},
	}
	for _, row := range rows {
		if got := Each(row.total); got != row.want {
			t.Errorf("Each(%d) = %v, want %v", row.total, got, row.want)
		}
	}
}

// P8.2, held against exact numbers: and with what is left out they are all words.
func TestEachExact(t *testing.T) {
	for _, total := range totals() {
		each := longWide(Each(total))
		if want := new(big.Int).Div(allWords(), long(total)); each.Cmp(want) != 0 {
			t.Errorf("Each(%d) = %v, want %v", total, each, want)
		}
		sum := each.Mul(each, long(total))
		if sum.Add(sum, long(Rest(total))); sum.Cmp(allWords()) != 0 {
			t.Errorf("of %d %v words are taken or left out", total, sum)
		}
	}
}

// P8.2: the words of a number, rising, and where there is none any more.
func TestWordWrittenOut(t *testing.T) {
	rows := []struct {
		total, number, k, want uint64
		ok                     bool
	}{
		{1, 0, 0, 0, true}, {1, 0, 1, 1, true}, {1, 0, half, half, true}, {1, 0, top, top, true}, {1, 1, 0, 0, false}, {1, top, 0, 0, false},
		{2, 0, 0, 0, true}, {2, 1, 0, 1, true}, {2, 0, half - 1, top - 1, true}, {2, 1, half - 1, top, true}, {2, 1, half, 0, false}, {2, 2, 0, 0, false},
		{3, 2, 0, 2, true}, {3, 2, 1, 5, true}, {3, 2, 2, 8, true}, {3, 0, third - 1, top - 3, true}, {3, 2, third - 1, top - 1, true},
		{3, 0, third, 0, false}, {3, 2, third, 0, false}, {3, 2, top, 0, false}, {3, 3, 0, 0, false}, {3, top, 0, 0, false},
		{1 << 32, 5, 1, 1<<32 + 5, true}, {1 << 32, 1<<32 - 1, 1<<32 - 1, top, true}, {1 << 32, 0, 1 << 32, 0, false}, {1 << 32, 1 << 32, 0, 0, false},
		{half, 0, 1, half, true}, {half, half - 1, 1, top, true}, {half, 0, 2, 0, false}, {half, half, 0, 0, false},
		{half + 1, 0, 0, 0, true}, {half + 1, half, 0, half, true}, {half + 1, 0, 1, 0, false}, {half + 1, half + 1, 0, 0, false},
		{top, top - 1, 0, top - 1, true}, {top, 0, 1, 0, false}, {top, top, 0, 0, false}, {top, top, top, 0, false},
	}
	for _, row := range rows {
		checkWord(t, row.total, row.number, row.k, row.want, row.ok)
	}
}

// P8.2: no number is below 0, so none has a word.
func TestNoWordForZero(t *testing.T) {
	for _, number := range []uint64{0, 1, half, top} {
		for _, k := range []uint64{0, 1, half, top} {
			checkWord(t, 0, number, k, 0, false)
		}
	}
}

// P8.2, P8.4: the k-th word of a number is it and k times the total, up to the last one.
func TestWordExact(t *testing.T) {
	source := rand.New(rand.NewSource(82))
	for _, total := range totals() {
		each := longWide(Each(total))
		for _, number := range []uint64{0, total / 2, total - 1, source.Uint64() % total, total, total + 1, top} {
			for _, k := range kths(source, each) {
				ok := number < total && long(k).Cmp(each) < 0
				want := uint64(0)
				if ok {
					want = number + k*total
				}
				checkWord(t, total, number, k, want, ok)
				if ok {
					checkTold(t, total, want, number, true)
				}
			}
		}
	}
}

// kths are places among so many words, the first and the last ones too, and some behind the last one.
func kths(source *rand.Rand, each *big.Int) []uint64 {
	out := []uint64{0, 1, 2, half, top - 1, top}
	for _, more := range []int64{-2, -1, 0, 1} {
		if near := new(big.Int).Add(each, big.NewInt(more)); near.IsUint64() {
			out = append(out, near.Uint64())
		}
	}
	for range 5 {
		below := new(big.Int).Rand(source, each)
		out = append(out, below.Uint64(), source.Uint64())
	}
	return out
}

// P8.4: no other word tells a number: each one that is taken is a word of what it tells, and of nothing else; none that is left out is.
func TestNoOtherWordTells(t *testing.T) {
	source := rand.New(rand.NewSource(84))
	for _, total := range totals() {
		for _, word := range around(source, total) {
			number, k := word%total, word/total
			if _, ok := told(total, word); !ok {
				checkWord(t, total, number, k, 0, false)
				continue
			}
			checkWord(t, total, number, k, word, true)
			for _, other := range []uint64{number + 1, number - 1, total - 1 - number, 0} {
				if got, ok := Word(total, other, k); other != number && ok && got == word {
					t.Fatalf("Word(%d, %d, %d) = %d, which tells %d", total, other, k, got, number)
				}
			}
		}
	}
}

// P8.4: where few words tell each number, all of them: rising, and those behind the last one are left out.
func TestAllWordsOfANumber(t *testing.T) {
	for _, total := range []uint64{top / 50, third, third + 1, half - 1, half, half + 1, top} {
		each := Each(total).Lo
		for _, number := range []uint64{0, 1, total / 3, total - 1} {
			var list []uint64
			for k := range each + 3 {
				if word, ok := Word(total, number, k); ok {
					list = append(list, word)
				}
			}
			if uint64(len(list)) != each || list[0] != number || !slices.IsSorted(list) {
				t.Fatalf("of %d the words %v tell %d", total, list, number)
			}
			for i, word := range list {
				if word != number+uint64(i)*total {
					t.Fatalf("of %d the words %v tell %d", total, list, number)
				}
				checkTold(t, total, word, number, true)
			}
			if next := list[each-1] + total; next > number {
				checkTold(t, total, next, 0, false)
			}
		}
	}
}

// P8.3: what the words of a source tell, one by one; those that are left out are taken off with the one behind them.
func TestFromTellsWhatIsTaken(t *testing.T) {
	s := words.New(5, top, 7, top, top, 9, top)
	checkFrom(t, s, 3, 2, api.OK, 1)
	checkFrom(t, s, 3, 1, api.OK, 3)
	checkFrom(t, s, 3, 0, api.OK, 6)
	checkFrom(t, s, 3, 0, api.ErrNoRandom, 6)
	checkFrom(t, s, 4, 3, api.OK, 7)
	checkFrom(t, s, 4, 0, api.ErrNoRandom, 7)
	if got := s.All(); !slices.Equal(got, []uint64{5, top, 7, top, top, 9, top}) {
		t.Errorf("the words are now %v", got)
	}
}

// P8.3: the document's example, at a total that takes few words, and at one that takes all.
func TestFromWrittenOut(t *testing.T) {
	checkFrom(t, words.New(top, 5), 3, 2, api.OK, 2)
	checkFrom(t, words.New(top, 5), 1, 0, api.OK, 1)
	checkFrom(t, words.New(top, half+1, half, 5), half+1, half, api.OK, 3)
	checkFrom(t, words.New(top, top-1, 5), top, top-1, api.OK, 2)
	checkFrom(t, words.New(top), half, half-1, api.OK, 1)
}

// P8.3: where no word that is left is taken, the place is as it was, wherever that is.
func TestFromWithoutAWordThatIsTaken(t *testing.T) {
	checkFrom(t, words.New(), 3, 0, api.ErrNoRandom, 0)
	checkFrom(t, words.New(), 1, 0, api.ErrNoRandom, 0)
	checkFrom(t, words.New(top), 3, 0, api.ErrNoRandom, 0)
	checkFrom(t, words.New(top, top-1, half+1), half+1, 0, api.ErrNoRandom, 0)
	list := []uint64{4, top, 8, top, top}
	for at := 3; at <= len(list); at++ {
		s := words.New(list...)
		if err := s.Seek(at); err != api.OK {
			t.Fatal(err)
		}
		for range 2 {
			checkFrom(t, s, 3, 0, api.ErrNoRandom, at)
		}
	}
}

// P8.3: a word that comes later is taken, and those that were left out till then with it.
func TestFromGoesOnWithWordsThatWereAdded(t *testing.T) {
	s := words.New(2, top, top)
	checkFrom(t, s, 3, 2, api.OK, 1)
	checkFrom(t, s, 3, 0, api.ErrNoRandom, 1)
	s.Add(top)
	checkFrom(t, s, 3, 0, api.ErrNoRandom, 1)
	s.Add(4, 6)
	checkFrom(t, s, 3, 1, api.OK, 5)
	checkFrom(t, s, 3, 0, api.OK, 6)
}

// P8.3: nobody's source, which is told ahead of the total 0.
func TestFromANilSource(t *testing.T) {
	for _, total := range []uint64{0, 1, 3, half, top} {
		if got, err := From(nil, total); got != 0 || err != api.ErrNil {
			t.Errorf("From(nil, %d) = %d, %d", total, got, int(err))
		}
	}
}

// P8.3: for 0 no word is looked for, also where there is none.
func TestFromForZero(t *testing.T) {
	checkFrom(t, words.New(), 0, 0, api.ErrArg, 0)
	s := words.New(5, 6)
	checkFrom(t, s, 0, 0, api.ErrArg, 0)
	checkFrom(t, s, 10, 5, api.OK, 1)
	checkFrom(t, s, 0, 0, api.ErrArg, 1)
	checkFrom(t, s, 10, 6, api.OK, 2)
	checkFrom(t, s, 0, 0, api.ErrArg, 2)
}

// P8.3: what is done to a fork does not show at the source.
func TestFromAForkLeavesTheSource(t *testing.T) {
	s := words.New(top, 5, 6)
	f := s.Fork()
	checkFrom(t, f, 3, 2, api.OK, 2)
	if s.At() != 0 {
		t.Errorf("the source is at %d", s.At())
	}
	checkFrom(t, s, 3, 2, api.OK, 2)
	checkFrom(t, f, 3, 0, api.OK, 3)
}

// P8.3: how many words there are till one is taken.
func TestLeastWrittenOut(t *testing.T) {
	rows := []struct {
		total uint64
		list  []uint64
		want  int
	}{
		{3, nil, 0}, {3, []uint64{}, 0}, {3, []uint64{5}, 1}, {3, []uint64{0}, 1}, {3, []uint64{top}, 0}, {3, []uint64{top, top, top}, 0},
		{3, []uint64{top, 5}, 2}, {3, []uint64{top, top, 5, top, 6}, 3}, {3, []uint64{5, top}, 1}, {3, []uint64{top - 1, 5}, 1},
		{1, []uint64{top}, 1}, {1, nil, 0}, {2, []uint64{top, 0}, 1}, {half, []uint64{top}, 1},
		{half + 1, []uint64{top, half + 1, half, 0}, 3}, {top, []uint64{top, top - 1}, 2},
		{0, nil, 0}, {0, []uint64{5}, 0}, {0, []uint64{0, 1, top}, 0},
	}
	for _, row := range rows {
		if got := Least(row.total, row.list); got != row.want {
			t.Errorf("Least(%d, %v) = %d, want %d", row.total, row.list, got, row.want)
		}
	}
}

// P8.3: what is handed in stays as it is (R5).
func TestLeastLeavesTheList(t *testing.T) {
	list := []uint64{top, top, 5, 6}
	Least(3, list[:3])
	if !slices.Equal(list, []uint64{top, top, 5, 6}) {
		t.Errorf("the list is now %v", list)
	}
}

// P8.3: a source goes on by as many words as there are till the first one that is taken, whatever the words are.
func TestFromAndLeastAgainstTheDocument(t *testing.T) {
	source := rand.New(rand.NewSource(83))
	for range 3000 {
		total := source.Uint64()>>source.Intn(64) | 1
		if source.Intn(2) == 0 {
			total = half + 1 + source.Uint64()%half
		}
		list := make([]uint64, source.Intn(12))
		for i := range list {
			list[i] = top - source.Uint64()>>source.Intn(64)
		}
		s := words.New(list...)
		for at := 0; ; {
			want, count := first(total, list[at:])
			if got := Least(total, list[at:]); got != count {
				t.Fatalf("Least(%d, %v) = %d, want %d", total, list[at:], got, count)
			}
			if count == 0 {
				checkFrom(t, s, total, 0, api.ErrNoRandom, at)
				break
			}
			at += count
			checkFrom(t, s, total, want, api.OK, at)
		}
	}
}

// first is what the first word that ought to be taken tells, and how many words there are till then; 0 and 0, if there is none.
func first(total uint64, list []uint64) (uint64, int) {
	for i, word := range list {
		if number, ok := told(total, word); ok {
			return number, i + 1
		}
	}
	return 0, 0
}

// P8.3: many words that are left out, ahead of one that is taken, and without one.
func TestManyWordsThatAreLeftOut(t *testing.T) {
	list := make([]uint64, 1<<20)
	for i := range list {
		list[i] = top - uint64(i)
	}
	s := words.New(list...)
	checkFrom(t, s, half+1, 0, api.ErrNoRandom, 0)
	if got := Least(half+1, list); got != 0 {
		t.Errorf("Least = %d, want 0", got)
	}
	s.Add(7)
	checkFrom(t, s, half+1, 7, api.OK, len(list)+1)
	if got := Least(half+1, s.All()); got != len(list)+1 {
		t.Errorf("Least = %d, want %d", got, len(list)+1)
	}
}
