package words

import (
	"math"
	"math/rand"
	"slices"
	"testing"

	"tombola/api"
)

// check holds all that a source tells against the words and the place that it ought to have.
func check(t *testing.T, s *Source, list []uint64, at int) {
	t.Helper()
	if got := s.All(); !slices.Equal(got, list) {
		t.Fatalf("All() = %v, want %v", got, list)
	}
	if s.At() != at || s.Left() != len(list)-at {
		t.Fatalf("of %v: At() = %d, Left() = %d, want %d, %d", list, s.At(), s.Left(), at, len(list)-at)
	}
	word, want := uint64(0), api.ErrNoRandom
	if at < len(list) {
		word, want = list[at], api.OK
	}
	if got, err := s.Peek(); got != word || err != want {
		t.Fatalf("of %v at %d: Peek() = %d, %v, want %d, %v", list, at, got, err, word, want)
	}
	if s.At() != at {
		t.Fatalf("Peek went from %d to %d", at, s.At())
	}
}

// take takes a word, which ought to be this one.
func take(t *testing.T, s *Source, want uint64) {
	t.Helper()
	if got, err := s.Take(); got != want || err != api.OK {
		t.Fatalf("Take() = %d, %v, want %d", got, err, want)
	}
}

// takeNone takes no word, for there is none.
func takeNone(t *testing.T, s *Source) {
	t.Helper()
	if got, err := s.Take(); got != 0 || err != api.ErrNoRandom {
		t.Fatalf("Take() = %d, %v, want %v", got, err, api.ErrNoRandom)
	}
}

// seek goes to a place, which ought to answer so.
func seek(t *testing.T, s *Source, at int, want api.Errno) {
	t.Helper()
	if err := s.Seek(at); err != want {
		t.Fatalf("Seek(%d) = %v, want %v", at, err, want)
	}
}

// rest takes all words that are left.
func rest(s *Source) []uint64 {
	var list []uint64
	for {
		word, err := s.Take()
		if err != api.OK {
			return list
		}
		list = append(list, word)
	}
}

// randomWords are fewer than so many words, of any length each.
func randomWords(source *rand.Rand, below int) []uint64 {
	list := make([]uint64, source.Intn(below))
	for i := range list {
		list[i] = source.Uint64() >> source.Intn(64)
	}
	return list
}

// P7.1: a source of any many words, at 0.
func TestNewIsAtTheFirstWord(t *testing.T) {
	check(t, New(), nil, 0)
	check(t, New(nil...), nil, 0)
	check(t, New([]uint64{}...), nil, 0)
	for _, list := range [][]uint64{{0}, {5}, {5, 6}, {math.MaxUint64}, {0, 0, 0}, {3, math.MaxUint64, 0, 1 << 63, 3}} {
		check(t, New(list...), list, 0)
	}
}

// P7.1: words are taken from the first one to the last one, and then there is none.
func TestTakeGoesOnTillThereIsNone(t *testing.T) {
	list := []uint64{5, 0, math.MaxUint64, 5, 1 << 63}
	s := New(list...)
	for i, word := range list {
		check(t, s, list, i)
		take(t, s, word)
	}
	for range 3 {
		check(t, s, list, len(list))
		takeNone(t, s)
	}
	check(t, s, list, len(list))
	empty := New()
	takeNone(t, empty)
	check(t, empty, nil, 0)
}

// P7.1: what Peek tells stays there.
func TestPeekTakesNothing(t *testing.T) {
	s := New(7, 8)
	for _, want := range []uint64{7, 8} {
		for range 3 {
			if got, err := s.Peek(); got != want || err != api.OK {
				t.Fatalf("Peek() = %d, %v, want %d", got, err, want)
			}
		}
		take(t, s, want)
	}
	for range 3 {
		if got, err := s.Peek(); got != 0 || err != api.ErrNoRandom {
			t.Fatalf("Peek() = %d, %v, want %v", got, err, api.ErrNoRandom)
		}
	}
}

// P7.1: each place from 0 to the count is one, wherever the source was; no other is.
func TestSeekFromEachPlaceToEachOne(t *testing.T) {
	list := []uint64{5, 6, 7}
	for from := range len(list) + 1 {
		for to := -3; to <= len(list)+3; to++ {
			s := New(list...)
			seek(t, s, from, api.OK)
			if to < 0 || to > len(list) {
				seek(t, s, to, api.ErrRange)
				check(t, s, list, from)
				continue
			}
			seek(t, s, to, api.OK)
			check(t, s, list, to)
		}
	}
	s := New(list...)
	take(t, s, 5)
	for _, at := range []int{math.MinInt, math.MaxInt, math.MinInt32, math.MaxInt32} {
		seek(t, s, at, api.ErrRange)
		check(t, s, list, 1)
	}
}

// P7.1: a source without words has the place 0 alone.
func TestSeekWithoutWords(t *testing.T) {
	s := New()
	seek(t, s, 0, api.OK)
	seek(t, s, 1, api.ErrRange)
	seek(t, s, -1, api.ErrRange)
	check(t, s, nil, 0)
}

// P7.1: the count that Seek looks at is that of all words, of those that were added too.
func TestSeekToWordsThatWereAdded(t *testing.T) {
	s := New(1)
	seek(t, s, 2, api.ErrRange)
	s.Add(2)
	seek(t, s, 2, api.OK)
	check(t, s, []uint64{1, 2}, 2)
	seek(t, s, 3, api.ErrRange)
	seek(t, s, 1, api.OK)
	take(t, s, 2)
}

// P7.1: any many words come behind all others, and the place stays.
func TestAddPutsWordsBehindAllOthers(t *testing.T) {
	s := New()
	s.Add()
	check(t, s, nil, 0)
	s.Add(5)
	check(t, s, []uint64{5}, 0)
	take(t, s, 5)
	takeNone(t, s)
	s.Add(6, 7)
	check(t, s, []uint64{5, 6, 7}, 1)
	s.Add()
	check(t, s, []uint64{5, 6, 7}, 1)
	take(t, s, 6)
	s.Add(0, math.MaxUint64)
	check(t, s, []uint64{5, 6, 7, 0, math.MaxUint64}, 2)
	if got := rest(s); !slices.Equal(got, []uint64{7, 0, math.MaxUint64}) {
		t.Errorf("what is left is %v", got)
	}
	s.Add(s.All()...)
	check(t, s, []uint64{5, 6, 7, 0, math.MaxUint64, 5, 6, 7, 0, math.MaxUint64}, 5)
}

// P7.1: a fork has the same words and the same place, whatever that is.
func TestForkIsLikeItsSource(t *testing.T) {
	list := []uint64{5, 6, 7}
	for at := range len(list) + 1 {
		s := New(list...)
		seek(t, s, at, api.OK)
		f := s.Fork()
		if f == s {
			t.Fatal("a fork is the source itself")
		}
		check(t, f, list, at)
		check(t, s, list, at)
		if got := rest(f); !slices.Equal(got, list[at:]) {
			t.Errorf("the fork's words at %d are %v", at, got)
		}
		check(t, s, list, at)
	}
	check(t, New().Fork(), nil, 0)
}

// P7.1: what is done to the one does not show at the other, neither way.
func TestForksAreApart(t *testing.T) {
	s := New(1, 2, 3)
	take(t, s, 1)
	f := s.Fork()
	take(t, s, 2)
	check(t, f, []uint64{1, 2, 3}, 1)
	seek(t, f, 3, api.OK)
	check(t, s, []uint64{1, 2, 3}, 2)
	s.Add(4)
	check(t, f, []uint64{1, 2, 3}, 3)
	takeNone(t, f)
	f.Add(5, 6)
	check(t, s, []uint64{1, 2, 3, 4}, 2)
	check(t, f, []uint64{1, 2, 3, 5, 6}, 3)
	take(t, f, 5)
	seek(t, s, 4, api.OK)
	takeNone(t, s)
}

// P7.1: forks of one source add words of their own, however many there were (the memory behind them is no one's).
func TestForksAddWordsOfTheirOwn(t *testing.T) {
	for count := range 40 {
		s := New()
		var list []uint64
		for i := range uint64(count) {
			s.Add(i)
			list = append(list, i)
		}
		one := s.Fork()
		other := s.Fork()
		again := one.Fork()
		one.Add(101)
		other.Add(102, 103)
		again.Add(104)
		s.Add(105)
		check(t, one, slices.Concat(list, []uint64{101}), 0)
		check(t, other, slices.Concat(list, []uint64{102, 103}), 0)
		check(t, again, slices.Concat(list, []uint64{104}), 0)
		check(t, s, slices.Concat(list, []uint64{105}), 0)
	}
}

// P7.1: the words are those that were handed in, as they were then (R5).
func TestWordsAreThoseOfThen(t *testing.T) {
	list := []uint64{5, 6, 7, 8}
	s := New(list[:2]...)
	list[0], list[1] = 50, 60
	check(t, s, []uint64{5, 6}, 0)
	more := []uint64{9, 10, 11}
	s.Add(more[:2]...)
	more[0], more[1] = 90, 100
	check(t, s, []uint64{5, 6, 9, 10}, 0)
	s.Add(12)
	if !slices.Equal(list, []uint64{50, 60, 7, 8}) || !slices.Equal(more, []uint64{90, 100, 11}) {
		t.Errorf("what was handed in is %v, %v", list, more)
	}
	empty := New(list[:0]...)
	empty.Add(1, 2)
	late := New()
	late.Add(list...)
	late.Add(3)
	list[2] = 70
	check(t, late, []uint64{50, 60, 7, 8, 3}, 0)
	if list[0] != 50 || list[1] != 60 {
		t.Errorf("what was handed in is %v", list)
	}
}

// P7.1: what All tells is new memory (R5).
func TestAllIsNewMemory(t *testing.T) {
	s := New(5, 6)
	s.Add(7)
	all := s.All()
	_ = append(all, 99)
	clear(all)
	s.Add(8)
	check(t, s, []uint64{5, 6, 7, 8}, 0)
	if !slices.Equal(all, []uint64{0, 0, 0}) {
		t.Errorf("what was told first is now %v", all)
	}
	one, other := s.All(), s.All()
	one[0] = 1
	if other[0] != 5 {
		t.Error("two answers share memory")
	}
	clear(s.Fork().All())
	check(t, s, []uint64{5, 6, 7, 8}, 0)
}

// P7.2: a nil source.
func TestNilSource(t *testing.T) {
	var s *Source
	for range 2 {
		if got, err := s.Take(); got != 0 || err != api.ErrNil {
			t.Errorf("Take() = %d, %v", got, err)
		}
		if got, err := s.Peek(); got != 0 || err != api.ErrNil {
			t.Errorf("Peek() = %d, %v", got, err)
		}
		for _, at := range []int{0, 1, -1, math.MaxInt, math.MinInt} {
			if err := s.Seek(at); err != api.ErrNil {
				t.Errorf("Seek(%d) = %v", at, err)
			}
		}
		if s.At() != 0 || s.Left() != 0 || len(s.All()) != 0 {
			t.Errorf("At() = %d, Left() = %d, All() = %v", s.At(), s.Left(), s.All())
		}
		if f := s.Fork(); f != nil {
			t.Errorf("Fork() = %v", f.All())
		}
		// Once more behind words that were added: nothing is done.
		s.Add()
		s.Add(5, 6)
	}
}

// P7.3: from one place on always the same words are taken.
func TestTheSameWordsFromOnePlaceOn(t *testing.T) {
	source := rand.New(rand.NewSource(73))
	for range 200 {
		list := randomWords(source, 30)
		s := New(list...)
		for range 20 {
			at := source.Intn(len(list) + 1)
			seek(t, s, at, api.OK)
			for i := range source.Intn(len(list) - at + 1) {
				take(t, s, list[at+i])
			}
			seek(t, s, at, api.OK)
			if got := rest(s.Fork()); !slices.Equal(got, list[at:]) {
				t.Fatalf("at %d a fork takes %v, want %v", at, got, list[at:])
			}
			if got := rest(s); !slices.Equal(got, list[at:]) {
				t.Fatalf("at %d are taken %v, want %v", at, got, list[at:])
			}
			check(t, s, list, len(list))
		}
	}
}

// model is what a source ought to be: its words, and its place.
type model struct {
	source *Source
	list   []uint64
	at     int
}

// change does something to a source, and to the model of it.
func (m *model) change(t *testing.T, source *rand.Rand) {
	t.Helper()
	switch source.Intn(4) {
	case 0:
		more := randomWords(source, 5)
		m.source.Add(more...)
		m.list = slices.Concat(m.list, more)
		clear(more)
	case 1:
		at := source.Intn(len(m.list)+5) - 2
		if at < 0 || at > len(m.list) {
			seek(t, m.source, at, api.ErrRange)
			return
		}
		seek(t, m.source, at, api.OK)
		m.at = at
	case 2:
		clear(m.source.All())
	default:
		if m.at == len(m.list) {
			takeNone(t, m.source)
			return
		}
		take(t, m.source, m.list[m.at])
		m.at++
	}
}

// P7.1, P7.3: many forks, changed in any order, hang each on what was done to it alone (R4).
func TestManyForksAgainstTheirModels(t *testing.T) {
	source := rand.New(rand.NewSource(71))
	for range 100 {
		list := randomWords(source, 10)
		all := []*model{{source: New(list...), list: list}}
		for range 100 {
			m := all[source.Intn(len(all))]
			if len(all) < 8 && source.Intn(5) == 0 {
				all = append(all, &model{source: m.source.Fork(), list: m.list, at: m.at})
			}
			m.change(t, source)
			for _, each := range all {
				check(t, each.source, each.list, each.at)
			}
		}
	}
}

// P7.1: a long list of words, and as many once more.
func TestManyWords(t *testing.T) {
	list := make([]uint64, 1<<20)
	for i := range list {
		list[i] = uint64(i) * 3
	}
	s := New(list...)
	s.Add(list...)
	seek(t, s, len(list)-1, api.OK)
	take(t, s, list[len(list)-1])
	take(t, s, list[0])
	if s.At() != len(list)+1 || s.Left() != len(list)-1 || len(s.All()) != 2*len(list) {
		t.Errorf("At() = %d, Left() = %d, %d words", s.At(), s.Left(), len(s.All()))
	}
}
