package slots

import (
	"math"
	"math/rand"
	"slices"
	"testing"

	"tombola/api"
)

// sizes are how many places there may be: the edges of what is kept in one number, and others.
func sizes() []int {
	return []int{1, 2, 3, 4, 5, 8, 31, 32, 33, 63, 64, 65, 100, 127, 128, 129, 1000, 1024, 2048, 4031, 4032, 4033, 4095, 4096}
}

// beside are places that there are not, of so many.
func beside(n int) []int {
	return []int{-1, -2, -63, -64, -65, -n, -n - 1, -4096, math.MinInt, n, n + 1, n + 63, n + 64, 2 * n, 4096, 4097, 8192, math.MaxInt}
}

// made is so many places.
func made(t *testing.T, n int) *Slots {
	t.Helper()
	s, err := New(n)
	if s == nil || err != api.OK {
		t.Fatalf("New(%d) = %v, %v", n, s, err)
	}
	return s
}

// allTaken is so many places, all of them taken.
func allTaken(t *testing.T, n int) *Slots {
	t.Helper()
	s := made(t, n)
	for i := range n {
		take(t, s, i)
	}
	return s
}

// take takes a place, which ought to be this one.
func take(t *testing.T, s *Slots, want int) {
	t.Helper()
	if got, err := s.Take(); got != want || err != api.OK {
		t.Fatalf("Take() = %d, %v, want %d", got, err, want)
	}
}

// takeNone takes no place, for all are taken.
func takeNone(t *testing.T, s *Slots) {
	t.Helper()
	if got, err := s.Take(); got != -1 || err != api.ErrFull {
		t.Fatalf("Take() = %d, %v, want -1, %v", got, err, api.ErrFull)
	}
}

// give gives a place back, which ought to answer so.
func give(t *testing.T, s *Slots, i int, want api.Errno) {
	t.Helper()
	if got := s.Give(i); got != want {
		t.Fatalf("Give(%d) = %v, want %v", i, got, want)
	}
}

// gone is all places that All goes through.
func gone(s *Slots) []int {
	var list []int
	for i := range s.All() {
		list = append(list, i)
	}
	return list
}

// lowest is the first place that is false; -1, if there is none.
func lowest(taken []bool) int {
	return slices.Index(taken, false)
}

// rising are the places that are true.
func rising(taken []bool) []int {
	var list []int
	for i, is := range taken {
		if is {
			list = append(list, i)
		}
	}
	return list
}

// check holds all that slots tell against the places that ought to be taken.
func check(t *testing.T, s *Slots, taken []bool) {
	t.Helper()
	want := rising(taken)
	if got := gone(s); !slices.Equal(got, want) {
		t.Fatalf("of %d: All() = %v, want %v", len(taken), got, want)
	}
	if s.Len() != len(want) || s.Free() != lowest(taken) {
		t.Fatalf("of %d with %v: Len() = %d, Free() = %d, want %d, %d", len(taken), want, s.Len(), s.Free(), len(want), lowest(taken))
	}
	for i, is := range taken {
		if s.Has(i) != is {
			t.Fatalf("of %d with %v: Has(%d) = %v", len(taken), want, i, s.Has(i))
		}
	}
	for _, i := range beside(len(taken)) {
		if (i < 0 || i >= len(taken)) && s.Has(i) {
			t.Fatalf("of %d with %v: Has(%d)", len(taken), want, i)
		}
	}
}

// checkBeside gives back places that there are not.
func checkBeside(t *testing.T, s *Slots, n int) {
	t.Helper()
	for _, i := range beside(n) {
		if i < 0 || i >= n {
			give(t, s, i, api.ErrNone)
		}
	}
}

// P11.1: how many places there may be; of new ones none is taken.
func TestNew(t *testing.T) {
	for _, n := range []int{0, -1, -64, -4096, math.MinInt, 4097, 4160, 8192, math.MaxInt} {
		if s, err := New(n); s != nil || err != api.ErrArg {
			t.Errorf("New(%d) = %v, %v", n, s, err)
		}
	}
	for _, n := range sizes() {
		check(t, made(t, n), make([]bool, n))
	}
}

// P11.1: the document's example, and all that is asked of it.
func TestWrittenOut(t *testing.T) {
	s := made(t, 4)
	take(t, s, 0)
	take(t, s, 1)
	take(t, s, 2)
	check(t, s, []bool{true, true, true, false})
	give(t, s, 1, api.OK)
	check(t, s, []bool{true, false, true, false})
	take(t, s, 1)
	check(t, s, []bool{true, true, true, false})
	take(t, s, 3)
	check(t, s, []bool{true, true, true, true})
	takeNone(t, s)
	give(t, s, 2, api.OK)
	give(t, s, 0, api.OK)
	check(t, s, []bool{false, true, false, true})
	take(t, s, 0)
	take(t, s, 2)
	takeNone(t, s)
	check(t, s, []bool{true, true, true, true})
}

// P11.1: all places are taken, the lowest one first, then none, again and again; of those that are no places none is.
func TestTakeTillAllAreTaken(t *testing.T) {
	for _, n := range sizes() {
		s, taken := made(t, n), make([]bool, n)
		for i := range n {
			if s.Free() != i || s.Len() != i || s.Has(i) {
				t.Fatalf("of %d: Free() = %d, Len() = %d, Has(%d) = %v", n, s.Free(), s.Len(), i, s.Has(i))
			}
			take(t, s, i)
			taken[i] = true
		}
		for range 3 {
			takeNone(t, s)
			checkBeside(t, s, n)
			check(t, s, taken)
		}
	}
}

// P11.1: what is not taken can't be given back: not yet, no longer, or no place at all; and nothing is changed then.
func TestGiveWhatIsNotTaken(t *testing.T) {
	for _, n := range sizes() {
		s, taken := made(t, n), make([]bool, n)
		for i := range n {
			give(t, s, i, api.ErrNone)
		}
		checkBeside(t, s, n)
		check(t, s, taken)
		take(t, s, 0)
		taken[0] = true
		for i := 1; i < n; i++ {
			give(t, s, i, api.ErrNone)
		}
		checkBeside(t, s, n)
		check(t, s, taken)
		give(t, s, 0, api.OK)
		give(t, s, 0, api.ErrNone)
		give(t, s, 0, api.ErrNone)
		taken[0] = false
		check(t, s, taken)
	}
}

// P11.1, P11.3: each place of all that are taken is given back, once, and is the one that is taken next.
func TestEachPlaceIsTakenAgain(t *testing.T) {
	for _, n := range sizes() {
		s := allTaken(t, n)
		for i := range n {
			give(t, s, i, api.OK)
			if s.Has(i) || s.Free() != i {
				t.Fatalf("of %d: Has(%d) = %v, Free() = %d", n, i, s.Has(i), s.Free())
			}
			give(t, s, i, api.ErrNone)
			take(t, s, i)
			takeNone(t, s)
		}
		check(t, s, slices.Repeat([]bool{true}, n))
	}
}

// P11.1, P11.3: places that are given back from the last one on: each is the lowest one then; all are taken again, rising.
func TestAllAreGivenBack(t *testing.T) {
	for _, n := range sizes() {
		s := allTaken(t, n)
		for i := n - 1; i >= 0; i-- {
			give(t, s, i, api.OK)
			if s.Free() != i || s.Len() != i {
				t.Fatalf("of %d: Free() = %d, Len() = %d, want %d", n, s.Free(), s.Len(), i)
			}
		}
		check(t, s, make([]bool, n))
		for i := range n {
			take(t, s, i)
		}
		check(t, s, slices.Repeat([]bool{true}, n))
	}
}

// P11.3: who gives a place back does not get it again, as long as a lower one is not taken.
func TestALowerPlaceComesFirst(t *testing.T) {
	for _, n := range sizes()[3:] {
		s := allTaken(t, n)
		for _, i := range []int{n - 1, 0, n / 2} {
			give(t, s, i, api.OK)
		}
		take(t, s, 0)
		take(t, s, n/2)
		give(t, s, 0, api.OK)
		take(t, s, 0)
		take(t, s, n-1)
		takeNone(t, s)
	}
}

// P11.1, P11.3: each set of places that may be taken, of few places: what it tells, and what it takes next.
func TestAllSets(t *testing.T) {
	for n := 1; n <= 9; n++ {
		for set := range 1 << n {
			s, taken := allTaken(t, n), make([]bool, n)
			for i := range n {
				taken[i] = set>>i&1 == 1
				if !taken[i] {
					give(t, s, i, api.OK)
				}
			}
			check(t, s, taken)
			for lowest(taken) >= 0 {
				take(t, s, lowest(taken))
				taken[lowest(taken)] = true
				check(t, s, taken)
			}
			takeNone(t, s)
		}
	}
}

// P11.1: All may be left at each place, and goes on no further then.
func TestAllIsLeftAnywhere(t *testing.T) {
	s := allTaken(t, 130)
	for _, i := range []int{0, 5, 63, 64, 128} {
		give(t, s, i, api.OK)
	}
	want := gone(s)
	all := s.All()
	for many := range len(want) {
		var got []int
		all(func(i int) bool {
			got = append(got, i)
			return len(got) <= many
		})
		if !slices.Equal(got, want[:many+1]) {
			t.Fatalf("left at %d: %v, want %v", many, got, want[:many+1])
		}
	}
	if got := slices.Collect(all); !slices.Equal(got, want) {
		t.Errorf("gone through again: %v, want %v", got, want)
	}
}

// P11.1: All is gone through again, each time with those that are taken when it is begun.
func TestAllIsGoneThroughAgain(t *testing.T) {
	s := made(t, 70)
	all := s.All()
	want := func(l ...int) {
		t.Helper()
		for range 2 {
			if got := slices.Collect(all); !slices.Equal(got, l) {
				t.Fatalf("All() = %v, want %v", got, l)
			}
		}
	}
	want()
	take(t, s, 0)
	want(0)
	take(t, s, 1)
	take(t, s, 2)
	want(0, 1, 2)
	give(t, s, 1, api.OK)
	want(0, 2)
	give(t, s, 0, api.OK)
	give(t, s, 2, api.OK)
	want()
}

// P11.1: what is given back on the way is gone through all the same, once; then it is not.
func TestGiveOnTheWay(t *testing.T) {
	for _, n := range sizes() {
		s := allTaken(t, n)
		want := gone(s)
		var got []int
		for i := range s.All() {
			got = append(got, i)
			// The last one first: it lies ahead, but for the second half.
			give(t, s, n-1-i, api.OK)
		}
		if !slices.Equal(got, want) {
			t.Errorf("of %d were gone through %v", n, got)
		}
		check(t, s, make([]bool, n))
	}
}

// P11.1: what is taken on the way is not gone through; then it is.
func TestTakeOnTheWay(t *testing.T) {
	for _, n := range sizes() {
		s, taken := allTaken(t, n), slices.Repeat([]bool{true}, n)
		for i := 1; i < n; i += 2 {
			give(t, s, i, api.OK)
			taken[i] = false
		}
		want := gone(s)
		var got []int
		for i := range s.All() {
			got = append(got, i)
			if free := lowest(taken); free >= 0 {
				take(t, s, free)
				taken[free] = true
			}
		}
		if !slices.Equal(got, want) {
			t.Errorf("of %d were gone through %v, want %v", n, got, want)
		}
		check(t, s, taken)
		check(t, s, slices.Repeat([]bool{true}, n))
	}
}

// P11.1: one that is gone through within another one, which goes on behind it.
func TestAllWithinAll(t *testing.T) {
	s := allTaken(t, 67)
	all := s.All()
	var outer []int
	for i := range all {
		outer = append(outer, i)
		inner := slices.Collect(all)
		if len(inner) != 67-i || inner[0] != i {
			t.Fatalf("at %d: %v", i, inner)
		}
		give(t, s, i, api.OK)
	}
	if len(outer) != 67 || !slices.IsSorted(outer) || s.Len() != 0 {
		t.Errorf("gone through %v, %d are left", outer, s.Len())
	}
}

// P11.2: nil slots, whatever they are asked.
func TestNil(t *testing.T) {
	var s *Slots
	for range 2 {
		if i, err := s.Take(); i != -1 || err != api.ErrNil {
			t.Errorf("Take() = %d, %v", i, err)
		}
		for _, i := range append(beside(64), 0, 1, 63) {
			if err := s.Give(i); err != api.ErrNil {
				t.Errorf("Give(%d) = %v", i, err)
			}
			if s.Has(i) {
				t.Errorf("Has(%d)", i)
			}
		}
		if s.Len() != 0 || s.Free() != -1 {
			t.Errorf("Len() = %d, Free() = %d", s.Len(), s.Free())
		}
		all := s.All()
		if all == nil {
			t.Fatal("All() is nil")
		}
		for i := range all {
			t.Errorf("All() has %d", i)
		}
	}
}

// P11.1: of slots that are there, too, All is never nil (R6).
func TestAllIsNeverNil(t *testing.T) {
	if made(t, 1).All() == nil || allTaken(t, 1).All() == nil {
		t.Error("All() is nil")
	}
}

// P11.1: what is done to the one does not show at the other (R4).
func TestSlotsAreApart(t *testing.T) {
	one, other := made(t, 3), made(t, 3)
	all := other.All()
	take(t, one, 0)
	take(t, one, 1)
	check(t, other, make([]bool, 3))
	take(t, other, 0)
	give(t, one, 0, api.OK)
	check(t, one, []bool{false, true, false})
	check(t, other, []bool{true, false, false})
	if got := slices.Collect(all); !slices.Equal(got, []int{0}) {
		t.Errorf("All() = %v", got)
	}
}

// step does one call to slots, and to the places that ought to be taken; how often places are given back hangs on many.
func step(t *testing.T, source *rand.Rand, s *Slots, taken []bool, many int) {
	t.Helper()
	i := source.Intn(len(taken)+2) - 1
	switch free := lowest(taken); {
	case source.Intn(10) < many && i >= 0 && i < len(taken) && taken[i]:
		give(t, s, i, api.OK)
		taken[i] = false
	case source.Intn(10) < many && (i < 0 || i >= len(taken) || !taken[i]):
		give(t, s, i, api.ErrNone)
	case free < 0:
		takeNone(t, s)
	default:
		take(t, s, free)
		taken[free] = true
	}
}

// P11.1, P11.3: all calls one behind the other, held against a list of which places are taken.
func TestAllCalls(t *testing.T) {
	for _, n := range sizes() {
		source := rand.New(rand.NewSource(int64(n)))
		s, taken := made(t, n), make([]bool, n)
		for round := range 12 {
			for range min(3*n, 600) {
				step(t, source, s, taken, round%3*4)
				if n <= 65 {
					check(t, s, taken)
				}
			}
			check(t, s, taken)
		}
	}
}

// P11.3: as many as were taken and not given back are taken.
func TestAsManyAsWereTaken(t *testing.T) {
	source := rand.New(rand.NewSource(113))
	for _, n := range sizes() {
		s, took, gave := made(t, n), 0, 0
		for range 1000 {
			if _, err := s.Take(); err == api.OK {
				took++
			}
			if s.Give(source.Intn(n+2)-1) == api.OK {
				gave++
			}
			if s.Len() != took-gave {
				t.Fatalf("of %d: Len() = %d, %d were taken, %d given back", n, s.Len(), took, gave)
			}
		}
		if gave == 0 {
			t.Errorf("of %d none was given back", n)
		}
	}
}
