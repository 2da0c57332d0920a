package chain

import (
	"fmt"
	"math"
	"math/rand"
	"slices"
	"testing"

	"tombola/api"
	"tombola/state"
)

// thread is a thread of a state, that waits for nobody.
func thread(state int) api.Thread {
	return api.Thread{State: state, For: -1, Client: -1, Q: 1, U: 1}
}

// waiting is a thread that is Calling a thread, or Waiting for a lock.
func waiting(state, what int) api.Thread {
	t := thread(state)
	t.For = what
	return t
}

// rich is a state in which threads wait in all ways, by locks too, and one is not used.
func rich() api.State {
	s := api.State{
		Coins: []bool{true},
		Threads: []api.Thread{
			thread(api.Running),
			{},
			thread(api.Ready),
			waiting(api.Calling, 0),
			waiting(api.Calling, 3),
			waiting(api.Waiting, 2),
			waiting(api.Waiting, 0),
			waiting(api.Waiting, 0),
			thread(api.Asleep),
			waiting(api.Calling, 8),
			thread(api.Listening),
			waiting(api.Waiting, 3),
			waiting(api.Calling, 7),
			waiting(api.Calling, 0),
		},
		Locks:   []api.Lock{{Used: true, Holder: 5}, {}, {Used: true, Holder: 3}, {Used: true, Holder: 10}, {Used: true, Holder: -1}},
		Quantum: 5,
	}
	s.Threads[0].Client = 13
	s.Threads[3].Client = 4
	s.Queue = []int{12, 11, 9, 7, 6, 5, 3}
	return s
}

// bare is a state of the base, these threads and these locks' holders, and of whoever is in the queue then.
func bare(threads []api.Thread, holders ...int) api.State {
	s := api.State{Coins: []bool{true}, Threads: threads, Quantum: 1}
	for _, i := range holders {
		s.Locks = append(s.Locks, api.Lock{Used: true, Holder: i})
	}
	for i, t := range threads {
		if t.State == api.Waiting || t.State == api.Calling && threads[t.For].Client != i {
			s.Queue = append(s.Queue, i)
		}
	}
	return s
}

// mayNotBe are states that may not be, which calls have to end at nevertheless.
func mayNotBe() []api.State {
	ring := bare([]api.Thread{waiting(api.Calling, 1), waiting(api.Calling, 2), waiting(api.Calling, 0)})
	knot := bare([]api.Thread{waiting(api.Waiting, 0), waiting(api.Waiting, 1)}, 1, 0)
	self := bare([]api.Thread{waiting(api.Calling, 0), waiting(api.Waiting, 0)}, 1)
	lost := []api.Thread{
		waiting(api.Waiting, 0), waiting(api.Waiting, -1), waiting(api.Waiting, 9), waiting(api.Waiting, 1),
		waiting(api.Calling, -1), waiting(api.Calling, 100), waiting(api.Calling, math.MinInt), waiting(api.Calling, 8),
		{}, thread(7), thread(-1), waiting(api.Waiting, 2), waiting(api.Ready, 0),
	}
	locks := []api.Lock{{Used: true, Holder: -1}, {}, {Used: true, Holder: math.MaxInt}}
	line := slices.Repeat([]api.Thread{thread(api.Ready)}, 300)
	for i := range line[1:] {
		line[i+1] = waiting(api.Calling, i)
	}
	return []api.State{{}, ring, knot, self, {Threads: lost, Locks: locks}, {Threads: line}, {Threads: make([]api.Thread, 100)}}
}

// What follows is the document's chapter in the tests' own words, for a state's answers to be held against.

// isUsed tells whether there is such a thread.
func isUsed(s api.State, i int) bool {
	return i >= 0 && i < len(s.Threads) && s.Threads[i].State != 0
}

// waitsFor tells whether a thread waits for another one: it calls that, or waits for a lock that that has.
func waitsFor(s api.State, i, j int) bool {
	if !isUsed(s, i) || !isUsed(s, j) {
		return false
	}
	t := s.Threads[i]
	return t.State == 4 && t.For == j || t.State == 6 && s.Locks[t.For].Holder == j
}

// wantWaits are those who wait for a thread.
func wantWaits(s api.State, i int) (out []int) {
	for j := range s.Threads {
		if waitsFor(s, j, i) {
			out = append(out, j)
		}
	}
	return out
}

// wantNext is for whom a thread waits.
func wantNext(s api.State, i int) int {
	for j := range s.Threads {
		if waitsFor(s, i, j) {
			return j
		}
	}
	return -1
}

// wantTail is a thread, and the chain of the one for whom it waits.
func wantTail(s api.State, i int) []int {
	if !isUsed(s, i) {
		return nil
	}
	return append([]int{i}, wantTail(s, wantNext(s, i))...)
}

// wantBehind are those who wait for a thread, and all who are behind these.
func wantBehind(s api.State, i int) (out []int) {
	for _, j := range wantWaits(s, i) {
		out = append(append(out, j), wantBehind(s, j)...)
	}
	slices.Sort(out)
	return out
}

// wantEnd is the one with a thread behind it, or the same one, that waits for nobody.
func wantEnd(s api.State, i int) int {
	for j := range s.Threads {
		if isUsed(s, i) && isUsed(s, j) && wantNext(s, j) < 0 && (i == j || slices.Contains(wantBehind(s, j), i)) {
			return j
		}
	}
	return -1
}

// wantCloses is whether one comes back to i, when i waits for j.
func wantCloses(s api.State, i, j int) bool {
	if !isUsed(s, i) || !isUsed(s, j) {
		return false
	}
	for range s.Threads {
		if j == i {
			return true
		}
		j = wantNext(s, j)
	}
	return false
}

// wantLives is whether the end is ready, or runs.
func wantLives(s api.State, i int) bool {
	end := wantEnd(s, i)
	return end >= 0 && (s.Threads[end].State == 2 || s.Threads[end].State == 3)
}

// told is a state as text, in which all that may differ is to be seen.
func told(s api.State) string {
	return fmt.Sprintf("%v %v %v %v %v", s.Coins, s.Tickets, s.Threads, s.Locks, s.Queue)
}

// equal fails, if a list is not the one that is wanted.
func equal(t *testing.T, s api.State, what string, i int, got, want []int) {
	t.Helper()
	if !slices.Equal(got, want) {
		t.Fatalf("%s(%d) = %v, want %v, of %s", what, i, got, want, told(s))
	}
}

// numbers are a state's threads, those that are not used too, and some that there are not.
func numbers(s api.State) []int {
	n := len(s.Threads)
	out := []int{-1, math.MinInt, math.MaxInt, n, n + 1, -n - 1}
	for i := range n {
		out = append(out, i)
	}
	return out
}

// check holds all of a state that may be against the chapter.
func check(t *testing.T, s api.State) {
	t.Helper()
	if !state.Fine(s) {
		t.Fatalf("the test's state may not be: %s", told(s))
	}
	kept := told(s)
	for _, i := range numbers(s) {
		if got, want := Next(s, i), wantNext(s, i); got != want {
			t.Fatalf("Next(%d) = %d, want %d, of %s", i, got, want, told(s))
		}
		if got, want := End(s, i), wantEnd(s, i); got != want {
			t.Fatalf("End(%d) = %d, want %d, of %s", i, got, want, told(s))
		}
		if got := Lives(s, i); got != wantLives(s, i) {
			t.Fatalf("Lives(%d) = %v, of %s", i, got, told(s))
		}
		equal(t, s, "Tail", i, Tail(s, i), wantTail(s, i))
		equal(t, s, "Waits", i, Waits(s, i), wantWaits(s, i))
		equal(t, s, "Behind", i, Behind(s, i), wantBehind(s, i))
		for _, j := range numbers(s) {
			if got := Closes(s, i, j); got != wantCloses(s, i, j) {
				t.Fatalf("Closes(%d, %d) = %v, of %s", i, j, got, told(s))
			}
		}
	}
	checkFollows(t, s)
	if told(s) != kept {
		t.Fatalf("%s was made of %s", told(s), kept)
	}
}

// P16.3: all behind a thread have its end, and so they live just if it does.
func checkFollows(t *testing.T, s api.State) {
	t.Helper()
	for i := range s.Threads {
		for _, j := range Behind(s, i) {
			if End(s, j) != End(s, i) || Lives(s, j) != Lives(s, i) {
				t.Fatalf("%d is behind %d, and has another end, of %s", j, i, told(s))
			}
		}
	}
}

// P16.1, P16.2: the document's example, and the base alone.
func TestExamples(t *testing.T) {
	s := bare([]api.Thread{thread(api.Ready), waiting(api.Calling, 0)})
	if End(s, 1) != 0 || !Lives(s, 1) || Next(s, 1) != 0 || Next(s, 0) != -1 || End(s, 0) != 0 || !Lives(s, 0) {
		t.Error("the example")
	}
	check(t, s)
	base, _ := state.New(1)
	check(t, base)
}

// P16.1: for whom one waits, chains and their ends, of a state that is written down.
func TestChains(t *testing.T) {
	s := rich()
	check(t, s)
	for i, want := range [][]int{
		{0}, nil, {2}, {3, 0}, {4, 3, 0}, {5, 3, 0}, {6, 5, 3, 0}, {7, 5, 3, 0}, {8}, {9, 8}, {10}, {11, 10}, {12, 7, 5, 3, 0}, {13, 0}, nil,
	} {
		equal(t, s, "Tail", i, Tail(s, i), want)
		next, end := -1, -1
		if len(want) > 0 {
			end = want[len(want)-1]
		}
		if len(want) > 1 {
			next = want[1]
		}
		if Next(s, i) != next || End(s, i) != end {
			t.Errorf("%d: Next %d, End %d, want %d, %d", i, Next(s, i), End(s, i), next, end)
		}
	}
}

// P16.2: who waits for one, and who is behind one, of a state that is written down.
func TestWaitsAndBehind(t *testing.T) {
	s := rich()
	for i, want := range [][][]int{
		{{3, 13}, {3, 4, 5, 6, 7, 12, 13}},
		{nil, nil},
		{nil, nil},
		{{4, 5}, {4, 5, 6, 7, 12}},
		{nil, nil},
		{{6, 7}, {6, 7, 12}},
		{nil, nil},
		{{12}, {12}},
		{{9}, {9}},
		{nil, nil},
		{{11}, {11}},
		{nil, nil},
		{nil, nil},
		{nil, nil},
		{nil, nil},
	} {
		equal(t, s, "Waits", i, Waits(s, i), want[0])
		equal(t, s, "Behind", i, Behind(s, i), want[1])
	}
	for _, i := range []int{-1, 1, 14, 1000, math.MinInt, math.MaxInt} {
		equal(t, s, "Waits", i, Waits(s, i), nil)
		equal(t, s, "Behind", i, Behind(s, i), nil)
	}
}

// P16.2: what would close a ring, of a state that is written down.
func TestCloses(t *testing.T) {
	s := rich()
	for _, c := range []struct {
		i, j   int
		closes bool
	}{
		{0, 0, true}, {0, 3, true}, {0, 12, true}, {3, 12, true}, {5, 12, true}, {7, 12, true}, {12, 12, true}, {8, 9, true}, {10, 11, true},
		{12, 0, false}, {3, 0, false}, {4, 12, false}, {12, 4, false}, {6, 12, false}, {13, 12, false}, {2, 0, false}, {0, 2, false}, {0, 8, false}, {0, 9, false},
		{1, 1, false}, {1, 0, false}, {0, 1, false}, {-1, -1, false}, {-1, 0, false}, {0, -1, false}, {14, 14, false}, {14, 0, false}, {0, 14, false},
	} {
		if Closes(s, c.i, c.j) != c.closes {
			t.Errorf("Closes(%d, %d) = %v", c.i, c.j, !c.closes)
		}
	}
}

// P16.2: who lives, by each state of the chain's end, be it called, or holding a lock.
func TestLives(t *testing.T) {
	for end, lives := range map[int]bool{api.Asleep: false, api.Ready: true, api.Running: true, api.Listening: false} {
		threads := []api.Thread{thread(end), waiting(api.Waiting, 0), waiting(api.Calling, 1), waiting(api.Waiting, 1), thread(api.Ready)}
		s := bare(threads, 0, 2)
		check(t, s)
		for i := range 4 {
			if Lives(s, i) != lives || End(s, i) != 0 {
				t.Errorf("%d lives: %v, at the end in the state %d", i, !lives, end)
			}
		}
		if !Lives(s, 4) {
			t.Error("one that is ready does not live")
		}
	}
	s := rich()
	for i := range 16 {
		if want := i != 1 && i != 8 && i != 9 && i != 10 && i != 11 && i < 14; Lives(s, i) != want || Lives(s, -1-i) {
			t.Errorf("Lives(%d) = %v", i, !want)
		}
	}
}

// P16.1: who is called may serve another one, or nobody, and may hold locks that somebody waits for, or nobody.
func TestServesAndHolds(t *testing.T) {
	s := bare([]api.Thread{waiting(api.Calling, 1), thread(api.Ready), waiting(api.Calling, 1)}, 2, 1)
	s.Threads[1].Client = 2
	s.Queue = []int{0}
	check(t, s)
	equal(t, s, "Waits", 1, Waits(s, 1), []int{0, 2})
	equal(t, s, "Waits", 2, Waits(s, 2), nil)
	equal(t, s, "Tail", 1, Tail(s, 1), []int{1})
}

// P16.1 to P16.3: a chain of all threads that there may be, by calls and by locks.
func TestLongest(t *testing.T) {
	threads := []api.Thread{thread(api.Ready)}
	var holders []int
	for i := 1; i < api.MaxThreads; i++ {
		if i%4 == 0 {
			threads = append(threads, waiting(api.Waiting, len(holders)))
			holders = append(holders, i-1)
		} else {
			threads = append(threads, waiting(api.Calling, i-1))
		}
	}
	s := bare(threads, append(holders, 31)...)
	check(t, s)
	if len(Tail(s, 31)) != 32 || End(s, 31) != 0 || !Closes(s, 0, 31) || Closes(s, 31, 0) || len(Behind(s, 0)) != 31 {
		t.Error("a chain of all threads")
	}
}

// ways are all threads that a state of so many threads and locks may have, as far as chains tell them apart.
func ways(n, locks int) []api.Thread {
	out := []api.Thread{{}, thread(api.Asleep), thread(api.Ready), thread(api.Running), thread(api.Listening)}
	for i := range n {
		out = append(out, waiting(api.Calling, i))
	}
	for i := range locks {
		out = append(out, waiting(api.Waiting, i))
	}
	return out
}

// P16.1 to P16.3: all states that may be of three threads, and of two locks.
func TestAllSmall(t *testing.T) {
	all, seen := ways(3, 2), 0
	for a := range all {
		for b := range all {
			for c := range all {
				for held := range 16 {
					s := bare([]api.Thread{all[a], all[b], all[c]}, held%4-1, held/4-1)
					if s = state.Trim(s); state.Fine(s) {
						check(t, s)
						seen++
					}
				}
			}
		}
	}
	if seen < 1000 {
		t.Errorf("just %d states may be", seen)
	}
}

// random is a state of any many threads and locks, some of them not used, who wait along a mixed order.
func random(r *rand.Rand) api.State {
	n := 1 + r.Intn(api.MaxThreads)
	threads, order := make([]api.Thread, n), r.Perm(n)
	holders := make([]int, api.MaxLocks)
	for i := range holders {
		holders[i] = r.Intn(n)
	}
	for k, i := range order {
		lock := r.Intn(len(holders))
		ahead := slices.Index(order[:k], holders[lock]) >= 0
		switch p := r.Intn(10); {
		case p < 4 && k > 0 && threads[order[k-1-r.Intn(min(k, 4))]].State != api.Free:
			threads[i] = called(r, threads, order[max(0, k-4):k], i)
		case p < 7 && ahead && threads[holders[lock]].State != api.Free:
			threads[i] = waiting(api.Waiting, lock)
		case p == 9:
			threads[i] = api.Thread{}
		default:
			threads[i] = thread([]int{api.Asleep, api.Ready, api.Ready, api.Listening}[r.Intn(4)])
		}
	}
	for i, h := range holders {
		if threads[h].State == api.Free {
			holders[i] = -1
		}
	}
	return state.Trim(bare(threads, holders...))
}

// called is a thread that calls one of some, and is served by it, if it was listening.
func called(r *rand.Rand, threads []api.Thread, some []int, i int) api.Thread {
	to := some[r.Intn(len(some))]
	if threads[to].State == api.Free {
		return thread(api.Ready)
	}
	if threads[to].State == api.Listening {
		threads[to].State, threads[to].Client = api.Ready, i
	}
	return waiting(api.Calling, to)
}

// P16.1 to P16.3: many states of any sort, in many of which chains are long.
func TestRandom(t *testing.T) {
	r := rand.New(rand.NewSource(16))
	longest := 0
	for range 400 {
		s := random(r)
		check(t, s)
		for i := range s.Threads {
			longest = max(longest, len(Tail(s, i)))
		}
	}
	if longest < 8 {
		t.Errorf("no chain is longer than %d", longest)
	}
}

// Every call ends, and none panics, at states that may not be too, of which nothing else is promised.
func TestStatesThatMayNotBe(t *testing.T) {
	for _, s := range mayNotBe() {
		kept := told(s)
		for _, i := range append(numbers(s), 2, 3, 4) {
			Next(s, i)
			End(s, i)
			Tail(s, i)
			Waits(s, i)
			Behind(s, i)
			Lives(s, i)
			for _, j := range []int{-1, 0, 1, i, len(s.Threads), math.MinInt, math.MaxInt} {
				Closes(s, i, j)
				Closes(s, j, i)
			}
		}
		if told(s) != kept {
			t.Fatalf("%s was made of %s", told(s), kept)
		}
	}
}

// What is answered is new memory, and nothing is kept (R5).
func TestAnswersAreNew(t *testing.T) {
	for name, call := range map[string]func(api.State, int) []int{"Tail": Tail, "Waits": Waits, "Behind": Behind} {
		for i := range len(rich().Threads) {
			s := rich()
			got, again := call(s, i), call(s, i)
			want := slices.Clone(got)
			all := again[:cap(again)]
			for k := range all {
				all[k] = -7
			}
			equal(t, s, name, i, got, want)
			if told(s) != told(rich()) {
				t.Fatalf("%s(%d) is shared with the state", name, i)
			}
			clear(s.Threads)
			clear(s.Locks)
			clear(s.Queue)
			equal(t, rich(), name, i, got, want)
		}
	}
}
