package carry

import (
	"fmt"
	"math"
	"math/big"
	"math/rand"
	"slices"
	"testing"

	"tombola/api"
	"tombola/live"
	"tombola/ratio"
	"tombola/state"
	"tombola/worth"
)

// pays is a ticket that funds a thread.
func pays(coin, amount, thread int) api.Ticket {
	return api.Ticket{Used: true, Coin: coin, Amount: amount, Kind: api.ToThread, To: thread, On: true}
}

// idle is a thread that waits for nobody.
func idle(state int) api.Thread {
	return api.Thread{State: state, For: api.None, Client: api.None, Q: 1, U: 1}
}

// busy is a thread that waits: by a call for a thread, or by a lock.
func busy(state, what int) api.Thread {
	t := idle(state)
	t.For = what
	return t
}

// of is a state of the base, some threads, locks' holders, and a ticket of the base for each thread that is used, of
// which each is worth twice as much as the one ahead of it: so a sum of theirs tells whose it is.
func of(threads []api.Thread, holders ...int) api.State {
	s := api.State{Coins: []bool{true}, Threads: threads, Locks: make([]api.Lock, len(holders)), Quantum: 10}
	for i, t := range threads {
		if t.State != api.Free {
			s.Tickets = append(s.Tickets, pays(0, 1<<(i%21), i))
		}
	}
	for i, holder := range holders {
		s.Locks[i] = api.Lock{Used: true, Holder: holder}
	}
	return lineUp(s)
}

// lineUp is a state with those in its queue who belong there.
func lineUp(s api.State) api.State {
	s.Queue = nil
	for i, t := range s.Threads {
		served := t.State == api.Calling && s.Threads[t.For].Client == i
		if t.State == api.Waiting || t.State == api.Calling && !served {
			s.Queue = append(s.Queue, i)
		}
	}
	return s
}

// rich is a state in which threads wait in all ways, by locks too, for such as can go on, and such as can not; one is
// not used, and one that is ready is worth nothing.
func rich() api.State {
	s := of([]api.Thread{
		idle(api.Running),
		{},
		idle(api.Ready),
		busy(api.Calling, 0),
		busy(api.Waiting, 0),
		busy(api.Calling, 4),
		idle(api.Asleep),
		busy(api.Calling, 6),
		idle(api.Listening),
		busy(api.Waiting, 1),
		busy(api.Calling, 2),
		busy(api.Waiting, 0),
		idle(api.Ready),
	}, 3, 8)
	s.Threads[0].Client = 3
	s.Coins = []bool{true, false, true}
	s.Tickets = []api.Ticket{
		pays(0, 64, 11),
		{Used: true, Amount: 10, Kind: api.ToCoin, To: 2, On: true},
		pays(2, 1, 4),
		pays(2, 2, 10),
		pays(0, 1, 0),
		pays(0, 2, 2),
		{},
		pays(0, 4, 3),
		pays(0, 8, 5),
		pays(0, 16, 7),
		pays(0, 32, 9),
		pays(0, 128, 6),
		{Used: true, Amount: 256, Kind: api.ToThread, To: 12},
	}
	return lineUp(s)
}

// What follows is the document's chapter in the tests' own words, in fractions of the library of Go.

// forWhom is for whom a thread waits.
func forWhom(s api.State, i int) int {
	switch t := s.Threads[i]; t.State {
	case 4:
		return t.For
	case 6:
		return s.Locks[t.For].Holder
	}
	return -1
}

// wantCarried is a thread's own worth, and what those carry who wait for it.
func wantCarried(s api.State, own []*big.Rat, i int) *big.Rat {
	sum := new(big.Rat).Set(own[i])
	for j := range s.Threads {
		if forWhom(s, j) == i {
			sum.Add(sum, wantCarried(s, own, j))
		}
	}
	return sum
}

// owned is what each thread is worth itself.
func owned(s api.State) (out []*big.Rat) {
	for _, a := range worth.Threads(s) {
		own, _ := new(big.Rat).SetString(ratio.Text(a))
		out = append(out, own)
	}
	return out
}

// told is a state as text, in which all that may differ is to be seen.
func told(s api.State) string {
	return fmt.Sprintf("coins %v, tickets %v, threads %v, locks %v, queue %v", s.Coins, s.Tickets, s.Threads, s.Locks, s.Queue)
}

// same fails, if a fraction is not right, or another one than the one that is wanted.
func same(t *testing.T, s api.State, what string, got api.Ratio, want string) {
	t.Helper()
	if !ratio.Right(got) || ratio.Text(got) != want {
		t.Fatalf("%s = %v, want %s, of %s", what, got, want, told(s))
	}
}

// allSame fails, if a list's fractions are not right, or others than those that are wanted.
func allSame(t *testing.T, s api.State, got []api.Ratio, want ...string) {
	t.Helper()
	if len(got) != len(want) {
		t.Fatalf("All has %d elements, want %d, of %s", len(got), len(want), told(s))
	}
	for i := range want {
		same(t, s, fmt.Sprintf("All, of the thread %d,", i), got[i], want[i])
	}
}

// check holds all of a state that may be against the chapter.
func check(t *testing.T, s api.State) {
	t.Helper()
	before := told(s)
	if !state.Fine(s) {
		t.Fatalf("the test's state may not be: %s", before)
	}
	own, sum := owned(s), new(big.Rat)
	var want []string
	var ends []int
	for i, thread := range s.Threads {
		carried := wantCarried(s, own, i)
		want = append(want, carried.RatString())
		same(t, s, fmt.Sprintf("At(%d)", i), At(s, i), want[i])
		if thread.State == 2 || thread.State == 3 {
			ends = append(ends, i)
			sum.Add(sum, carried)
		}
	}
	allSame(t, s, All(s), want...)
	if got := Ends(s); !slices.Equal(got, ends) {
		t.Fatalf("Ends = %v, want %v, of %s", got, ends, before)
	}
	same(t, s, "Total", Total(s), sum.RatString())
	checkFollows(t, s)
	if told(s) != before {
		t.Fatalf("%s was made of %s", told(s), before)
	}
}

// checkFollows holds that those who can go on carry the base's active amount, and who waits no more than the one for
// whom it waits. (P19.2)
func checkFollows(t *testing.T, s api.State) {
	t.Helper()
	same(t, s, "Total", Total(s), fmt.Sprint(live.Amounts(s)[0]))
	all := All(s)
	for i := range s.Threads {
		if j := forWhom(s, i); j >= 0 && ratio.Cmp(all[i], all[j]) > 0 {
			t.Fatalf("%d carries %s, and waits for %d, that carries %s, of %s", i, ratio.Text(all[i]), j, ratio.Text(all[j]), told(s))
		}
	}
}

// P19.1, P19.2: the document's example, and the base alone.
func TestExamples(t *testing.T) {
	s := of([]api.Thread{idle(api.Ready), busy(api.Calling, 0)})
	s.Tickets[0].Amount, s.Tickets[1].Amount = 3, 4
	check(t, s)
	allSame(t, s, All(s), "7", "4")
	same(t, s, "Total", Total(s), "7")
	base, _ := state.New(1)
	check(t, base)
	same(t, base, "Total", Total(base), "0")
	if len(All(base))+len(Ends(base)) != 0 {
		t.Error("the base alone has threads")
	}
}

// P19.1, P19.2: all that is told of a state that is written down.
func TestRich(t *testing.T) {
	s := rich()
	check(t, s)
	allSame(t, s, All(s), "241/3", "0", "26/3", "238/3", "34/3", "8", "0", "0", "0", "0", "20/3", "64", "0")
	same(t, s, "Total", Total(s), "89")
	if got := Ends(s); !slices.Equal(got, []int{0, 2, 12}) {
		t.Errorf("Ends = %v", got)
	}
}

// P19.1: where there is no such thread, 0 is carried.
func TestNobody(t *testing.T) {
	s := rich()
	for _, i := range []int{1, 13, 14, 31, 32, 1000, -1, -12, math.MinInt, math.MaxInt} {
		same(t, s, fmt.Sprintf("At(%d)", i), At(s, i), "0")
	}
	base, _ := state.New(1)
	same(t, base, "At(0)", At(base, 0), "0")
}

// P19.1: who is Ready or Running is an end, be it called, or holding a lock, or not; nobody else is.
func TestEnds(t *testing.T) {
	s := of([]api.Thread{
		{}, idle(api.Listening), idle(api.Ready), busy(api.Calling, 2), busy(api.Waiting, 0), idle(api.Asleep), idle(api.Running), idle(api.Ready),
	}, 6)
	check(t, s)
	if got := Ends(s); !slices.Equal(got, []int{2, 6, 7}) {
		t.Errorf("Ends = %v", got)
	}
	s = of([]api.Thread{idle(api.Asleep), busy(api.Calling, 0), idle(api.Listening), busy(api.Waiting, 0)}, 2)
	check(t, s)
	if got := Ends(s); len(got) != 0 {
		t.Errorf("Ends = %v, where nobody can go on", got)
	}
	same(t, s, "Total", Total(s), "0")
}

// P19.1, P19.2: what one is worth goes to all of its chain, as long as its end can go on, and only then.
func TestEndFallsAsleep(t *testing.T) {
	s := of([]api.Thread{idle(api.Ready), busy(api.Calling, 0), busy(api.Waiting, 0), busy(api.Waiting, 0), idle(api.Running)}, 1)
	check(t, s)
	allSame(t, s, All(s), "15", "14", "4", "8", "16")
	s.Threads[0].State = api.Asleep
	check(t, s)
	allSame(t, s, All(s), "0", "0", "0", "0", "16")
	s.Threads[0].State, s.Tickets[1].On = api.Ready, false
	check(t, s)
	allSame(t, s, All(s), "13", "12", "4", "8", "16")
}

// P19.1, P19.2: a chain of all threads that there may be, each with a share of a coin, and as much as there may be.
func TestLongest(t *testing.T) {
	threads := []api.Thread{idle(api.Ready)}
	var holders []int
	for i := 1; i < api.MaxThreads; i++ {
		threads = append(threads, busy(api.Calling, i-1))
		if i%4 == 0 {
			threads[i] = busy(api.Waiting, len(holders))
			holders = append(holders, i-1)
		}
	}
	s := of(threads, holders...)
	s.Coins = []bool{true, true}
	for i := range s.Tickets {
		s.Tickets[i].Coin, s.Tickets[i].Amount = 1, api.MaxAmount-i
	}
	s.Tickets = append(s.Tickets, api.Ticket{Used: true, Amount: api.MaxAmount, Kind: api.ToCoin, To: 1, On: true})
	for range 50 {
		s.Tickets = append(s.Tickets, pays(0, api.MaxAmount, 31))
	}
	check(t, s)
	same(t, s, "At(0)", At(s, 0), "53477376")
	same(t, s, "Total", Total(s), "53477376")
}

// P19.1, P19.2: all states that may be of three threads, and of two locks.
func TestAllSmall(t *testing.T) {
	kinds := []api.Thread{
		{}, idle(api.Asleep), idle(api.Ready), idle(api.Running), idle(api.Listening), busy(api.Calling, 0), busy(api.Calling, 1),
		busy(api.Calling, 2), busy(api.Waiting, 0), busy(api.Waiting, 1),
	}
	n, seen := len(kinds), 0
	for k := range n * n * n * 16 {
		three := []api.Thread{kinds[k/16%n], kinds[k/16/n%n], kinds[k/16/n/n]}
		s := state.Trim(of(three, k%4-1, k/4%4-1))
		if state.Fine(s) {
			check(t, s)
			seen++
		}
	}
	if seen < 1000 {
		t.Errorf("just %d states may be", seen)
	}
}

// put lets a thread wait for another one, by a call, that is served if it may be, or by a lock.
func put(r *rand.Rand, s *api.State, i, other int) {
	if len(s.Locks) == api.MaxLocks || r.Intn(3) > 0 {
		s.Threads[i] = busy(api.Calling, other)
		if t := &s.Threads[other]; t.State == api.Listening || t.Client == api.None && r.Intn(2) == 0 {
			t.Client = i
		}
		if s.Threads[other].State == api.Listening {
			s.Threads[other].State = api.Ready
		}
		return
	}
	s.Threads[i] = busy(api.Waiting, len(s.Locks))
	s.Locks = append(s.Locks, api.Lock{Used: true, Holder: other})
}

// random is a state of any many threads, some of them not used, each of which waits for nobody, or for one that is
// near it in a mixed order; they are funded by the base, and by two coins.
func random(r *rand.Rand) api.State {
	s := api.State{Coins: []bool{true, true, true}, Threads: make([]api.Thread, 1+r.Intn(api.MaxThreads)), Quantum: 10}
	var ahead []int
	for _, i := range r.Perm(len(s.Threads)) {
		switch p := r.Intn(8); {
		case p == 0:
			continue
		case p > 2 && len(ahead) > 0:
			put(r, &s, i, ahead[max(0, len(ahead)-1-r.Intn(4))])
		default:
			s.Threads[i] = idle([]int{api.Ready, api.Ready, api.Ready, api.Asleep, api.Listening}[r.Intn(5)])
		}
		ahead = append(ahead, i)
	}
	if first := slices.IndexFunc(s.Threads, func(t api.Thread) bool { return t.State == api.Ready }); first >= 0 && r.Intn(2) == 0 {
		s.Threads[first].State = api.Running
	}
	s.Tickets = funding(r, ahead)
	return state.Trim(lineUp(s))
}

// funding are tickets of three coins for some threads, and of the base and the third coin for others.
func funding(r *rand.Rand, threads []int) []api.Ticket {
	l := []api.Ticket{
		{Used: true, Amount: 1 + r.Intn(100), Kind: api.ToCoin, To: 2, On: true},
		{Used: true, Amount: 1 + r.Intn(100), Kind: api.ToCoin, To: 1, On: true},
		{Used: true, Coin: 2, Amount: 1 + r.Intn(100), Kind: api.ToCoin, To: 1, On: r.Intn(2) == 0},
	}
	for range r.Intn(60) {
		if len(threads) > 0 {
			t := pays(r.Intn(3), 1+r.Intn(20), threads[r.Intn(len(threads))])
			t.On = r.Intn(8) > 0
			l = append(l, t)
		}
	}
	return l
}

// P19.1, P19.2: many states of any sort, in many of which others' fractions are carried.
func TestRandom(t *testing.T) {
	r, more := rand.New(rand.NewSource(19)), 0
	for range 500 {
		s := random(r)
		check(t, s)
		own := worth.Threads(s)
		for i, a := range All(s) {
			if ratio.Cmp(a, own[i]) > 0 && len(a.Den) > 0 && a.Den[0] > 1 {
				more++
			}
		}
	}
	if more < 500 {
		t.Errorf("only %d threads carry what is broken, and more than their own worth", more)
	}
}

// Every call ends, and none panics, at states that may not be too, of which nothing else is promised.
func TestStatesThatMayNotBe(t *testing.T) {
	ring := of([]api.Thread{busy(api.Calling, 1), busy(api.Calling, 2), busy(api.Calling, 0)})
	lead := of([]api.Thread{busy(api.Calling, 1), busy(api.Waiting, 0), busy(api.Calling, 0), idle(api.Ready)}, 0)
	self := of([]api.Thread{busy(api.Calling, 0), busy(api.Waiting, 0)}, 1)
	lost := api.State{
		Threads: []api.Thread{busy(api.Calling, -1), busy(api.Calling, 99), busy(api.Waiting, math.MinInt), busy(api.Waiting, 1), busy(api.Calling, 5), {}, idle(7)},
		Tickets: []api.Ticket{pays(0, 1, 0), pays(1, 1, 1), pays(-1, 1, 2), pays(0, -1, 99), pays(0, 1, -1), pays(0, math.MaxInt, 3)},
		Locks:   []api.Lock{{}, {Used: true, Holder: math.MaxInt}},
	}
	many := of(slices.Repeat([]api.Thread{idle(api.Ready), busy(api.Calling, 0), {}}, 100))
	for _, s := range []api.State{{}, ring, lead, self, lost, many, {Threads: make([]api.Thread, 100)}, {Threads: ring.Threads}} {
		kept := told(s)
		if len(All(s)) != len(s.Threads) {
			t.Errorf("All has another length, of %s", kept)
		}
		Ends(s)
		Total(s)
		for _, i := range []int{-1, 0, 1, 2, 3, 4, 5, 6, 7, 299, math.MinInt, math.MaxInt} {
			At(s, i)
		}
		if told(s) != kept {
			t.Fatalf("%s was made of %s", told(s), kept)
		}
	}
}

// scribble writes into the digits of a fraction, and what lies behind their ends.
func scribble(a api.Ratio) {
	for _, digits := range []api.Nat{a.Num, a.Den} {
		for i := range digits[:cap(digits)] {
			digits[:cap(digits)][i] = 555
		}
	}
}

// What is answered is new memory, none of which is shared by two, and nothing is kept (R5).
func TestAnswersAreNew(t *testing.T) {
	s := rich()
	want, all := All(s), All(s)
	for i, a := range all {
		scribble(a)
		for j := i + 1; j < len(all); j++ {
			if !ratio.Same(all[j], want[j]) {
				t.Fatalf("what the threads %d and %d carry is shared", i, j)
			}
		}
	}
	scribble(At(s, 0))
	scribble(At(s, 1))
	scribble(Total(s))
	ends := Ends(s)
	for i := range ends[:cap(ends)] {
		ends[:cap(ends)][i] = -7
	}
	check(t, s)
	if told(s) != told(rich()) {
		t.Error("an answer is shared with the state")
	}
	clear(s.Threads)
	clear(s.Tickets)
	if !slices.EqualFunc(want, All(rich()), ratio.Same) {
		t.Error("an answer hangs on the state that was handed over")
	}
}
