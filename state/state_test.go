package state

import (
	"fmt"
	"math"
	"math/rand"
	"slices"
	"testing"

	"tombola/api"
	"tombola/dag"
)

// thread is a thread of a state, that waits for nobody, serves nobody, and has the factor 1.
func thread(state int) api.Thread {
	return api.Thread{State: state, For: -1, Client: -1, Q: 1, U: 1}
}

// waiting is a thread of a state in which it waits for something.
func waiting(state, what int) api.Thread {
	t := thread(state)
	t.For = what
	return t
}

// serving is a thread that serves another one.
func serving(t api.Thread, client int) api.Thread {
	t.Client = client
	return t
}

// rich is a state that may be, and has one of each kind: places that are not used, too, in each list.
func rich() api.State {
	return api.State{
		Coins: []bool{true, false, true, true},
		Tickets: []api.Ticket{
			{Used: true, Coin: 0, Amount: 10, Kind: api.ToCoin, To: 2, On: true},
			{Used: true, Coin: 2, Amount: 1, Kind: api.ToCoin, To: 3},
			{},
			{Used: true, Coin: 3, Amount: 5, Kind: api.ToThread, To: 0, On: true},
			{Used: true, Coin: 0, Amount: api.MaxAmount, Kind: api.ToNone, On: true},
			{Used: true, Coin: 0, Amount: 1, Kind: api.ToThread, To: 9},
		},
		Threads: []api.Thread{
			{State: api.Running, For: -1, Client: 3, Q: 10, U: 3},
			{},
			thread(api.Ready),
			waiting(api.Calling, 0),
			waiting(api.Calling, 0),
			waiting(api.Waiting, 0),
			{State: api.Waiting, For: 0, Client: -1, Q: 2, U: 1},
			thread(api.Listening),
			thread(api.Asleep),
			waiting(api.Calling, 3),
		},
		Locks: []api.Lock{
			{Used: true, Holder: 2},
			{},
			{Used: true, Holder: -1},
			{Used: true, Holder: 5},
		},
		Queue:   []int{9, 5, 4, 6},
		Quantum: 10,
	}
}

// spoilt is a state that may not be: what is not used is not zero, and stands at the lists' ends, too.
func spoilt() api.State {
	s := rich()
	s.Coins = append(s.Coins, false, false)
	s.Tickets[2] = api.Ticket{Coin: 7, Amount: -1, Kind: 9, To: 3, On: true}
	s.Tickets = append(s.Tickets, api.Ticket{Amount: 4}, api.Ticket{}, api.Ticket{On: true})
	s.Threads[1] = api.Thread{For: 3, Client: 4, Q: 5, U: 6}
	s.Threads = append(s.Threads, api.Thread{}, api.Thread{For: -1})
	s.Locks[1] = api.Lock{Holder: 5}
	s.Locks = append(s.Locks, api.Lock{Holder: -1}, api.Lock{})
	s.Queue = []int{0, 0}
	s.Quantum = -3
	return s
}

// states are states of all sorts, whether they may be or not.
func states() []api.State {
	return []api.State{
		{},
		{Coins: []bool{}, Tickets: []api.Ticket{}, Threads: []api.Thread{}, Locks: []api.Lock{}, Queue: []int{}},
		{Coins: []bool{true}, Quantum: 10},
		{Coins: []bool{false}},
		{Tickets: make([]api.Ticket, 3), Threads: make([]api.Thread, 3), Locks: make([]api.Lock, 3), Queue: make([]int, 3)},
		rich(),
		spoilt(),
		long(110),
	}
}

// long is a state whose lists have so many elements each, all of them used.
func long(n int) api.State {
	return api.State{
		Coins:   slices.Repeat([]bool{true}, n),
		Tickets: slices.Repeat([]api.Ticket{{Used: true, Amount: 1}}, n),
		Threads: slices.Repeat([]api.Thread{thread(api.Asleep)}, n),
		Locks:   slices.Repeat([]api.Lock{{Used: true, Holder: -1}}, n),
		Quantum: 1,
	}
}

// told is a state as text, in which all that may differ is to be seen.
func told(s api.State) string {
	return fmt.Sprintf("%v %v %v %v %v %v", s.Coins, s.Tickets, s.Threads, s.Locks, s.Queue, s.Quantum)
}

// equal fails, if a state is not the one that is wanted.
func equal(t *testing.T, what string, got, want api.State) {
	t.Helper()
	if told(got) != told(want) {
		t.Fatalf("%s = %s, want %s", what, told(got), told(want))
	}
}

// own is all of a state in memory of its own, made without the package's help.
func own(s api.State) api.State {
	return api.State{
		Coins:   append([]bool{}, s.Coins...),
		Tickets: append([]api.Ticket{}, s.Tickets...),
		Threads: append([]api.Thread{}, s.Threads...),
		Locks:   append([]api.Lock{}, s.Locks...),
		Queue:   append([]int{}, s.Queue...),
		Quantum: s.Quantum,
	}
}

// What follows is the document's chapter, word by word, for the tests to hold Fine against.

// usedThread tells whether there is such a thread.
func usedThread(s api.State, i int) bool {
	return i >= 0 && i < len(s.Threads) && s.Threads[i].State != 0
}

// usedLock tells whether there is such a lock.
func usedLock(s api.State, i int) bool {
	return i >= 0 && i < len(s.Locks) && s.Locks[i].Used
}

// usedCoin tells whether there is such a coin.
func usedCoin(s api.State, i int) bool {
	return i >= 0 && i < len(s.Coins) && s.Coins[i]
}

// coinsMayBe is what the chapter says of coins, and of the quantum.
func coinsMayBe(s api.State) bool {
	n := len(s.Coins)
	return n >= 1 && n <= 16 && s.Coins[0] && s.Coins[n-1] && s.Quantum > 0 && s.Quantum < 1001
}

// ticketsMayBe is what the chapter says of tickets.
func ticketsMayBe(s api.State) bool {
	n := len(s.Tickets)
	if n > 96 || n > 0 && !s.Tickets[n-1].Used {
		return false
	}
	for _, k := range s.Tickets {
		zero := !k.Used && k.Coin == 0 && k.Amount == 0 && k.Kind == 0 && k.To == 0 && !k.On
		none := k.Kind == 0 && k.To == 0
		some := k.Kind == 1 && usedThread(s, k.To) || k.Kind == 2 && usedCoin(s, k.To) && k.To != 0
		if !zero && !(k.Used && usedCoin(s, k.Coin) && k.Amount > 0 && k.Amount < 1<<20+1 && (none || some)) {
			return false
		}
	}
	return true
}

// threadMayBe is what the chapter says of one thread.
func threadMayBe(s api.State, i int) bool {
	t := s.Threads[i]
	if t.State == 0 {
		return t.For == 0 && t.Client == 0 && t.Q == 0 && t.U == 0
	}
	if t.State < 0 || t.State > 6 {
		return false
	}
	calls := t.State == 4 && usedThread(s, t.For) && t.For != i
	waits := t.State == 6 && usedLock(s, t.For)
	alone := t.State != 4 && t.State != 6 && t.For == -1
	serves := t.State != 5 && usedThread(s, t.Client) && s.Threads[t.Client].State == 4 && s.Threads[t.Client].For == i
	factor := t.Q == 1 && t.U == 1 || t.U >= 1 && t.Q > t.U && s.Quantum >= t.Q
	return (calls || waits || alone) && (t.Client == -1 || serves) && factor
}

// threadsMayBe is what the chapter says of threads.
func threadsMayBe(s api.State) bool {
	n := len(s.Threads)
	if n > 32 || n > 0 && s.Threads[n-1].State == 0 {
		return false
	}
	running := 0
	for i, t := range s.Threads {
		if !threadMayBe(s, i) {
			return false
		}
		if t.State == 3 {
			running++
		}
	}
	return running < 2
}

// locksMayBe is what the chapter says of locks.
func locksMayBe(s api.State) bool {
	n := len(s.Locks)
	if n > 8 || n > 0 && !s.Locks[n-1].Used {
		return false
	}
	for i, l := range s.Locks {
		if !l.Used && l.Holder != 0 || l.Used && l.Holder != -1 && !usedThread(s, l.Holder) {
			return false
		}
		for j, t := range s.Threads {
			if l.Used && t.State == 6 && t.For == i && (l.Holder == -1 || l.Holder == j) {
				return false
			}
		}
	}
	return true
}

// queueMayBe is what the chapter says of the queue.
func queueMayBe(s api.State) bool {
	waits := map[int]bool{}
	for i, t := range s.Threads {
		waits[i] = t.State == 6 || t.State == 4
	}
	for _, t := range s.Threads {
		if t.State != 0 && t.Client != -1 {
			waits[t.Client] = false
		}
	}
	for _, i := range s.Queue {
		if !waits[i] || s.Threads[i].State == 4 && s.Threads[s.Threads[i].For].State == 5 {
			return false
		}
		waits[i] = false
	}
	for _, left := range waits {
		if left {
			return false
		}
	}
	return true
}

// turns tells whether one comes back to itself, by so many arrows as there are at most.
func turns(l []dag.Arrow) bool {
	for _, first := range l {
		at := map[int]bool{first.To: true}
		for range l {
			for _, arrow := range l {
				at[arrow.To] = at[arrow.To] || at[arrow.From]
			}
		}
		if at[first.From] {
			return true
		}
	}
	return false
}

// ringsMayBe is what the chapter says of arrows.
func ringsMayBe(s api.State) bool {
	var coins, threads []dag.Arrow
	for _, k := range s.Tickets {
		if k.Used && k.Kind == 2 {
			coins = append(coins, dag.Arrow{From: k.Coin, To: k.To})
		}
	}
	for i, t := range s.Threads {
		if t.State == 4 {
			threads = append(threads, dag.Arrow{From: i, To: t.For})
		}
		if t.State == 6 {
			threads = append(threads, dag.Arrow{From: i, To: s.Locks[t.For].Holder})
		}
	}
	return !turns(coins) && !turns(threads)
}

// mayBe is all that the chapter says.
func mayBe(s api.State) bool {
	return coinsMayBe(s) && ticketsMayBe(s) && threadsMayBe(s) && locksMayBe(s) && queueMayBe(s) && ringsMayBe(s)
}

// checkFine holds Fine against what is wanted, and against the chapter.
func checkFine(t *testing.T, what string, s api.State, want bool) {
	t.Helper()
	if mayBe(s) != want {
		t.Fatalf("%s: the test's own chapter says %v of %s", what, !want, told(s))
	}
	kept := told(s)
	if got := Fine(s); got != want {
		t.Fatalf("%s: Fine(%s) = %v", what, kept, got)
	}
	if told(s) != kept {
		t.Fatalf("%s: Fine made %s of %s", what, told(s), kept)
	}
}

// change is something that is done to a state that may be, and whether what comes of it may be.
type change struct {
	name string
	fine bool
	do   func(s *api.State)
}

// checkChanges does each to a rich state of its own.
func checkChanges(t *testing.T, l []change) {
	t.Helper()
	checkFine(t, "rich", rich(), true)
	for _, c := range l {
		s := rich()
		c.do(&s)
		checkFine(t, c.name, s, c.fine)
	}
}

// P14.1: quanta are from 1 to 1000.
func TestNew(t *testing.T) {
	for _, q := range []int{1, 2, 10, 999, 1000} {
		s, err := New(q)
		if err != api.OK {
			t.Errorf("New(%d): %v", q, err)
		}
		equal(t, "New", s, api.State{Coins: []bool{true}, Quantum: q})
		checkFine(t, "New", s, true)
	}
	for _, q := range []int{0, -1, 1001, 1 << 32, math.MinInt, math.MaxInt} {
		s, err := New(q)
		if err != api.ErrArg {
			t.Errorf("New(%d): %v", q, err)
		}
		equal(t, "New", s, api.State{})
	}
}

// P14.1: the quantum.
func TestFineQuantum(t *testing.T) {
	for _, q := range []int{1, 2, 9, 10, 999, 1000} {
		checkFine(t, "quantum", api.State{Coins: []bool{true}, Quantum: q}, true)
	}
	for _, q := range []int{0, -1, -10, 1001, 1 << 32, math.MinInt, math.MaxInt} {
		checkFine(t, "quantum", api.State{Coins: []bool{true}, Quantum: q}, false)
	}
	checkChanges(t, []change{
		{"as the greatest Q", true, func(s *api.State) { s.Quantum = 10 }},
		{"the most", true, func(s *api.State) { s.Quantum = 1000 }},
		{"below a Q", false, func(s *api.State) { s.Quantum = 9 }},
	})
}

// P14.1: coins.
func TestFineCoins(t *testing.T) {
	checkChanges(t, []change{
		{"none", false, func(s *api.State) { s.Coins = nil }},
		{"no base", false, func(s *api.State) { s.Coins[0] = false }},
		{"one more", true, func(s *api.State) { s.Coins = append(s.Coins, true) }},
		{"one more that is not used", false, func(s *api.State) { s.Coins = append(s.Coins, false) }},
		{"one more in between", true, func(s *api.State) { s.Coins[1] = true }},
	})
	checkFine(t, "nothing at all", api.State{Quantum: 10}, false)
	checkFine(t, "no base", api.State{Coins: []bool{false}, Quantum: 10}, false)
	checkFine(t, "no base", api.State{Coins: []bool{false, true}, Quantum: 10}, false)
}

// P14.1: lists as long as they may be, and longer ones; in each of them some that are not used.
func TestFineLengths(t *testing.T) {
	for n := range 120 {
		checkFine(t, "coins", api.State{Coins: append(make([]bool, n), true), Quantum: 1}, n == 0)
		coins := append(append([]bool{true}, make([]bool, n)...), true)
		checkFine(t, "coins", api.State{Coins: coins, Quantum: 1}, n+2 <= 16)
		base := []bool{true}
		tickets := append(make([]api.Ticket, n), api.Ticket{Used: true, Amount: 1})
		checkFine(t, "tickets", api.State{Coins: base, Tickets: tickets, Quantum: 1}, n+1 <= 96)
		threads := append(make([]api.Thread, n), thread(api.Asleep))
		checkFine(t, "threads", api.State{Coins: base, Threads: threads, Quantum: 1}, n+1 <= 32)
		locks := append(make([]api.Lock, n), api.Lock{Used: true, Holder: -1})
		checkFine(t, "locks", api.State{Coins: base, Locks: locks, Quantum: 1}, n+1 <= 8)
		checkFine(t, "all", long(n), n >= 1 && n <= 8)
		checkFine(t, "a queue of nobody", api.State{Coins: base, Queue: make([]int, n), Quantum: 1}, n == 0)
	}
}

// P14.1: states whose lists are all as long as they may be.
func TestFineFull(t *testing.T) {
	s := long(16)
	s.Tickets = slices.Repeat([]api.Ticket{{Used: true, Coin: 15, Amount: api.MaxAmount, Kind: api.ToThread, To: 31}}, 96)
	s.Locks = slices.Repeat([]api.Lock{{Used: true, Holder: 31}}, 8)
	s.Threads = nil
	for i := range 31 {
		s.Threads = append(s.Threads, waiting(api.Waiting, i%8))
		s.Queue = append([]int{i}, s.Queue...)
	}
	s.Threads = append(s.Threads, thread(api.Running))
	checkFine(t, "full", s, true)
	for i := range 31 {
		s.Threads[i] = waiting(api.Calling, i+1)
	}
	checkFine(t, "a chain of all", s, true)
	s.Threads[31] = waiting(api.Calling, 0)
	s.Queue = append(s.Queue, 31)
	checkFine(t, "a ring of all", s, false)
	s.Threads[31] = waiting(api.Calling, 32)
	checkFine(t, "a chain to nobody", s, false)
}

// P14.1: tickets.
func TestFineTickets(t *testing.T) {
	var l []change
	for _, c := range []struct {
		fine   bool
		ticket api.Ticket
	}{
		{true, api.Ticket{Used: true, Coin: 2, Amount: 1}},
		{true, api.Ticket{Used: true, Coin: 3, Amount: 1, On: true}},
		{true, api.Ticket{Used: true, Amount: 1 << 20, Kind: api.ToThread, To: 8}},
		{true, api.Ticket{Used: true, Amount: 7, Kind: api.ToCoin, To: 3}},
		{false, api.Ticket{}},
		{false, api.Ticket{Used: true}},
		{false, api.Ticket{Used: true, Amount: -1}},
		{false, api.Ticket{Used: true, Amount: 1<<20 + 1}},
		{false, api.Ticket{Used: true, Coin: 1, Amount: 1}},
		{false, api.Ticket{Used: true, Coin: 4, Amount: 1}},
		{false, api.Ticket{Used: true, Coin: -1, Amount: 1}},
		{false, api.Ticket{Used: true, Amount: 1, To: 1}},
		{false, api.Ticket{Used: true, Amount: 1, To: -1}},
		{false, api.Ticket{Used: true, Amount: 1, Kind: api.ToThread, To: 1}},
		{false, api.Ticket{Used: true, Amount: 1, Kind: api.ToThread, To: 10}},
		{false, api.Ticket{Used: true, Amount: 1, Kind: api.ToThread, To: -1}},
		{false, api.Ticket{Used: true, Coin: 2, Amount: 1, Kind: api.ToCoin}},
		{false, api.Ticket{Used: true, Amount: 1, Kind: api.ToCoin}},
		{false, api.Ticket{Used: true, Amount: 1, Kind: api.ToCoin, To: 1}},
		{false, api.Ticket{Used: true, Amount: 1, Kind: api.ToCoin, To: 4}},
		{false, api.Ticket{Used: true, Amount: 1, Kind: api.ToCoin, To: -1}},
		{false, api.Ticket{Used: true, Amount: 1, Kind: 3}},
		{false, api.Ticket{Used: true, Amount: 1, Kind: 3, To: 2}},
		{false, api.Ticket{Used: true, Amount: 1, Kind: -1}},
	} {
		l = append(l, change{"at the end", c.fine, func(s *api.State) { s.Tickets = append(s.Tickets, c.ticket) }})
		inside := c.fine || c.ticket == api.Ticket{}
		l = append(l, change{"in between", inside, func(s *api.State) { s.Tickets[2] = c.ticket }})
	}
	checkChanges(t, l)
}

// P14.1: the arrows of coins have no ring, be their tickets on or not.
func TestFineCoinRings(t *testing.T) {
	for _, on := range []bool{true, false} {
		to := func(from, to int) func(s *api.State) {
			return func(s *api.State) {
				s.Tickets = append(s.Tickets, api.Ticket{Used: true, Coin: from, Amount: 1, Kind: api.ToCoin, To: to, On: on})
			}
		}
		checkChanges(t, []change{
			{"to itself", false, to(2, 2)},
			{"back", false, to(3, 2)},
			{"once more", true, to(2, 3)},
			{"past one", true, to(0, 3)},
			{"to a ring of three", false, func(s *api.State) {
				s.Coins = append(s.Coins, true)
				to(3, 4)(s)
				to(4, 2)(s)
			}},
			{"on to one more", true, func(s *api.State) {
				s.Coins = append(s.Coins, true)
				to(3, 4)(s)
				to(2, 4)(s)
			}},
			{"a ring of numbers, but not of coins", true, func(s *api.State) {
				s.Tickets = append(s.Tickets, api.Ticket{Used: true, Coin: 3, Amount: 1, Kind: api.ToThread, To: 2, On: on})
			}},
		})
	}
}

// P14.1: what is not used is zero.
func TestFineNotUsed(t *testing.T) {
	var l []change
	for _, k := range []api.Ticket{{Coin: 2}, {Amount: 1}, {Kind: 1}, {To: 2}, {On: true}, {To: -1}} {
		l = append(l, change{"ticket", false, func(s *api.State) { s.Tickets[2] = k }})
		l = append(l, change{"last ticket", false, func(s *api.State) { s.Tickets = append(s.Tickets, k) }})
	}
	for _, x := range []api.Thread{{For: 1}, {For: -1}, {Client: -1}, {Client: 3}, {Q: 1}, {U: 1}, {Q: 1, U: 1}} {
		l = append(l, change{"thread", false, func(s *api.State) { s.Threads[1] = x }})
		l = append(l, change{"last thread", false, func(s *api.State) { s.Threads = append(s.Threads, x) }})
	}
	for _, x := range []api.Lock{{Holder: -1}, {Holder: 2}} {
		l = append(l, change{"lock", false, func(s *api.State) { s.Locks[1] = x }})
		l = append(l, change{"last lock", false, func(s *api.State) { s.Locks = append(s.Locks, x) }})
	}
	l = append(l,
		change{"last ticket", false, func(s *api.State) { s.Tickets = append(s.Tickets, api.Ticket{}) }},
		change{"last thread", false, func(s *api.State) { s.Threads = append(s.Threads, api.Thread{}) }},
		change{"last lock", false, func(s *api.State) { s.Locks = append(s.Locks, api.Lock{}) }},
	)
	checkChanges(t, l)
}

// P14.1: threads of each state, and what they wait for.
func TestFineFor(t *testing.T) {
	put := func(x api.Thread, queue ...int) func(s *api.State) {
		return func(s *api.State) {
			s.Threads = append(s.Threads, x)
			s.Queue = append(s.Queue, queue...)
		}
	}
	l := []change{
		{"calls", true, put(waiting(api.Calling, 2), 10)},
		{"calls who sleeps", true, put(waiting(api.Calling, 8), 10)},
		{"calls who waits", true, put(waiting(api.Calling, 5), 10)},
		{"calls who calls", true, put(waiting(api.Calling, 4), 10)},
		{"calls itself", false, put(waiting(api.Calling, 10), 10)},
		{"calls nobody", false, put(waiting(api.Calling, -1), 10)},
		{"calls who is not used", false, put(waiting(api.Calling, 1), 10)},
		{"calls who is not there", false, put(waiting(api.Calling, 11), 10)},
		{"waits", true, put(waiting(api.Waiting, 3), 10)},
		{"waits for a lock that nobody holds", false, put(waiting(api.Waiting, 2), 10)},
		{"waits for nothing", false, put(waiting(api.Waiting, -1), 10)},
		{"waits for what is not used", false, put(waiting(api.Waiting, 1), 10)},
		{"waits for what is not there", false, put(waiting(api.Waiting, 4), 10)},
		{"one more runs", false, put(thread(api.Running))},
		{"no state", false, put(thread(7))},
		{"no state", false, put(thread(-1))},
		{"no state, and serves", false, func(s *api.State) { s.Threads[0].State = 7 }},
	}
	for _, state := range []int{api.Asleep, api.Ready, api.Listening} {
		l = append(l, change{"waits for nobody", true, put(thread(state))})
		for _, what := range []int{0, 2, -2, 10} {
			l = append(l, change{"waits, but ought not", false, put(waiting(state, what))})
		}
	}
	checkChanges(t, l)
}

// P14.1: whom threads serve.
func TestFineClient(t *testing.T) {
	serve := func(i, client int) func(s *api.State) {
		return func(s *api.State) { s.Threads[i].Client = client }
	}
	// unqueue serves a thread that was in the queue, which it leaves.
	unqueue := func(i, client int) func(s *api.State) {
		return func(s *api.State) {
			s.Threads[i].Client = client
			s.Queue = slices.DeleteFunc(s.Queue, func(j int) bool { return j == client })
		}
	}
	l := []change{
		{"one that is not used", false, serve(0, 1)},
		{"one that is not there", false, serve(0, 10)},
		{"one below", false, serve(0, -2)},
		{"itself", false, serve(0, 0)},
		{"one that sleeps", false, serve(0, 8)},
		{"one that calls another one", false, unqueue(0, 9)},
		{"one that waits for a lock of that number", false, unqueue(0, 5)},
		{"one who is served already", false, serve(2, 3)},
		{"who calls serves, too", true, unqueue(3, 9)},
		{"another one, and the first one waits", true, func(s *api.State) {
			unqueue(0, 4)(s)
			s.Queue = append(s.Queue, 3)
		}},
		{"another one, and the first one does not wait", false, unqueue(0, 4)},
		{"nobody, and who was served does not wait", false, serve(0, -1)},
		{"nobody, and who was served waits", true, func(s *api.State) {
			serve(0, -1)(s)
			s.Queue = append(s.Queue, 3)
		}},
		{"a number that is not used says nothing", true, func(s *api.State) {
			s.Threads[8] = waiting(api.Calling, 2)
			s.Queue = append(s.Queue, 8)
		}},
	}
	for state, fine := range map[int]bool{api.Asleep: true, api.Ready: true, api.Running: true, api.Listening: false} {
		l = append(l, change{"a state that serves", fine, func(s *api.State) { s.Threads[0].State = state }})
	}
	checkChanges(t, l)
}

// P14.1: the thread 0, which a thread that is not used does not serve, though its Client is 0.
func TestFineClientOfNought(t *testing.T) {
	s := api.State{Coins: []bool{true}, Threads: []api.Thread{waiting(api.Calling, 2), {}, thread(api.Ready)}, Quantum: 1}
	checkFine(t, "does not wait", s, false)
	s.Queue = []int{0}
	checkFine(t, "waits", s, true)
	s.Threads[2].Client = 0
	checkFine(t, "waits, but is served", s, false)
	s.Queue = nil
	checkFine(t, "is served", s, true)
}

// P14.1: factors.
func TestFineFactor(t *testing.T) {
	for _, quantum := range []int{1, 2, 3, 10, 1000} {
		for _, q := range []int{-1, 0, 1, 2, 3, 9, 10, 11, 999, 1000, 1001, math.MaxInt} {
			for _, u := range []int{-1, 0, 1, 2, 3, 9, 10, 11, 999, 1000, 1001, math.MaxInt, math.MinInt} {
				x := api.Thread{State: api.Ready, For: -1, Client: -1, Q: q, U: u}
				s := api.State{Coins: []bool{true}, Threads: []api.Thread{x}, Quantum: quantum}
				checkFine(t, "factor", s, q == 1 && u == 1 || u >= 1 && u < q && q <= quantum)
			}
		}
	}
}

// P14.1: locks and who holds them.
func TestFineLocks(t *testing.T) {
	hold := func(l, holder int) func(s *api.State) {
		return func(s *api.State) { s.Locks[l] = api.Lock{Used: true, Holder: holder} }
	}
	checkChanges(t, []change{
		{"who runs", true, hold(0, 0)},
		{"who sleeps", true, hold(0, 8)},
		{"who listens", true, hold(0, 7)},
		{"who calls", true, hold(0, 9)},
		{"nobody, though two wait", false, hold(0, -1)},
		{"who waits for it", false, hold(0, 5)},
		{"who waits for it", false, hold(0, 6)},
		{"who waits for another one", true, hold(2, 6)},
		{"who calls the thread of that number", true, hold(2, 3)},
		{"one that is not used", false, hold(0, 1)},
		{"one that is not there", false, hold(0, 10)},
		{"one below", false, hold(0, -2)},
		{"one that nobody needs, one that is not used", false, hold(2, 1)},
		{"one that nobody needs, one that is not there", false, hold(2, 10)},
		{"one more", true, hold(1, -1)},
		{"not used any more, though two wait", false, func(s *api.State) { s.Locks[0] = api.Lock{} }},
		{"not used any more", true, func(s *api.State) { s.Locks[2] = api.Lock{} }},
	})
}

// P14.1: the queue.
func TestFineQueue(t *testing.T) {
	queue := func(l ...int) func(s *api.State) {
		return func(s *api.State) { s.Queue = l }
	}
	checkChanges(t, []change{
		{"rising", true, queue(4, 5, 6, 9)},
		{"falling", true, queue(9, 6, 5, 4)},
		{"one is missing", false, queue(9, 5, 4)},
		{"another one is missing", false, queue(9, 5, 6)},
		{"none", false, queue()},
		{"one twice", false, queue(9, 5, 4, 6, 6)},
		{"one twice, another one missing", false, queue(9, 5, 4, 4)},
		{"one who is served", false, queue(9, 5, 4, 6, 3)},
		{"one who is served for one who is not", false, queue(9, 5, 3, 6)},
		{"one who is ready", false, queue(9, 5, 4, 6, 2)},
		{"one who is not used", false, queue(9, 5, 4, 6, 1)},
		{"one who is not there", false, queue(9, 5, 4, 6, 10)},
		{"one below", false, queue(9, 5, 4, 6, -1)},
		{"far too many", false, queue(slices.Repeat([]int{9, 5, 4, 6}, 100)...)},
		{"calls who listens", false, func(s *api.State) { s.Threads[4].For = 7 }},
		{"calls who listens, and does not wait", false, func(s *api.State) {
			s.Threads[4].For = 7
			s.Queue = []int{9, 5, 6}
		}},
		{"waits for a lock whose number a listener has", true, func(s *api.State) {
			s.Locks = slices.Insert(s.Locks, 4, make([]api.Lock, 4)...)
			s.Locks[7] = api.Lock{Used: true, Holder: 8}
			s.Threads[6].For = 7
		}},
	})
}

// P14.1: the arrows of threads have no ring, be it by calls, by locks, or by both.
func TestFineThreadRings(t *testing.T) {
	checkChanges(t, []change{
		{"calls who calls it", false, func(s *api.State) {
			s.Threads[2] = waiting(api.Calling, 8)
			s.Threads[8] = waiting(api.Calling, 2)
			s.Queue = append(s.Queue, 2, 8)
		}},
		{"who holds a lock calls who waits for it", false, func(s *api.State) {
			s.Threads[2] = waiting(api.Calling, 5)
			s.Queue = append(s.Queue, 2)
		}},
		{"two hold what the other one waits for", false, func(s *api.State) {
			s.Threads[2] = waiting(api.Waiting, 3)
			s.Queue = append(s.Queue, 2)
		}},
		{"who serves calls its client", false, func(s *api.State) {
			s.Threads[0].State, s.Threads[0].For = api.Calling, 3
			s.Queue = append(s.Queue, 0)
		}},
		{"a ring of three", false, func(s *api.State) {
			s.Threads[0].State, s.Threads[0].For = api.Calling, 9
			s.Queue = append(s.Queue, 0)
		}},
		{"on to another one", true, func(s *api.State) {
			s.Threads[0].State, s.Threads[0].For = api.Waiting, 3
			s.Queue = append(s.Queue, 0)
		}},
		{"a ring of the numbers of threads and locks alone", true, func(s *api.State) {
			s.Threads[2] = waiting(api.Calling, 0)
			s.Queue = append(s.Queue, 2)
		}},
	})
}

// numbers are those that one field of a state is given.
func numbers() []int {
	return []int{math.MinInt, -3, -2, -1, 0, 1, 2, 3, 4, 5, 6, 7, 8, 9, 10, 11, 31, 32, 1000, 1001, 1 << 20, 1<<20 + 1, math.MaxInt}
}

// fields are pointers to all numbers of a state.
func fields(s *api.State) []*int {
	out := []*int{&s.Quantum}
	for i := range s.Tickets {
		k := &s.Tickets[i]
		out = append(out, &k.Coin, &k.Amount, &k.Kind, &k.To)
	}
	for i := range s.Threads {
		x := &s.Threads[i]
		out = append(out, &x.State, &x.For, &x.Client, &x.Q, &x.U)
	}
	for i := range s.Locks {
		out = append(out, &s.Locks[i].Holder)
	}
	for i := range s.Queue {
		out = append(out, &s.Queue[i])
	}
	return out
}

// marks are pointers to all that is true or false of a state.
func marks(s *api.State) []*bool {
	var out []*bool
	for i := range s.Coins {
		out = append(out, &s.Coins[i])
	}
	for i := range s.Tickets {
		out = append(out, &s.Tickets[i].Used, &s.Tickets[i].On)
	}
	for i := range s.Locks {
		out = append(out, &s.Locks[i].Used)
	}
	return out
}

// P14.1: all states that are apart from a rich one by one number, or by one mark, or by two numbers of some.
func TestFineNeighbours(t *testing.T) {
	s := rich()
	for _, mark := range marks(&s) {
		*mark = !*mark
		checkFine(t, "mark", s, mayBe(s))
		*mark = !*mark
	}
	fine := 0
	for _, field := range fields(&s) {
		kept := *field
		for _, n := range numbers() {
			*field = n
			checkFine(t, "number", s, mayBe(s))
			if mayBe(s) {
				fine++
			}
		}
		*field = kept
	}
	if fine < 100 {
		t.Errorf("only %d of them may be", fine)
	}
	source := rand.New(rand.NewSource(14))
	for range 30000 {
		s := rich()
		all := fields(&s)
		for range 2 + source.Intn(2) {
			*all[source.Intn(len(all))] = source.Intn(13) - 2
		}
		checkFine(t, "numbers", s, mayBe(s))
	}
}

// randomThread is a thread that may be, or nearly so, among so many threads and locks.
func randomThread(source *rand.Rand, threads, locks int) api.Thread {
	x := thread(source.Intn(7))
	switch x.State {
	case api.Free:
		return api.Thread{}
	case api.Calling:
		x.For = source.Intn(threads)
	case api.Waiting:
		x.For = source.Intn(max(locks, 1))
	}
	if source.Intn(3) == 0 {
		x.Client = source.Intn(threads)
	}
	if source.Intn(3) == 0 {
		x.Q, x.U = source.Intn(4), source.Intn(3)
	}
	return x
}

// random is a small state that may be, or nearly so.
func random(source *rand.Rand) api.State {
	s := api.State{Coins: []bool{true, source.Intn(2) == 0, true}, Quantum: 1 + source.Intn(3)}
	threads, locks := source.Intn(4), source.Intn(3)
	for range source.Intn(3) {
		k := api.Ticket{Used: true, Coin: source.Intn(3), Amount: 1, Kind: source.Intn(3), On: source.Intn(2) == 0}
		if k.Kind != 0 {
			k.To = source.Intn(3)
		}
		s.Tickets = append(s.Tickets, k)
	}
	for range threads {
		s.Threads = append(s.Threads, randomThread(source, threads, locks))
	}
	for range locks {
		s.Locks = append(s.Locks, api.Lock{Used: true, Holder: source.Intn(threads+1) - 1})
	}
	for i, x := range s.Threads {
		if (x.State == api.Calling || x.State == api.Waiting) && source.Intn(4) > 0 {
			s.Queue = append(s.Queue, i)
		}
	}
	source.Shuffle(len(s.Queue), func(i, j int) { s.Queue[i], s.Queue[j] = s.Queue[j], s.Queue[i] })
	return s
}

// P14.1: many small states that are random.
func TestFineRandom(t *testing.T) {
	source := rand.New(rand.NewSource(141))
	fine := 0
	for range 150000 {
		s := random(source)
		checkFine(t, "random", s, mayBe(s))
		if mayBe(s) {
			fine++
		}
	}
	if fine < 10000 {
		t.Errorf("only %d of them may be", fine)
	}
}

// P14.1: two are the same, if all their lists are, and their quanta; nil lists are as empty ones.
func TestSame(t *testing.T) {
	for i, a := range states() {
		for j, b := range states() {
			if got := Same(a, b); got != (told(a) == told(b)) {
				t.Errorf("Same of the states %d and %d = %v", i, j, got)
			}
		}
		if !Same(a, own(a)) || !Same(own(a), a) {
			t.Errorf("the state %d is not the same as its own copy", i)
		}
	}
	if !Same(api.State{}, own(api.State{})) {
		t.Error("nil lists are not the same as empty ones")
	}
}

// P14.1: two that are apart by one number, one mark, or one element, are not the same.
func TestSameNeighbours(t *testing.T) {
	a, b := rich(), rich()
	check := func(what string, b api.State) {
		t.Helper()
		if Same(a, b) || Same(b, a) {
			t.Errorf("%s: %s is the same as %s", what, told(a), told(b))
		}
	}
	for _, field := range fields(&b) {
		*field++
		check("number", b)
		*field--
	}
	for _, mark := range marks(&b) {
		*mark = !*mark
		check("mark", b)
		*mark = !*mark
	}
	if !Same(a, b) {
		t.Fatal("they are not the same again")
	}
	for what, do := range map[string]func(s *api.State){
		"coins":   func(s *api.State) { s.Coins = append(s.Coins, false) },
		"tickets": func(s *api.State) { s.Tickets = append(s.Tickets, api.Ticket{}) },
		"threads": func(s *api.State) { s.Threads = append(s.Threads, api.Thread{}) },
		"locks":   func(s *api.State) { s.Locks = append(s.Locks, api.Lock{}) },
		"queue":   func(s *api.State) { s.Queue = append(s.Queue, 0) },
		"order":   func(s *api.State) { slices.Reverse(s.Queue) },
	} {
		b := rich()
		do(&b)
		check(what, b)
	}
}

// P14.1: a copy is the state itself, whether that may be or not.
func TestCopy(t *testing.T) {
	for _, s := range states() {
		equal(t, "Copy", Copy(s), own(s))
	}
}

// P14.1: what is not used at the ends goes, and nothing else, whatever else stands in it.
func TestTrim(t *testing.T) {
	equal(t, "Trim", Trim(rich()), rich())
	want := spoilt()
	want.Coins, want.Tickets = want.Coins[:4], want.Tickets[:6]
	want.Threads, want.Locks = want.Threads[:10], want.Locks[:4]
	equal(t, "Trim", Trim(spoilt()), want)
	equal(t, "Trim", Trim(want), want)
	equal(t, "Trim", Trim(api.State{}), api.State{})
	equal(t, "Trim", Trim(long(1000)), long(1000))
	empty := api.State{
		Coins: make([]bool, 20), Tickets: slices.Repeat([]api.Ticket{{Amount: 1}}, 100),
		Threads: slices.Repeat([]api.Thread{{For: -1}}, 40), Locks: slices.Repeat([]api.Lock{{Holder: 3}}, 9),
		Queue: []int{0, 0}, Quantum: 5,
	}
	equal(t, "Trim", Trim(empty), api.State{Queue: []int{0, 0}, Quantum: 5})
}

// P14.1: each list is cut for itself.
func TestTrimOneList(t *testing.T) {
	for i := range 4 {
		s, want := rich(), rich()
		cuts := []func(){
			func() { s.Coins[3] = false; want.Coins = want.Coins[:3] },
			func() { s.Tickets[5].Used = false; want.Tickets = want.Tickets[:5] },
			func() { s.Threads[9].State, s.Threads[8].State = 0, 0; want.Threads = want.Threads[:8] },
			func() { s.Locks[3].Used = false; s.Locks[2].Used = false; want.Locks = want.Locks[:1] },
		}
		cuts[i]()
		equal(t, "Trim", Trim(s), want)
	}
}

// beside are places that no list has, of so many.
func beside(n int) []int {
	return []int{-1, -2, -n, n, n + 1, 2 * n, math.MinInt, math.MaxInt}
}

// checkGet holds what is told of one place against what stands there.
func checkGet(t *testing.T, s api.State, i int) {
	t.Helper()
	if got := Coin(s, i); got != usedCoin(s, i) {
		t.Errorf("Coin(%d) = %v", i, got)
	}
	ticket, is := api.Ticket{}, i >= 0 && i < len(s.Tickets) && s.Tickets[i].Used
	if is {
		ticket = s.Tickets[i]
	}
	if got, ok := Ticket(s, i); got != ticket || ok != is {
		t.Errorf("Ticket(%d) = %v, %v", i, got, ok)
	}
	thread, is := api.Thread{}, usedThread(s, i)
	if is {
		thread = s.Threads[i]
	}
	if got, ok := Thread(s, i); got != thread || ok != is {
		t.Errorf("Thread(%d) = %v, %v", i, got, ok)
	}
	lock, is := api.Lock{}, usedLock(s, i)
	if is {
		lock = s.Locks[i]
	}
	if got, ok := Lock(s, i); got != lock || ok != is {
		t.Errorf("Lock(%d) = %v, %v", i, got, ok)
	}
}

// P14.2: what is used is told; of what is not, or is not there, the zero one.
func TestGet(t *testing.T) {
	for _, s := range states() {
		for i := range 120 {
			checkGet(t, s, i)
		}
		for _, n := range []int{len(s.Coins), len(s.Tickets), len(s.Threads), len(s.Locks), 96} {
			for _, i := range beside(n) {
				checkGet(t, s, i)
			}
		}
	}
	if got, ok := Thread(rich(), 0); !ok || got != (api.Thread{State: api.Running, For: -1, Client: 3, Q: 10, U: 3}) {
		t.Error(got, ok)
	}
	if got, ok := Ticket(spoilt(), 2); ok || got != (api.Ticket{}) {
		t.Error(got, ok)
	}
}

// P14.1, P14.2: threads of states that there are not are used, for they are not Free; but they may not be.
func TestStrangeThreads(t *testing.T) {
	for _, state := range []int{-1, 7, math.MinInt, math.MaxInt} {
		s := api.State{Coins: []bool{true}, Threads: []api.Thread{{}, {State: state}}, Quantum: 1}
		if got, ok := Thread(s, 1); !ok || got != s.Threads[1] {
			t.Errorf("Thread of the state %d = %v, %v", state, got, ok)
		}
		equal(t, "Trim", Trim(s), s)
		if got := FreeThread(s); got != 0 {
			t.Errorf("FreeThread = %d", got)
		}
		checkFine(t, "strange", s, false)
	}
}

// laid is a list with x at a place, and zero ones ahead of it, up to the list's end.
func laid[T any](l []T, i int, x T) []T {
	out := append([]T{}, l...)
	for len(out) <= i {
		var zero T
		out = append(out, zero)
	}
	out[i] = x
	return out
}

// ended is a list that ends with one that is used.
func ended[T any](l []T, used func(T) bool) []T {
	for len(l) > 0 && !used(l[len(l)-1]) {
		l = l[:len(l)-1]
	}
	return l
}

// allEnded is a state whose lists all end with one that is used.
func allEnded(s api.State) api.State {
	s.Coins = ended(s.Coins, func(used bool) bool { return used })
	s.Tickets = ended(s.Tickets, func(k api.Ticket) bool { return k.Used })
	s.Threads = ended(s.Threads, func(x api.Thread) bool { return x.State != 0 })
	s.Locks = ended(s.Locks, func(l api.Lock) bool { return l.Used })
	return s
}

// checkPut puts something of each kind at a place.
func checkPut(t *testing.T, s api.State, i int) {
	t.Helper()
	for _, used := range []bool{true, false} {
		want := own(s)
		if i >= 0 && i < 16 {
			want.Coins = laid(want.Coins, i, used)
			want = allEnded(want)
		}
		equal(t, fmt.Sprint("PutCoin ", i, used), PutCoin(s, i, used), want)
	}
	for _, k := range []api.Ticket{{Used: true, Coin: 3, Amount: -7, Kind: 12, To: i, On: true}, {}, {Amount: 3, On: true}} {
		want := own(s)
		if i >= 0 && i < 96 {
			want.Tickets = laid(want.Tickets, i, k)
			want = allEnded(want)
		}
		equal(t, fmt.Sprint("PutTicket ", i, k), PutTicket(s, i, k), want)
	}
	for _, x := range []api.Thread{{State: 9, For: i, Client: 8, Q: 7, U: 6}, {}, {For: -1, Client: -1, Q: 1, U: 1}, thread(api.Ready)} {
		want := own(s)
		if i >= 0 && i < 32 {
			want.Threads = laid(want.Threads, i, x)
			want = allEnded(want)
		}
		equal(t, fmt.Sprint("PutThread ", i, x), PutThread(s, i, x), want)
	}
	for _, l := range []api.Lock{{Used: true, Holder: i}, {}, {Holder: -1}} {
		want := own(s)
		if i >= 0 && i < 8 {
			want.Locks = laid(want.Locks, i, l)
			want = allEnded(want)
		}
		equal(t, fmt.Sprint("PutLock ", i, l), PutLock(s, i, l), want)
	}
}

// P14.2: what is put, inside, at the end, and behind it; nothing, where there may be none: then the state is not even cut.
func TestPut(t *testing.T) {
	for _, s := range states() {
		for i := -2; i < 100; i++ {
			checkPut(t, s, i)
		}
		for _, i := range beside(96) {
			checkPut(t, s, i)
		}
	}
}

// P14.2: the edges, written out.
func TestPutWrittenOut(t *testing.T) {
	s := api.State{Coins: []bool{true, false}, Locks: []api.Lock{{}}, Quantum: 3}
	for _, i := range []int{-1, 16, math.MinInt, math.MaxInt} {
		equal(t, "PutCoin", PutCoin(s, i, true), s)
	}
	equal(t, "PutCoin", PutCoin(s, 3, true), api.State{Coins: []bool{true, false, false, true}, Quantum: 3})
	equal(t, "PutCoin", PutCoin(s, 1, true), api.State{Coins: []bool{true, true}, Quantum: 3})
	equal(t, "PutCoin", PutCoin(s, 15, false), api.State{Coins: []bool{true}, Quantum: 3})
	equal(t, "PutCoin", PutCoin(s, 0, false), api.State{Quantum: 3})
	k := api.Ticket{Used: true, Amount: 1}
	equal(t, "PutTicket", PutTicket(s, 1, k), api.State{Coins: []bool{true}, Tickets: []api.Ticket{{}, k}, Quantum: 3})
	equal(t, "PutTicket", PutTicket(s, 96, k), s)
	x := thread(api.Ready)
	equal(t, "PutThread", PutThread(s, 1, x), api.State{Coins: []bool{true}, Threads: []api.Thread{{}, x}, Quantum: 3})
	equal(t, "PutThread", PutThread(s, 32, x), s)
	l := api.Lock{Used: true, Holder: 4}
	equal(t, "PutLock", PutLock(s, 2, l), api.State{Coins: []bool{true}, Locks: []api.Lock{{}, {}, l}, Quantum: 3})
	equal(t, "PutLock", PutLock(s, 8, l), s)
	if n := len(PutTicket(s, 95, k).Tickets); n != 96 {
		t.Errorf("%d tickets", n)
	}
}

// P14.2: the lowest place, inside a list, at its end, and none.
func TestFree(t *testing.T) {
	check := func(what string, s api.State, want ...int) {
		t.Helper()
		got := []int{FreeCoin(s), FreeTicket(s), FreeThread(s), FreeLock(s)}
		if !slices.Equal(got, want) {
			t.Errorf("%s: free are %v, want %v", what, got, want)
		}
	}
	check("nothing", api.State{}, 0, 0, 0, 0)
	check("the base", api.State{Coins: []bool{true}, Quantum: 1}, 1, 0, 0, 0)
	check("rich", rich(), 1, 2, 1, 1)
	check("spoilt", spoilt(), 1, 2, 1, 1)
	check("no base", api.State{Coins: []bool{false, true}}, 0, 0, 0, 0)
	for _, n := range []int{1, 7, 8, 9, 15, 16, 17, 31, 32, 33, 95, 96, 97, 200} {
		want := []int{n, n, n, n}
		for i, most := range []int{16, 96, 32, 8} {
			if n >= most {
				want[i] = -1
			}
		}
		check("long", long(n), want...)
	}
	s := long(200)
	s.Coins[15], s.Tickets[95], s.Threads[31], s.Locks[7] = false, api.Ticket{Amount: 1}, api.Thread{For: 1}, api.Lock{Holder: 1}
	check("the last place", s, 15, 95, 31, 7)
	s = long(200)
	s.Coins[16], s.Tickets[96], s.Threads[32], s.Locks[8] = false, api.Ticket{}, api.Thread{}, api.Lock{}
	check("a place that there may not be", s, -1, -1, -1, -1)
}

// P14.3: arrows, in the order of the tickets, and of the threads; also of tickets that are not on, and more than once.
func TestArrows(t *testing.T) {
	s := rich()
	if got := CoinArrows(s); !slices.Equal(got, []dag.Arrow{{From: 0, To: 2}, {From: 2, To: 3}}) {
		t.Errorf("CoinArrows = %v", got)
	}
	want := []dag.Arrow{{From: 3, To: 0}, {From: 4, To: 0}, {From: 5, To: 2}, {From: 6, To: 2}, {From: 9, To: 3}}
	if got := ThreadArrows(s); !slices.Equal(got, want) {
		t.Errorf("ThreadArrows = %v, want %v", got, want)
	}
	s.Tickets[0], s.Tickets[1] = s.Tickets[1], s.Tickets[0]
	s.Tickets = append(s.Tickets, s.Tickets[0], api.Ticket{Used: true, Coin: 0, Amount: 1, Kind: api.ToCoin, To: 3, On: true})
	s.Threads[6].For = 3
	checkFine(t, "arrows", s, true)
	twice := []dag.Arrow{{From: 2, To: 3}, {From: 0, To: 2}, {From: 2, To: 3}, {From: 0, To: 3}}
	if got := CoinArrows(s); !slices.Equal(got, twice) {
		t.Errorf("CoinArrows = %v, want %v", got, twice)
	}
	want[3].To = 5
	if got := ThreadArrows(s); !slices.Equal(got, want) {
		t.Errorf("ThreadArrows = %v, want %v", got, want)
	}
	base, _ := New(1)
	if len(CoinArrows(base)) != 0 || len(ThreadArrows(base)) != 0 {
		t.Error("arrows of a new state")
	}
}

// P14.4: what is put there is there, and all others are as they were.
func TestPutIsThere(t *testing.T) {
	k := api.Ticket{Used: true, Coin: 2, Amount: 9, On: true}
	x := api.Thread{State: api.Asleep, For: -1, Client: -1, Q: 7, U: 2}
	l := api.Lock{Used: true, Holder: 8}
	for i := range 96 {
		before := rich()
		s := PutTicket(before, i, k)
		inThreads, inLocks, inCoins := i < 32, i < 8, i < 16
		s = PutThread(s, i, x)
		s = PutLock(s, i, l)
		s = PutCoin(s, i, true)
		for j := range 96 {
			ticket, _ := Ticket(s, j)
			thread, _ := Thread(s, j)
			lock, _ := Lock(s, j)
			wantTicket, _ := Ticket(before, j)
			wantThread, _ := Thread(before, j)
			wantLock, _ := Lock(before, j)
			coin, wantCoin := Coin(s, j), Coin(before, j)
			if i == j {
				wantTicket = k
				if inThreads {
					wantThread = x
				}
				if inLocks {
					wantLock = l
				}
				wantCoin = wantCoin || inCoins
			}
			if ticket != wantTicket || thread != wantThread || lock != wantLock || coin != wantCoin {
				t.Fatalf("put at %d, at %d are %v, %v, %v, %v", i, j, ticket, thread, lock, coin)
			}
		}
		if !slices.Equal(s.Queue, before.Queue) || s.Quantum != before.Quantum {
			t.Fatalf("put at %d: %s", i, told(s))
		}
	}
}

// P14.4: what is put at the lowest free places, and taken away again, leaves the state as it was.
func TestPutAndTakeBack(t *testing.T) {
	for _, s := range []api.State{rich(), {Coins: []bool{true}, Quantum: 7}} {
		for range 5 {
			c, k, x, l := FreeCoin(s), FreeTicket(s), FreeThread(s), FreeLock(s)
			more := PutTicket(PutCoin(s, c, true), k, api.Ticket{Used: true, Amount: 1})
			more = PutLock(PutThread(more, x, thread(api.Asleep)), l, api.Lock{Used: true, Holder: -1})
			checkFine(t, "more", more, true)
			if Same(more, s) {
				t.Fatal("nothing was put")
			}
			less := PutTicket(PutCoin(more, c, false), k, api.Ticket{})
			less = PutLock(PutThread(less, x, api.Thread{}), l, api.Lock{})
			equal(t, "less", less, s)
			if !Same(less, s) {
				t.Fatal("it is not the same")
			}
			s = more
		}
	}
}

// overwrite writes into all lists of a state, up to their capacity.
func overwrite(s api.State) {
	for i := range s.Coins[:cap(s.Coins)] {
		s.Coins[:cap(s.Coins)][i] = !s.Coins[:cap(s.Coins)][i]
	}
	for i := range s.Tickets[:cap(s.Tickets)] {
		s.Tickets[:cap(s.Tickets)][i] = api.Ticket{Amount: -77}
	}
	for i := range s.Threads[:cap(s.Threads)] {
		s.Threads[:cap(s.Threads)][i] = api.Thread{U: -77}
	}
	for i := range s.Locks[:cap(s.Locks)] {
		s.Locks[:cap(s.Locks)][i] = api.Lock{Holder: -77}
	}
	for i := range s.Queue[:cap(s.Queue)] {
		s.Queue[:cap(s.Queue)][i] = -77
	}
}

// P14.1, P14.2: no call writes into what it was handed, and what it answers is new memory (R5).
func TestNothingIsShared(t *testing.T) {
	calls := map[string]func(s api.State) api.State{
		"Copy": Copy,
		"Trim": Trim,
	}
	for _, i := range []int{-1, 0, 1, 3, 5, 7, 16, 32, 96} {
		for _, used := range []bool{true, false} {
			at := fmt.Sprint(" at ", i, used)
			calls["PutCoin"+at] = func(s api.State) api.State { return PutCoin(s, i, used) }
			calls["PutTicket"+at] = func(s api.State) api.State { return PutTicket(s, i, api.Ticket{Used: used}) }
			calls["PutThread"+at] = func(s api.State) api.State { return PutThread(s, i, api.Thread{State: i, For: 9}) }
			calls["PutLock"+at] = func(s api.State) api.State { return PutLock(s, i, api.Lock{Used: used}) }
		}
	}
	for name, call := range calls {
		for _, s := range states() {
			// Room behind the lists' ends is what a call might write into, and share.
			s.Coins, s.Tickets = slices.Grow(s.Coins, 9), slices.Grow(s.Tickets, 9)
			s.Threads, s.Locks, s.Queue = slices.Grow(s.Threads, 9), slices.Grow(s.Locks, 9), slices.Grow(s.Queue, 9)
			behind := func() string {
				return told(api.State{Coins: s.Coins[:cap(s.Coins)], Tickets: s.Tickets[:cap(s.Tickets)], Threads: s.Threads[:cap(s.Threads)], Locks: s.Locks[:cap(s.Locks)], Queue: s.Queue[:cap(s.Queue)]})
			}
			kept, room := told(s), behind()
			got := call(s)
			answer := told(got)
			overwrite(got)
			if told(s) != kept || behind() != room {
				t.Fatalf("%s wrote into what it was handed, or shares it", name)
			}
			got = call(s)
			overwrite(s)
			if told(got) != answer {
				t.Fatalf("%s kept what it was handed", name)
			}
		}
	}
	one, _ := New(3)
	overwrite(one)
	two, _ := New(3)
	equal(t, "New", two, api.State{Coins: []bool{true}, Quantum: 3})
}

// P14.3: arrows are new memory (R5).
func TestArrowsAreNew(t *testing.T) {
	s := rich()
	for range 2 {
		coins, threads := CoinArrows(s), ThreadArrows(s)
		for i := range coins {
			coins[i] = dag.Arrow{From: -7, To: -7}
		}
		for i := range threads {
			threads[i] = dag.Arrow{From: -7, To: -7}
		}
		equal(t, "arrows", s, rich())
	}
	if len(CoinArrows(s)) != 2 || CoinArrows(s)[0] != (dag.Arrow{From: 0, To: 2}) || ThreadArrows(s)[0] != (dag.Arrow{From: 3, To: 0}) {
		t.Error("arrows are shared")
	}
}

// P14.1, P14.2: lists that are as long as a call may be handed.
func TestVeryLong(t *testing.T) {
	const n = 1 << 21
	s := api.State{Coins: make([]bool, n), Tickets: make([]api.Ticket, n), Threads: make([]api.Thread, n), Locks: make([]api.Lock, n), Queue: make([]int, n), Quantum: 1}
	if Fine(s) || !Same(s, Copy(s)) || FreeCoin(s) != 0 || Coin(s, n-1) {
		t.Error("long lists")
	}
	for i := range s.Queue {
		s.Queue[i] = i % 2
	}
	short := Trim(s)
	if len(short.Coins)+len(short.Tickets)+len(short.Threads)+len(short.Locks) != 0 || len(short.Queue) != n {
		t.Error("Trim of long lists")
	}
	base, _ := New(1)
	base.Queue = s.Queue
	if Fine(base) {
		t.Error("a long queue")
	}
}
