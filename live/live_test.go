package live

import (
	"fmt"
	"math"
	"math/rand"
	"slices"
	"testing"

	"tombola/api"
	"tombola/state"
)

// on is a ticket of a coin that is On.
func on(coin, amount, kind, to int) api.Ticket {
	return api.Ticket{Used: true, Coin: coin, Amount: amount, Kind: kind, To: to, On: true}
}

// off is a ticket of a coin that is not On.
func off(coin, amount, kind, to int) api.Ticket {
	return api.Ticket{Used: true, Coin: coin, Amount: amount, Kind: kind, To: to}
}

// in is a thread in a state, which tells for what it waits, if it does.
func in(state, what int) api.Thread {
	return api.Thread{State: state, For: what, Client: api.None, Q: 1, U: 1}
}

// queued puts those threads into a state's queue that belong there, the last one first.
func queued(s api.State) api.State {
	s.Queue = nil
	for i, t := range slices.Backward(s.Threads) {
		if t.State == api.Waiting || t.State == api.Calling && s.Threads[t.For].Client != i {
			s.Queue = append(s.Queue, i)
		}
	}
	return s
}

// rich is a state with threads that live, and such as do not, whatever they do, and with coins whose numbers do not
// follow their order, in which tickets count, and do not, for each reason that there is.
func rich() api.State {
	s := api.State{
		Coins: []bool{true, true, true, false, true, true, true},
		Tickets: []api.Ticket{
			on(0, 5, api.ToCoin, 4),
			{},
			on(4, 6, api.ToCoin, 2),
			on(2, 7, api.ToCoin, 1),
			on(1, 8, api.ToThread, 4),
			on(1, 9, api.ToThread, 9),
			off(1, 10, api.ToThread, 2),
			on(2, 11, api.ToNone, 0),
			on(2, 12, api.ToThread, 0),
			off(4, 13, api.ToCoin, 2),
			on(4, 14, api.ToCoin, 2),
			on(0, 15, api.ToCoin, 5),
			on(5, 16, api.ToThread, 5),
			on(5, 17, api.ToCoin, 6),
			off(6, 18, api.ToThread, 3),
			on(0, 1, api.ToThread, 2),
			on(6, 19, api.ToNone, 0),
			on(0, 20, api.ToCoin, 6),
		},
		Threads: []api.Thread{
			in(api.Running, -1),
			{},
			in(api.Ready, -1),
			in(api.Calling, 0),
			in(api.Waiting, 0),
			in(api.Asleep, -1),
			in(api.Calling, 5),
			in(api.Listening, -1),
			in(api.Waiting, 1),
			in(api.Waiting, 3),
		},
		Locks:   []api.Lock{{Used: true, Holder: 3}, {Used: true, Holder: 7}, {}, {Used: true, Holder: 6}},
		Quantum: 5,
	}
	s.Threads[0].Client = 3
	return queued(s)
}

// mayNotBe are states that may not be, at which calls have to end nevertheless.
func mayNotBe() []api.State {
	coins, ready := []bool{true, true, true}, []api.Thread{in(api.Ready, -1)}
	return []api.State{
		{},
		{Tickets: []api.Ticket{on(0, 1, api.ToThread, 0)}, Threads: ready},
		{Coins: coins, Threads: ready, Tickets: []api.Ticket{on(1, 1, api.ToCoin, 2), on(2, 1, api.ToCoin, 1), on(0, 1, api.ToCoin, 1)}},
		{Coins: coins, Threads: ready, Tickets: []api.Ticket{on(1, 1, api.ToCoin, 1), on(1, 1, api.ToThread, 0), on(0, 1, api.ToCoin, 0)}},
		{Coins: coins, Threads: ready, Tickets: []api.Ticket{on(0, 1, api.ToCoin, -1), on(1, 1, api.ToCoin, 3), on(2, 1, api.ToCoin, math.MaxInt), on(2, 1, api.ToCoin, math.MinInt)}},
		{Coins: coins, Threads: ready, Tickets: []api.Ticket{on(-1, 1, api.ToThread, 0), on(3, 1, api.ToThread, 0), on(math.MaxInt, 1, api.ToCoin, 1), on(math.MinInt, 1, api.ToCoin, 1)}},
		{Coins: coins, Threads: ready, Tickets: []api.Ticket{on(0, math.MaxInt, api.ToThread, 0), on(0, math.MaxInt, api.ToThread, 0), on(1, math.MinInt, api.ToThread, 0), on(0, -1, api.ToCoin, 1)}},
		{Coins: coins, Threads: ready, Tickets: []api.Ticket{on(0, 1, api.ToThread, 1), on(0, 1, api.ToThread, -1), on(1, 1, -1, 0), on(2, 1, 3, 0), on(2, 1, math.MaxInt, 0)}},
		{Coins: []bool{false, true}, Threads: []api.Thread{in(api.Calling, 1), in(api.Calling, 0), in(api.Waiting, 9)}, Tickets: []api.Ticket{on(0, 1, api.ToThread, 0), on(1, 1, api.ToThread, 1), on(1, 1, api.ToThread, 2)}},
		{Coins: make([]bool, 5000), Threads: make([]api.Thread, 100), Tickets: []api.Ticket{on(4999, 1, api.ToCoin, 1)}},
		{Coins: slices.Repeat([]bool{true}, 5000), Threads: ready, Tickets: []api.Ticket{on(4999, 1, api.ToThread, 0), on(0, 1, api.ToCoin, 4999), on(1, 1, api.ToThread, 0)}},
	}
}

// What follows is the document's chapter in the tests' own words, for a state's answers to be held against.

// wantLives is whether one comes from a thread, by those for whom one waits, to one that is ready, or runs.
func wantLives(s api.State, i int) bool {
	switch t := s.Threads[i]; t.State {
	case 2, 3:
		return true
	case 4:
		return wantLives(s, t.For)
	case 6:
		return wantLives(s, s.Locks[t.For].Holder)
	}
	return false
}

// wantCounts is whether a ticket counts.
func wantCounts(s api.State, i int) bool {
	t := s.Tickets[i]
	thread := t.Kind == 1 && wantLives(s, t.To)
	coin := t.Kind == 2 && wantAmount(s, t.To) > 0
	return t.Used && t.On && (thread || coin)
}

// wantAmount is a coin's active amount.
func wantAmount(s api.State, c int) (out int) {
	for i, t := range s.Tickets {
		if t.Used && t.Coin == c && wantCounts(s, i) {
			out += t.Amount
		}
	}
	return out
}

// told is a state as text, in which all that may differ is to be seen.
func told(s api.State) string {
	return fmt.Sprintf("coins %v, tickets %v, threads %v, locks %v, queue %v", s.Coins, s.Tickets, s.Threads, s.Locks, s.Queue)
}

// equal fails, if a list is not the one that is wanted.
func equal[T comparable](t *testing.T, s api.State, what string, got, want []T) {
	t.Helper()
	if !slices.Equal(got, want) {
		t.Fatalf("%s = %v, want %v, of %s", what, got, want, told(s))
	}
}

// check holds all of a state that may be against the chapter.
func check(t *testing.T, s api.State) {
	t.Helper()
	if !state.Fine(s) {
		t.Fatalf("the test's state may not be: %s", told(s))
	}
	kept := told(s)
	var lives, counts []bool
	var amounts, dead []int
	for i := range s.Threads {
		lives = append(lives, wantLives(s, i))
	}
	for i, ticket := range s.Tickets {
		counts = append(counts, wantCounts(s, i))
		if ticket.Used && !wantCounts(s, i) {
			dead = append(dead, i)
		}
	}
	for c := range s.Coins {
		amounts = append(amounts, wantAmount(s, c))
		if Awake(s, c) != (amounts[c] > 0) {
			t.Fatalf("Awake(%d) = %v, of %s", c, Awake(s, c), told(s))
		}
	}
	equal(t, s, "Threads", Threads(s), lives)
	equal(t, s, "Tickets", Tickets(s), counts)
	equal(t, s, "Amounts", Amounts(s), amounts)
	equal(t, s, "Dead", Dead(s), dead)
	checkAsleep(t, s)
	if told(s) != kept {
		t.Fatalf("%s was made of %s", told(s), kept)
	}
}

// checkAsleep holds what follows of coins none of whose tickets counts, and of those of which one does. (P17.2)
func checkAsleep(t *testing.T, s api.State) {
	t.Helper()
	counts, some := Tickets(s), make([]bool, len(s.Coins))
	for i, ticket := range s.Tickets {
		some[ticket.Coin] = some[ticket.Coin] || counts[i]
	}
	for i, ticket := range s.Tickets {
		if ticket.Kind == api.ToCoin && counts[i] != (ticket.On && some[ticket.To]) {
			t.Fatalf("the ticket %d counts: %v, of %s", i, counts[i], told(s))
		}
	}
	for c := range s.Coins {
		if Awake(s, c) != some[c] {
			t.Fatalf("the coin %d is awake: %v, of %s", c, Awake(s, c), told(s))
		}
	}
}

// P17.1, P17.2: the document's example, and the base alone.
func TestExamples(t *testing.T) {
	s := api.State{Coins: []bool{true, true}, Tickets: []api.Ticket{on(0, 1, api.ToCoin, 1)}, Quantum: 1}
	check(t, s)
	equal(t, s, "Tickets", Tickets(s), []bool{false})
	equal(t, s, "Dead", Dead(s), []int{0})
	base, _ := state.New(1)
	check(t, base)
	equal(t, base, "Amounts", Amounts(base), []int{0})
	if len(Tickets(base))+len(Threads(base))+len(Dead(base)) != 0 || Awake(base, 0) {
		t.Error("the base alone has tickets, or threads")
	}
}

// P17.1: all that is told of a state that is written down.
func TestRich(t *testing.T) {
	s := rich()
	check(t, s)
	equal(t, s, "Threads", Threads(s), []bool{true, false, true, true, true, false, false, false, false, false})
	equal(t, s, "Amounts", Amounts(s), []int{6, 8, 19, 0, 20, 0, 0})
	equal(t, s, "Dead", Dead(s), []int{5, 6, 7, 9, 11, 12, 13, 14, 16, 17})
	for i, counts := range Tickets(s) {
		if want := slices.Contains([]int{0, 2, 3, 4, 8, 10, 15}, i); counts != want {
			t.Errorf("the ticket %d counts: %v", i, counts)
		}
	}
}

// P17.1: coins that are not used, or that there are not, are not awake.
func TestAwakeOfNone(t *testing.T) {
	for c, want := range map[int]bool{0: true, 1: true, 2: true, 4: true} {
		if Awake(rich(), c) != want {
			t.Errorf("the coin %d is not awake", c)
		}
	}
	for _, c := range []int{3, 5, 6, 7, 8, -1, -7, 100, math.MinInt, math.MaxInt} {
		if Awake(rich(), c) {
			t.Errorf("the coin %d is awake", c)
		}
	}
}

// P17.1: a ticket for a thread, by what that thread does, and by who it is for whom it waits.
func TestByThread(t *testing.T) {
	for end, lives := range map[int]bool{api.Asleep: false, api.Ready: true, api.Running: true, api.Listening: false} {
		s := api.State{
			Coins:   []bool{true, true},
			Threads: []api.Thread{in(end, -1), in(api.Waiting, 0), in(api.Calling, 1), in(api.Waiting, 1), in(api.Calling, 3)},
			Locks:   []api.Lock{{Used: true, Holder: 0}, {Used: true, Holder: 2}},
			Quantum: 1,
		}
		s = queued(s)
		for i := range s.Threads {
			s.Tickets = []api.Ticket{on(1, 3, api.ToThread, i), on(0, 2, api.ToCoin, 1)}
			check(t, s)
			equal(t, s, "Tickets", Tickets(s), []bool{lives, lives})
			s.Tickets[0].On = false
			check(t, s)
			equal(t, s, "Dead", Dead(s), []int{0, 1})
		}
	}
}

// P17.1: what a ticket funds counts, not what its To would be of another kind.
func TestByKind(t *testing.T) {
	ready, asleep := in(api.Ready, -1), in(api.Asleep, -1)
	s := api.State{Coins: []bool{true, true, true}, Threads: []api.Thread{ready, asleep, ready}, Quantum: 1}
	s.Tickets = []api.Ticket{
		on(0, 1, api.ToNone, 0),
		on(0, 2, api.ToThread, 1),
		on(0, 4, api.ToCoin, 2),
		on(0, 8, api.ToThread, 2),
		on(0, 16, api.ToCoin, 1),
		on(1, 32, api.ToThread, 0),
	}
	check(t, s)
	equal(t, s, "Tickets", Tickets(s), []bool{false, false, false, true, true, true})
	equal(t, s, "Amounts", Amounts(s), []int{24, 32, 0})
}

// P17.1, P17.2: a line of all coins that there may be, whose last one has a ticket that is turned on and off.
func TestLongest(t *testing.T) {
	for _, mixed := range [][]int{{1, 2, 3, 4, 5, 6, 7, 8, 9, 10, 11, 12, 13, 14, 15}, {15, 14, 13, 12, 11, 10, 9, 8, 7, 6, 5, 4, 3, 2, 1}, {8, 3, 15, 1, 12, 5, 14, 2, 9, 4, 13, 6, 11, 7, 10}} {
		s := api.State{Coins: slices.Repeat([]bool{true}, api.MaxCoins), Threads: []api.Thread{in(api.Ready, -1)}, Quantum: 1}
		from := 0
		for _, to := range mixed {
			s.Tickets = append(s.Tickets, on(from, 1+to, api.ToCoin, to))
			from = to
		}
		s.Tickets = append(s.Tickets, off(from, 1, api.ToThread, 0))
		check(t, s)
		equal(t, s, "Amounts", Amounts(s), make([]int, api.MaxCoins))
		s.Tickets[15].On = true
		check(t, s)
		equal(t, s, "Dead", Dead(s), nil)
		s.Tickets[7].On = false
		check(t, s)
		equal(t, s, "Dead", Dead(s), []int{0, 1, 2, 3, 4, 5, 6, 7})
	}
}

// P17.1: as much as there may be: all tickets of the base, with the greatest amount.
func TestGreatest(t *testing.T) {
	s := api.State{Coins: []bool{true}, Quantum: api.MaxQuantum}
	s.Threads = slices.Repeat([]api.Thread{in(api.Ready, -1)}, api.MaxThreads)
	s.Threads[31] = in(api.Asleep, -1)
	for i := range api.MaxTickets {
		s.Tickets = append(s.Tickets, on(0, api.MaxAmount, api.ToThread, i%api.MaxThreads))
	}
	check(t, s)
	equal(t, s, "Amounts", Amounts(s), []int{93 << 20})
	equal(t, s, "Dead", Dead(s), []int{31, 63, 95})
}

// some are the tickets of a coin by which a small state may differ from another one; the thread 0 lives, 1 does not.
func some(c int) [][]api.Ticket {
	lives, sleeps := on(c, 1, api.ToThread, 0), on(c, 2, api.ToThread, 1)
	return [][]api.Ticket{nil, {lives}, {sleeps}, {off(c, 4, api.ToThread, 0)}, {on(c, 8, api.ToNone, 0)}, {sleeps, lives}}
}

// links are the tickets of coins by which a small state may differ, between two coins.
func links(a, b int) [][]api.Ticket {
	return [][]api.Ticket{nil, {on(a, 16, api.ToCoin, b)}, {off(a, 32, api.ToCoin, b)}}
}

// P17.1, P17.2: all states of three coins, of which each has some tickets, and any fund others, in both orders.
func TestAllSmall(t *testing.T) {
	s := api.State{Coins: []bool{true, true, true}, Threads: []api.Thread{in(api.Ready, -1), in(api.Asleep, -1)}, Quantum: 1}
	parts := [][][]api.Ticket{some(0), some(1), some(2), links(0, 1), links(0, 2), append(links(1, 2), links(2, 1)[1:]...)}
	seen := 0
	var lay func(k int, tickets []api.Ticket)
	lay = func(k int, tickets []api.Ticket) {
		if k == len(parts) {
			s.Tickets = tickets
			check(t, s)
			seen++
			return
		}
		for _, more := range parts[k] {
			lay(k+1, slices.Concat(tickets, more))
		}
	}
	lay(0, nil)
	if seen != 6*6*6*3*3*5 {
		t.Errorf("%d states", seen)
	}
}

// waiters are threads, each of which waits for one ahead of it in a mixed order, by a call or by a lock, or for nobody.
func waiters(r *rand.Rand) (threads []api.Thread, locks []api.Lock) {
	threads, locks = make([]api.Thread, 1+r.Intn(14)), make([]api.Lock, api.MaxLocks)
	var ahead []int
	for _, i := range r.Perm(len(threads)) {
		lock := r.Intn(len(locks))
		switch p := r.Intn(10); {
		case p == 0:
			continue
		case p < 4 && len(ahead) > 0:
			threads[i] = in(api.Calling, ahead[r.Intn(len(ahead))])
		case p < 7 && len(ahead) > 0:
			if !locks[lock].Used {
				locks[lock] = api.Lock{Used: true, Holder: ahead[r.Intn(len(ahead))]}
			}
			threads[i] = in(api.Waiting, lock)
		case len(ahead) == 0:
			threads[i] = in([]int{api.Running, api.Asleep, api.Ready}[r.Intn(3)], -1)
		default:
			threads[i] = in([]int{api.Asleep, api.Ready}[r.Intn(2)], -1)
		}
		ahead = append(ahead, i)
	}
	return threads, locks
}

// random is a state of any many coins, tickets and threads, some of them not used, whose coins fund others along a
// mixed order.
func random(r *rand.Rand) api.State {
	threads, locks := waiters(r)
	s := queued(api.State{Coins: []bool{true}, Threads: threads, Locks: locks, Quantum: 1})
	place := append([]int{-1}, r.Perm(api.MaxCoins-1)...)
	for c := 1; c < api.MaxCoins; c++ {
		s.Coins = append(s.Coins, r.Intn(4) > 0)
	}
	for range r.Intn(api.MaxTickets) {
		t := api.Ticket{Used: true, Coin: r.Intn(api.MaxCoins), Amount: 1 + r.Intn(5), Kind: r.Intn(3), On: r.Intn(4) > 0}
		switch t.Kind {
		case api.ToThread:
			t.To = r.Intn(len(threads))
		case api.ToCoin:
			t.To = r.Intn(api.MaxCoins)
		}
		thread := t.Kind != api.ToThread || threads[t.To].State != api.Free
		coin := t.Kind != api.ToCoin || s.Coins[t.To] && place[t.Coin] < place[t.To] && place[t.To]-place[t.Coin] < 4
		if !s.Coins[t.Coin] || !thread || !coin {
			t = api.Ticket{}
		}
		s.Tickets = append(s.Tickets, t)
	}
	return state.Trim(s)
}

// P17.1, P17.2: many states of any sort, in which many tickets of coins for coins count, and many do not.
func TestRandom(t *testing.T) {
	r := rand.New(rand.NewSource(17))
	seen := map[bool]int{}
	for range 1500 {
		s := random(r)
		check(t, s)
		for i, counts := range Tickets(s) {
			if s.Tickets[i].Kind == api.ToCoin && s.Tickets[i].On {
				seen[counts]++
			}
		}
	}
	if seen[true] < 500 || seen[false] < 500 {
		t.Errorf("tickets for coins that count, and that do not: %v", seen)
	}
}

// Every call ends, and none panics, at states that may not be too, of which nothing else is promised.
func TestStatesThatMayNotBe(t *testing.T) {
	for _, s := range mayNotBe() {
		kept := told(s)
		if len(Tickets(s)) != len(s.Tickets) || len(Amounts(s)) != len(s.Coins) || len(Threads(s)) != len(s.Threads) {
			t.Errorf("lists of another length, of %s", kept)
		}
		Dead(s)
		for _, c := range []int{-1, 0, 1, 2, 3, 4999, 5000, math.MinInt, math.MaxInt} {
			Awake(s, c)
		}
		if told(s) != kept {
			t.Fatalf("%s was made of %s", told(s), kept)
		}
	}
}

// spoil writes into a list, and what lies behind its end.
func spoil[T any](l []T, x T) {
	for i := range l[:cap(l)] {
		l[:cap(l)][i] = x
	}
}

// What is answered is new memory, and nothing is kept (R5).
func TestAnswersAreNew(t *testing.T) {
	s := rich()
	lives, counts, amounts, dead := Threads(s), Tickets(s), Amounts(s), Dead(s)
	spoil(Threads(s), true)
	spoil(Tickets(s), true)
	spoil(Amounts(s), -7)
	spoil(Dead(s), -7)
	check(t, s)
	if told(s) != told(rich()) {
		t.Error("an answer is shared with the state")
	}
	spoil(s.Coins, false)
	spoil(s.Tickets, api.Ticket{})
	spoil(s.Threads, api.Thread{})
	s = rich()
	equal(t, s, "Threads", lives, Threads(s))
	equal(t, s, "Tickets", counts, Tickets(s))
	equal(t, s, "Amounts", amounts, Amounts(s))
	equal(t, s, "Dead", dead, Dead(s))
}
