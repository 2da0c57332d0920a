package fund

import (
	"fmt"
	"math"
	"math/rand"
	"slices"
	"testing"

	"tombola/api"
	"tombola/state"
)

// toCoin is a ticket of a coin that funds another one.
func toCoin(coin, to int) api.Ticket {
	return api.Ticket{Used: true, Coin: coin, Amount: 1 + to, Kind: api.ToCoin, To: to, On: coin%2 == 0}
}

// toThread is a ticket of a coin that funds a thread.
func toThread(coin, to int) api.Ticket {
	return api.Ticket{Used: true, Coin: coin, Amount: 7, Kind: api.ToThread, To: to, On: to%2 == 0}
}

// toNone is a ticket of a coin that funds nothing.
func toNone(coin int) api.Ticket {
	return api.Ticket{Used: true, Coin: coin, Amount: api.MaxAmount, On: true}
}

// asleep is a thread that is used.
func asleep() api.Thread {
	return api.Thread{State: api.Asleep, For: api.None, Client: api.None, Q: 1, U: 1}
}

// made is a state of these coins and tickets, and of so many threads, of which the second one is not used.
func made(coins []bool, tickets []api.Ticket, threads int) api.State {
	s := api.State{Coins: coins, Tickets: tickets, Quantum: 5}
	for i := range threads {
		s = state.PutThread(s, i, asleep())
	}
	if threads > 2 {
		s = state.PutThread(s, 1, api.Thread{})
	}
	return state.Trim(s)
}

// rich is a state in which coins have tickets of all kinds, one of them is funded by two, and places are free.
func rich() api.State {
	coins := []bool{true, true, true, false, true, true, true}
	return made(coins, []api.Ticket{
		toCoin(0, 4),
		{},
		toCoin(4, 2),
		toCoin(2, 1),
		toCoin(0, 5),
		toCoin(5, 1),
		{},
		toThread(4, 0),
		toThread(1, 2),
		toThread(1, 2),
		toThread(5, 3),
		toThread(0, 4),
		toNone(2),
		toNone(0),
		toThread(6, 5),
		toCoin(4, 2),
	}, 8)
}

// mayNotBe are states that may not be, which calls have to end at nevertheless.
func mayNotBe() []api.State {
	coins := []bool{true, true, true}
	return []api.State{
		{},
		{Tickets: []api.Ticket{toCoin(0, 1), toThread(0, 0)}},
		{Coins: coins, Tickets: []api.Ticket{toCoin(1, 2), toCoin(2, 1)}},
		{Coins: coins, Tickets: []api.Ticket{toCoin(1, 1), toCoin(0, 0)}},
		{Coins: coins, Tickets: []api.Ticket{toCoin(-1, 1), toCoin(7, 2), toCoin(1, -7), toCoin(0, math.MaxInt)}},
		{Coins: []bool{false, true}, Tickets: []api.Ticket{toThread(9, 9), toThread(-9, -9), toThread(math.MinInt, math.MaxInt)}},
		{Coins: make([]bool, 5000), Tickets: []api.Ticket{toCoin(4999, 1)}, Threads: make([]api.Thread, 100)},
		{Coins: slices.Repeat([]bool{true}, 5000), Tickets: []api.Ticket{toCoin(4998, 4999), toThread(4999, 0)}, Threads: []api.Thread{asleep()}},
	}
}

// What follows is the document's chapter in the tests' own words, for a state's answers to be held against.

// used tells whether there is such a coin.
func used(s api.State, c int) bool {
	return c >= 0 && c < len(s.Coins) && s.Coins[c]
}

// arrow tells whether a ticket of a coin funds another coin.
func arrow(s api.State, from, to int) bool {
	return slices.ContainsFunc(s.Tickets, func(t api.Ticket) bool {
		return t.Used && t.Coin == from && t.Kind == 2 && t.To == to
	})
}

// comes tells whether one comes from a coin to another one, by so many arrows at most.
func comes(s api.State, a, b, most int) bool {
	if most == 0 {
		return false
	}
	for c := range s.Coins {
		if arrow(s, a, c) && (c == b || comes(s, c, b, most-1)) {
			return true
		}
	}
	return false
}

// wantFunds is Funds.
func wantFunds(s api.State, a, b int) bool {
	return used(s, a) && used(s, b) && comes(s, a, b, len(s.Coins))
}

// wantCloses is whether there is a ring, when there is such a ticket.
func wantCloses(s api.State, from, to int) bool {
	if !used(s, from) || !used(s, to) {
		return false
	}
	more := s
	more.Tickets = append(slices.Clone(s.Tickets), toCoin(from, to))
	return comes(more, from, from, len(s.Coins))
}

// wantOrder is again and again the least coin that no one funds which was not told.
func wantOrder(s api.State) (out []int) {
	for {
		next := -1
		for c := range s.Coins {
			ready := used(s, c) && !slices.Contains(out, c)
			for from := range s.Coins {
				ready = ready && (!arrow(s, from, c) || slices.Contains(out, from))
			}
			if ready && next < 0 {
				next = c
			}
		}
		if next < 0 {
			return out
		}
		out = append(out, next)
	}
}

// wantTickets are the tickets of a coin, or those that fund something of a kind.
func wantTickets(s api.State, coin, kind, to int) (out []int) {
	for i := range s.Tickets {
		t := s.Tickets[i]
		if t.Used && (kind < 0 && t.Coin == coin || kind >= 0 && t.Kind == kind && t.To == to) {
			out = append(out, i)
		}
	}
	return out
}

// takes tells whether a coin has to be in a set of coins (a bit for each).
func takes(s api.State, set uint, c int) bool {
	backing := wantTickets(s, -1, 2, c)
	for _, i := range backing {
		if set>>s.Tickets[i].Coin&1 == 0 {
			return false
		}
	}
	return used(s, c) && len(backing) > 0
}

// wantOwn is what is in all sets with c, in which all coins are that have to be: the least one of these.
func wantOwn(s api.State, c int) (out []int) {
	if !used(s, c) {
		return nil
	}
	least := uint(1)<<len(s.Coins) - 1
	for set := range least + 1 {
		closed := set>>c&1 == 1
		for i := range s.Coins {
			closed = closed && (set>>i&1 == 1 || !takes(s, set, i))
		}
		if closed {
			least &= set
		}
	}
	for i := range s.Coins {
		if least>>i&1 == 1 {
			out = append(out, i)
		}
	}
	return out
}

// growOwn is as wantOwn, for states with many coins: more and more coins, till no more have to be in.
func growOwn(s api.State, c int) (out []int) {
	if !used(s, c) {
		return nil
	}
	set := uint(1) << c
	for range s.Coins {
		for i := range s.Coins {
			if takes(s, set, i) {
				set |= 1 << i
			}
		}
	}
	for i := range s.Coins {
		if set>>i&1 == 1 {
			out = append(out, i)
		}
	}
	return out
}

// wantOutside are the threads that have no ticket of c, or of one that it funds.
func wantOutside(s api.State, c int) (out []int) {
	for i, t := range s.Threads {
		inside := slices.ContainsFunc(s.Tickets, func(k api.Ticket) bool {
			return k.Used && k.Kind == 1 && k.To == i && (k.Coin == c || wantFunds(s, c, k.Coin))
		})
		if t.State != 0 && !inside {
			out = append(out, i)
		}
	}
	return out
}

// told is a state as text, in which all that may differ is to be seen.
func told(s api.State) string {
	return fmt.Sprintf("%v %v %v", s.Coins, s.Tickets, s.Threads)
}

// equal fails, if a list is not the one that is wanted.
func equal(t *testing.T, s api.State, what string, got, want []int) {
	t.Helper()
	if !slices.Equal(got, want) {
		t.Fatalf("%s = %v, want %v, of %s", what, got, want, told(s))
	}
}

// numbers are a state's coins, or threads, those that are not used too, and some that there are not.
func numbers(n int) []int {
	out := []int{-1, math.MinInt, math.MaxInt, n, n + 1, -n}
	for i := range n {
		out = append(out, i)
	}
	return out
}

// checkCoins holds what is told of coins against the chapter.
func checkCoins(t *testing.T, s api.State, own func(api.State, int) []int) {
	t.Helper()
	equal(t, s, "Order", Order(s), wantOrder(s))
	for _, a := range numbers(len(s.Coins)) {
		equal(t, s, fmt.Sprintf("Own %d", a), Own(s, a), own(s, a))
		for _, b := range numbers(len(s.Coins)) {
			if got, want := Funds(s, a, b), wantFunds(s, a, b); got != want {
				t.Fatalf("Funds(%d, %d) = %v of %s", a, b, got, told(s))
			}
			if got, want := Closes(s, a, b), wantCloses(s, a, b); got != want {
				t.Fatalf("Closes(%d, %d) = %v of %s", a, b, got, told(s))
			}
		}
	}
}

// checkTickets holds what is told of tickets, and of threads, against the chapter.
func checkTickets(t *testing.T, s api.State) {
	t.Helper()
	for _, c := range numbers(len(s.Coins)) {
		var issued, backing []int
		if used(s, c) {
			issued, backing = wantTickets(s, c, -1, 0), wantTickets(s, -1, 2, c)
		}
		equal(t, s, fmt.Sprintf("Issued %d", c), Issued(s, c), issued)
		equal(t, s, fmt.Sprintf("Backing %d", c), Backing(s, c), backing)
		equal(t, s, fmt.Sprintf("Outside %d", c), Outside(s, c), wantOutside(s, c))
	}
	for _, i := range numbers(len(s.Threads)) {
		var of []int
		if i >= 0 && i < len(s.Threads) && s.Threads[i].State != 0 {
			of = wantTickets(s, -1, 1, i)
		}
		equal(t, s, fmt.Sprintf("Of %d", i), Of(s, i), of)
	}
}

// check holds all of a state that may be against the chapter.
func check(t *testing.T, s api.State, own func(api.State, int) []int) {
	t.Helper()
	if !state.Fine(s) {
		t.Fatalf("the test's state may not be: %s", told(s))
	}
	kept := told(s)
	checkCoins(t, s, own)
	checkTickets(t, s)
	checkFollows(t, s)
	if told(s) != kept {
		t.Fatalf("%s was made of %s", told(s), kept)
	}
}

// checkFollows holds what follows of a state's order and own coins. (P15.4)
func checkFollows(t *testing.T, s api.State) {
	t.Helper()
	order := Order(s)
	for i, a := range order {
		for _, b := range order[:i] {
			if Funds(s, a, b) {
				t.Fatalf("%d funds %d, which stands ahead of it, of %s", a, b, told(s))
			}
		}
		for _, b := range Own(s, a) {
			if a != b && !Funds(s, a, b) {
				t.Fatalf("%d is an own coin of %d, which does not fund it, of %s", b, a, told(s))
			}
		}
	}
}

// P15.1, P15.2, P15.3: the document's example, and the base alone.
func TestExamples(t *testing.T) {
	s := made([]bool{true, true}, []api.Ticket{toCoin(0, 1)}, 0)
	if !Funds(s, 0, 1) || Funds(s, 1, 0) || Funds(s, 0, 0) || Funds(s, 1, 1) {
		t.Error("Funds")
	}
	if Closes(s, 0, 1) || !Closes(s, 1, 0) || !Closes(s, 0, 0) || !Closes(s, 1, 1) {
		t.Error("Closes")
	}
	equal(t, s, "Own", Own(s, 0), []int{0, 1})
	check(t, s, wantOwn)
	base, _ := state.New(1)
	equal(t, base, "Order", Order(base), []int{0})
	equal(t, base, "Own", Own(base, 0), []int{0})
	equal(t, base, "Outside", Outside(base, 0), nil)
	check(t, base, wantOwn)
}

// P15.1: an order along the arrows, and what a ticket would close, of a state that is written down.
func TestOrderAndRings(t *testing.T) {
	s := rich()
	check(t, s, wantOwn)
	equal(t, s, "Order", Order(s), []int{0, 4, 2, 5, 1, 6})
	for _, c := range []struct {
		a, b          int
		funds, closes bool
	}{
		{0, 1, true, false}, {0, 4, true, false}, {4, 1, true, false}, {5, 1, true, false}, {2, 1, true, false},
		{1, 0, false, true}, {1, 4, false, true}, {2, 4, false, true}, {1, 5, false, true},
		{4, 5, false, false}, {5, 4, false, false}, {6, 1, false, false}, {1, 6, false, false}, {6, 0, false, false},
		{6, 6, false, true}, {0, 0, false, true}, {1, 1, false, true},
		{3, 3, false, false}, {0, 3, false, false}, {3, 0, false, false}, {7, 7, false, false}, {-1, -1, false, false},
		{0, 7, false, false}, {7, 0, false, false}, {0, -1, false, false}, {-1, 0, false, false},
	} {
		if Funds(s, c.a, c.b) != c.funds || Closes(s, c.a, c.b) != c.closes {
			t.Errorf("%d and %d: Funds %v, Closes %v", c.a, c.b, Funds(s, c.a, c.b), Closes(s, c.a, c.b))
		}
	}
}

// P15.2: a coin's tickets, those that fund it, and those that fund a thread, of a state that is written down.
func TestTickets(t *testing.T) {
	s := rich()
	for c, want := range [][][]int{
		{{0, 4, 11, 13}, nil},
		{{8, 9}, {3, 5}},
		{{3, 12}, {2, 15}},
		{nil, nil},
		{{2, 7, 15}, {0}},
		{{5, 10}, {4}},
		{{14}, nil},
		{nil, nil},
	} {
		equal(t, s, "Issued", Issued(s, c), want[0])
		equal(t, s, "Backing", Backing(s, c), want[1])
	}
	for i, want := range [][]int{{7}, nil, {8, 9}, {10}, {11}, {14}, nil, nil, nil, nil} {
		equal(t, s, "Of", Of(s, i), want)
	}
}

// P15.2: nothing is told of what is not used, though tickets that are not used are zero: of the base, for nothing.
func TestNotUsed(t *testing.T) {
	s := rich()
	for _, i := range []int{-1, 1, 3, 7, 8, 100, math.MinInt, math.MaxInt} {
		if i != 1 {
			equal(t, s, "Issued", Issued(s, i), nil)
			equal(t, s, "Backing", Backing(s, i), nil)
			equal(t, s, "Own", Own(s, i), nil)
			equal(t, s, "Outside", Outside(s, i), []int{0, 2, 3, 4, 5, 6, 7})
		}
		if i != 3 && i != 7 {
			equal(t, s, "Of", Of(s, i), nil)
		}
	}
	bare := made([]bool{true}, []api.Ticket{{}, {}, toThread(0, 0)}, 1)
	equal(t, bare, "Issued", Issued(bare, 0), []int{2})
	equal(t, bare, "Of", Of(bare, 0), []int{2})
	check(t, bare, wantOwn)
}

// P15.3: own coins, and threads outside, of a state that is written down.
func TestOwnAndOutside(t *testing.T) {
	s := rich()
	for c, want := range [][][]int{
		{{0, 1, 2, 4, 5}, {5, 6, 7}},
		{{1}, {0, 3, 4, 5, 6, 7}},
		{{2}, {0, 3, 4, 5, 6, 7}},
		{nil, {0, 2, 3, 4, 5, 6, 7}},
		{{2, 4}, {3, 4, 5, 6, 7}},
		{{5}, {0, 4, 5, 6, 7}},
		{{6}, {0, 2, 3, 4, 6, 7}},
	} {
		equal(t, s, "Own", Own(s, c), want[0])
		equal(t, s, "Outside", Outside(s, c), want[1])
	}
}

// P15.3: a coin is its own one, whoever else funds it; one that a coin funds too is none, as long as another one does.
func TestOwnByOthers(t *testing.T) {
	coins := []bool{true, true, true, true}
	tickets := []api.Ticket{toCoin(0, 1), toCoin(1, 2), toCoin(2, 3)}
	line := made(coins, tickets, 0)
	equal(t, line, "Own", Own(line, 1), []int{1, 2, 3})
	short := made(coins, append(tickets, toCoin(0, 3)), 0)
	equal(t, short, "Own", Own(short, 1), []int{1, 2})
	equal(t, short, "Own", Own(short, 0), []int{0, 1, 2, 3})
	round := made(coins, append(tickets, toCoin(1, 3)), 0)
	equal(t, round, "Own", Own(round, 1), []int{1, 2, 3})
	equal(t, round, "Own", Own(round, 2), []int{2})
	alone := made(coins, nil, 0)
	for c := range coins {
		equal(t, alone, "Own", Own(alone, c), []int{c})
	}
}

// P15.1 to P15.4: a coin whose number is low is funded by one whose number is high, over all that there may be.
func TestAgainstTheNumbers(t *testing.T) {
	coins := slices.Repeat([]bool{true}, api.MaxCoins)
	var tickets []api.Ticket
	var order []int
	for c := api.MaxCoins - 1; c > 1; c-- {
		tickets = append(tickets, toCoin(c, c-1), toThread(c, c))
		order = append(order, c)
	}
	s := made(coins, append(tickets, toThread(1, 31)), api.MaxThreads)
	check(t, s, growOwn)
	equal(t, s, "Order", Order(s), append(append([]int{0}, order...), 1))
	equal(t, s, "Own", Own(s, 15), []int{1, 2, 3, 4, 5, 6, 7, 8, 9, 10, 11, 12, 13, 14, 15})
	equal(t, s, "Own", Own(s, 2), []int{1, 2})
	if !Funds(s, 15, 1) || !Closes(s, 1, 15) || Closes(s, 15, 1) || Closes(s, 0, 15) || Closes(s, 15, 0) {
		t.Error("a line of coins")
	}
}

// arrows are all tickets of one of so many coins that fund another one.
func arrows(n int) (out []api.Ticket) {
	for from := range n {
		for to := 1; to < n; to++ {
			if from != to {
				out = append(out, toCoin(from, to))
			}
		}
	}
	return out
}

// P15.1 to P15.4: of up to five coins, each of which funds a thread, all arrows that have no ring.
func TestAllArrows(t *testing.T) {
	for n := 1; n <= 5; n++ {
		s := api.State{Coins: slices.Repeat([]bool{true}, n), Threads: slices.Repeat([]api.Thread{asleep()}, n), Quantum: 1}
		all := arrows(n)
		for set := range 1 << len(all) {
			s.Tickets = nil
			for i, ticket := range all {
				if set>>i&1 == 1 {
					s.Tickets = append(s.Tickets, ticket)
				}
			}
			for c := range n {
				s.Tickets = append(s.Tickets, toThread(c, c))
			}
			switch {
			case !state.Fine(s):
			case n == 5:
				checkCoins(t, s, wantOwn)
			default:
				check(t, s, wantOwn)
			}
		}
	}
}

// random is a state of any many coins and threads, some of them not used, whose arrows follow a mixed order.
func random(r *rand.Rand) api.State {
	s, _ := state.New(10)
	for i := range api.MaxCoins {
		s = state.PutCoin(s, i, i == 0 || r.Intn(3) > 0)
	}
	for i := range r.Intn(12) {
		if r.Intn(4) > 0 {
			s = state.PutThread(s, i, asleep())
		}
	}
	place := append([]int{-1}, r.Perm(api.MaxCoins-1)...)
	for i := range r.Intn(60) {
		s = state.PutTicket(s, i, randomTicket(r, s, place))
	}
	return s
}

// randomTicket is a ticket that a state may have, or none.
func randomTicket(r *rand.Rand, s api.State, place []int) api.Ticket {
	coin, to, thread := r.Intn(api.MaxCoins), r.Intn(api.MaxCoins), r.Intn(12)
	if !used(s, coin) {
		return api.Ticket{}
	}
	ticket := api.Ticket{Used: true, Coin: coin, Amount: 1 + r.Intn(9), On: r.Intn(2) == 0}
	_, is := state.Thread(s, thread)
	switch r.Intn(5) {
	case 0, 1, 2:
		if used(s, to) && place[coin] < place[to] {
			ticket.Kind, ticket.To = api.ToCoin, to
		}
	case 3:
		if is {
			ticket.Kind, ticket.To = api.ToThread, thread
		}
	}
	return ticket
}

// P15.1 to P15.4: many states of any sort.
func TestRandom(t *testing.T) {
	r := rand.New(rand.NewSource(15))
	for range 500 {
		check(t, random(r), growOwn)
	}
}

// Every call ends, and none panics, at states that may not be too, of which nothing else is promised.
func TestStatesThatMayNotBe(t *testing.T) {
	for _, s := range mayNotBe() {
		kept := told(s)
		Order(s)
		for _, a := range []int{-1, 0, 1, 2, 4095, 4096, 4998, 4999, 5000, math.MinInt, math.MaxInt} {
			Issued(s, a)
			Backing(s, a)
			Of(s, a)
			Own(s, a)
			Outside(s, a)
			for _, b := range []int{-1, 0, 1, 4999, math.MinInt, math.MaxInt} {
				Funds(s, a, b)
				Closes(s, a, b)
			}
		}
		if told(s) != kept {
			t.Fatalf("%s was made of %s", told(s), kept)
		}
	}
}

// lists are all lists that are told of a state's first coins and threads.
func lists(s api.State) [][]int {
	out := [][]int{Order(s)}
	for i := range 3 {
		out = append(out, Issued(s, i), Backing(s, i), Of(s, i), Own(s, i), Outside(s, i))
	}
	return out
}

// What is answered is new memory, and nothing is kept (R5).
func TestAnswersAreNew(t *testing.T) {
	s := rich()
	first := fmt.Sprint(lists(s))
	for _, l := range lists(s) {
		for i := range l[:cap(l)] {
			l[:cap(l)][i] = -7
		}
	}
	if told(s) != told(rich()) || fmt.Sprint(lists(s)) != first {
		t.Error("an answer is shared with the state")
	}
	got := lists(s)
	clear(s.Coins)
	clear(s.Tickets)
	clear(s.Threads)
	if fmt.Sprint(got) != first {
		t.Error("an answer hangs on the state that was handed over")
	}
}
