package worth

import (
	"fmt"
	"math"
	"math/big"
	"math/rand"
	"slices"
	"testing"

	"tombola/api"
	"tombola/live"
	"tombola/ratio"
	"tombola/state"
)

// gives is a ticket that is on.
func gives(coin, amount, kind, to int) api.Ticket {
	return api.Ticket{Used: true, Coin: coin, Amount: amount, Kind: kind, To: to, On: true}
}

// turnedOff is a ticket as it was, but off.
func turnedOff(t api.Ticket) api.Ticket {
	t.On = false
	return t
}

// alone is a thread that waits for nobody, and serves nobody.
func alone(state int) api.Thread {
	return api.Thread{State: state, For: api.None, Client: api.None, Q: 1, U: 1}
}

// cast is a state without tickets, of some coins that are all used, whose threads 0, 3, 6 and 7 live, 1, 4 and 5 do
// not, and whose thread 2 is not used.
func cast(coins int) api.State {
	calls, waits, both := alone(api.Calling), alone(api.Waiting), alone(api.Waiting)
	calls.For, waits.For, both.For = 6, 0, 1
	return api.State{
		Coins:   slices.Repeat([]bool{true}, coins),
		Threads: []api.Thread{alone(api.Ready), alone(api.Asleep), {}, calls, waits, alone(api.Listening), alone(api.Running), both},
		Locks:   []api.Lock{{Used: true, Holder: 1}, {Used: true, Holder: 3}},
		Queue:   []int{3, 7, 4},
		Quantum: 10,
	}
}

// rich is a state with coins whose numbers do not follow their order, one that is not used, one that sleeps, one that
// is awake and funded by nobody, and one that is awake and funded by one that nobody funds.
func rich() api.State {
	s := cast(8)
	s.Coins[3] = false
	s.Tickets = []api.Ticket{
		gives(4, 1, api.ToCoin, 2),
		gives(0, 10, api.ToCoin, 4),
		{},
		gives(2, 4, api.ToThread, 0),
		gives(2, 3, api.ToThread, 3),
		turnedOff(gives(2, 90, api.ToThread, 6)),
		gives(2, 80, api.ToThread, 1),
		gives(4, 2, api.ToThread, 6),
		gives(0, 5, api.ToCoin, 2),
		gives(0, 70, api.ToCoin, 5),
		gives(5, 60, api.ToThread, 4),
		gives(1, 6, api.ToThread, 7),
		gives(1, 50, api.ToCoin, 6),
		gives(6, 9, api.ToThread, 0),
		gives(0, 3, api.ToThread, 7),
		turnedOff(gives(0, 40, api.ToCoin, 1)),
		gives(0, 30, api.ToNone, 0),
		gives(2, 20, api.ToNone, 0),
		gives(7, 1, api.ToThread, 0),
		gives(0, 8, api.ToCoin, 7),
		gives(0, 16, api.ToCoin, 7),
	}
	return s
}

// What follows is the document's chapter in the tests' own words, in fractions of the library of Go.

// wantTicket is what a ticket is worth.
func wantTicket(s api.State, i int) *big.Rat {
	t := s.Tickets[i]
	switch {
	case !live.Tickets(s)[i]:
		return new(big.Rat)
	case t.Coin == 0:
		return big.NewRat(int64(t.Amount), 1)
	}
	part := big.NewRat(int64(t.Amount), int64(live.Amounts(s)[t.Coin]))
	return part.Mul(part, wantCoin(s, t.Coin))
}

// wantFunding is what those tickets are worth together that fund a thread, or a coin.
func wantFunding(s api.State, kind, to int) *big.Rat {
	sum := new(big.Rat)
	for i, t := range s.Tickets {
		if t.Used && t.Kind == kind && t.To == to {
			sum.Add(sum, wantTicket(s, i))
		}
	}
	return sum
}

// wantCoin is what a coin is worth.
func wantCoin(s api.State, c int) *big.Rat {
	if c == 0 {
		return big.NewRat(int64(live.Amounts(s)[0]), 1)
	}
	return wantFunding(s, 2, c)
}

// told is a state as text, in which all that may differ is to be seen.
func told(s api.State) string {
	return fmt.Sprintf("coins %v, tickets %v, threads %v, locks %v, queue %v", s.Coins, s.Tickets, s.Threads, s.Locks, s.Queue)
}

// texts are the texts of fractions.
func texts(l []api.Ratio) (out []string) {
	for _, a := range l {
		out = append(out, ratio.Text(a))
	}
	return out
}

// holds fails, if a list is not of so many right fractions, each of which is the one that is wanted at its place.
func holds(t *testing.T, s api.State, what string, got []api.Ratio, many int, want func(place int) *big.Rat) {
	t.Helper()
	if len(got) != many {
		t.Fatalf("%s has %d elements, of %s", what, len(got), told(s))
	}
	for i, a := range got {
		if ratio.Text(a) != want(i).RatString() || !ratio.Right(a) {
			t.Fatalf("%s of the place %d = %v, want %v, of %s", what, i, a, want(i), told(s))
		}
	}
}

// check holds all of a state that may be against the chapter.
func check(t *testing.T, s api.State) {
	t.Helper()
	before := told(s)
	if !state.Fine(s) {
		t.Fatalf("the test's state may not be: %s", before)
	}
	holds(t, s, "Tickets", Tickets(s), len(s.Tickets), func(i int) *big.Rat { return wantTicket(s, i) })
	holds(t, s, "Coins", Coins(s), len(s.Coins), func(c int) *big.Rat { return wantCoin(s, c) })
	holds(t, s, "Threads", Threads(s), len(s.Threads), func(i int) *big.Rat { return wantFunding(s, api.ToThread, i) })
	checkSums(t, s)
	if after := told(s); after != before {
		t.Fatalf("%s was made of %s", after, before)
	}
}

// checkSums holds what all threads are worth, and all tickets of each coin that is awake. (P18.2)
func checkSums(t *testing.T, s api.State) {
	t.Helper()
	active, _ := ratio.Of(uint64(live.Amounts(s)[0]), 1)
	if all := Sum(Threads(s)); !ratio.Same(all, active) {
		t.Fatalf("all threads are worth %s, the base's active amount is %s, of %s", ratio.Text(all), ratio.Text(active), told(s))
	}
	coins, tickets := Coins(s), Tickets(s)
	for c := range s.Coins {
		var issued []api.Ratio
		for i, ticket := range s.Tickets {
			if ticket.Used && ticket.Coin == c {
				issued = append(issued, tickets[i])
			}
		}
		if live.Awake(s, c) && !ratio.Same(Sum(issued), coins[c]) {
			t.Fatalf("the coin %d is worth %s, its tickets %s, of %s", c, ratio.Text(coins[c]), ratio.Text(Sum(issued)), told(s))
		}
	}
}

// tells fails, if a list is not of the fractions that the texts tell.
func tells(t *testing.T, what string, got []api.Ratio, want ...string) {
	t.Helper()
	if !slices.Equal(texts(got), want) {
		t.Errorf("%s = %v, want %v", what, texts(got), want)
	}
}

// P18.1, P18.2: the document's example, and the base alone.
func TestExamples(t *testing.T) {
	s := api.State{Coins: []bool{true, true}, Threads: []api.Thread{alone(api.Ready), alone(api.Ready)}, Quantum: 1}
	s.Tickets = []api.Ticket{gives(0, 10, api.ToCoin, 1), gives(1, 1, api.ToThread, 0), gives(1, 2, api.ToThread, 1)}
	check(t, s)
	tells(t, "Coins", Coins(s), "10", "10")
	tells(t, "Tickets", Tickets(s), "10", "10/3", "20/3")
	tells(t, "Threads", Threads(s), "10/3", "20/3")
	base, _ := state.New(1)
	check(t, base)
	tells(t, "Coins", Coins(base), "0")
	if len(Tickets(base))+len(Threads(base)) != 0 {
		t.Error("the base alone has tickets, or threads")
	}
}

// P18.1: all that is told of a state that is written down.
func TestRich(t *testing.T) {
	s := rich()
	check(t, s)
	tells(t, "Coins", Coins(s), "42", "0", "25/3", "0", "10", "0", "0", "24")
	tells(t, "Tickets", Tickets(s), "10/3", "10", "0", "100/21", "25/7", "0", "0", "20/3", "5", "0", "0", "0", "0", "0",
		"3", "0", "0", "0", "24", "8", "16")
	tells(t, "Threads", Threads(s), "604/21", "0", "0", "25/7", "0", "0", "20/3", "3")
}

// P18.1: one ticket is worth what it is in the list of all; where there is none, 0.
func TestTicket(t *testing.T) {
	s := rich()
	for k, want := range Tickets(s) {
		if got := Ticket(s, k); !ratio.Same(got, want) {
			t.Errorf("Ticket(%d) = %s, want %s", k, ratio.Text(got), ratio.Text(want))
		}
	}
	for _, k := range []int{2, 21, 22, 96, 1000, -1, -7, math.MinInt, math.MaxInt} {
		if got := Ticket(s, k); !ratio.Right(got) || ratio.Text(got) != "0" {
			t.Errorf("Ticket(%d) = %v", k, got)
		}
	}
	base, _ := state.New(1)
	if got := Ticket(base, 0); !ratio.Right(got) || ratio.Text(got) != "0" {
		t.Errorf("Ticket(0) of the base alone = %v", got)
	}
}

// P18.1: Sum is the sum of any many fractions; 0, if there are none.
func TestSum(t *testing.T) {
	half, _ := ratio.Of(1, 2)
	third, _ := ratio.Of(1, 3)
	sixth, _ := ratio.Of(1, 6)
	great, _ := ratio.Of(math.MaxUint64, 1)
	tells(t, "Sum", []api.Ratio{Sum(nil), Sum([]api.Ratio{}), Sum([]api.Ratio{half}), Sum([]api.Ratio{half, third})}, "0", "0", "1/2", "5/6")
	tells(t, "Sum", []api.Ratio{Sum([]api.Ratio{half, third, sixth}), Sum([]api.Ratio{great, great, half})}, "1", "73786976294838206461/2")
	tells(t, "Sum", []api.Ratio{Sum([]api.Ratio{ratio.Zero(), third, ratio.Zero()}), Sum([]api.Ratio{ratio.Zero()})}, "1/3", "0")
	if !ratio.Right(Sum(nil)) || !ratio.Right(Sum([]api.Ratio{half, half})) {
		t.Error("a sum is not right")
	}
}

// P18.1, P18.2: where some tickets of a coin are turned off, or fund somebody who sleeps, the others are worth it all.
func TestOthersAreWorthMore(t *testing.T) {
	s := cast(2)
	s.Tickets = []api.Ticket{gives(0, 12, api.ToCoin, 1), gives(1, 1, api.ToThread, 0), gives(1, 2, api.ToThread, 3), gives(1, 3, api.ToThread, 7)}
	check(t, s)
	tells(t, "Tickets", Tickets(s), "12", "2", "4", "6")
	s.Tickets[3].On = false
	check(t, s)
	tells(t, "Tickets", Tickets(s), "12", "4", "8", "0")
	s.Tickets[2].To = 4
	check(t, s)
	tells(t, "Tickets", Tickets(s), "12", "12", "0", "0")
	s.Threads[0] = alone(api.Asleep)
	check(t, s)
	tells(t, "Tickets", Tickets(s), "0", "0", "0", "0")
	tells(t, "Coins", Coins(s), "0", "0")
}

// P18.1, P18.2: a coin that is awake, and that nobody funds, or no ticket that is on, is worth 0, and so are its tickets.
func TestUnfunded(t *testing.T) {
	s := cast(3)
	s.Tickets = []api.Ticket{turnedOff(gives(0, 5, api.ToCoin, 1)), gives(1, 7, api.ToCoin, 2), gives(2, 1, api.ToThread, 0)}
	check(t, s)
	tells(t, "Coins", Coins(s), "0", "0", "0")
	tells(t, "Threads", Threads(s), "0", "0", "0", "0", "0", "0", "0", "0")
	s.Tickets[0].On = true
	check(t, s)
	tells(t, "Tickets", Tickets(s), "5", "5", "5")
}

// P18.1, P18.2: a line of all coins that there may be, each of which gives nearly all on: fractions of hundreds of bits.
func TestLongest(t *testing.T) {
	const prime = 1<<20 - 3
	s := cast(api.MaxCoins)
	from := 0
	for k, to := range []int{8, 3, 15, 1, 12, 5, 14, 2, 9, 4, 13, 6, 11, 7, 10} {
		s.Tickets = append(s.Tickets, gives(from, prime-6*k, api.ToCoin, to), gives(from, 5, api.ToThread, []int{0, 3, 6}[k%3]))
		from = to
	}
	s.Tickets = append(s.Tickets, gives(from, api.MaxAmount, api.ToThread, 7))
	check(t, s)
	if last := Threads(s)[7]; len(last.Num) < 8 || len(last.Den) < 8 {
		t.Errorf("the last thread is worth only %s", ratio.Text(last))
	}
	s.Tickets[30].On = false
	check(t, s)
	tells(t, "Coins", Coins(s)[10:11], "0")
}

// P18.1, P18.2: as much as there may be: all tickets of the base, with the greatest amount.
func TestGreatest(t *testing.T) {
	s := cast(1)
	for i := range api.MaxTickets {
		s.Tickets = append(s.Tickets, gives(0, api.MaxAmount, api.ToThread, []int{0, 3, 6, 7}[i%4]))
	}
	check(t, s)
	tells(t, "Coins", Coins(s), "100663296")
	tells(t, "Threads", Threads(s), "25165824", "0", "0", "25165824", "0", "0", "25165824", "25165824")
}

// P18.1, P18.2: each choice of twelve tickets of three coins, which stand either way round.
func TestAllSmall(t *testing.T) {
	for low, high := range map[int]int{1: 2, 2: 1} {
		tickets := []api.Ticket{
			gives(0, 2, api.ToCoin, low),
			gives(0, 3, api.ToCoin, high),
			gives(low, 5, api.ToCoin, high),
			gives(0, 7, api.ToThread, 0),
			gives(low, 1, api.ToThread, 0),
			gives(low, 2, api.ToThread, 3),
			gives(high, 1, api.ToThread, 3),
			gives(high, 4, api.ToThread, 7),
			gives(low, 3, api.ToThread, 1),
			turnedOff(gives(high, 6, api.ToThread, 0)),
			gives(high, 8, api.ToNone, 0),
			gives(low, 6, api.ToCoin, high),
		}
		for choice := range 1 << len(tickets) {
			s := cast(3)
			for i, ticket := range tickets {
				if choice>>i&1 == 0 {
					ticket = api.Ticket{}
				}
				s.Tickets = append(s.Tickets, ticket)
			}
			check(t, state.Trim(s))
		}
	}
}

// amount is an amount: a small one, or one that is near the greatest.
func amount(r *rand.Rand) int {
	return []int{1, 2, 3, 1 + r.Intn(20), 1 + r.Intn(api.MaxAmount), api.MaxAmount}[r.Intn(6)]
}

// random is a state whose coins, some of which are not used, fund others along a mixed order.
func random(r *rand.Rand) api.State {
	s := cast(2 + r.Intn(api.MaxCoins-1))
	order := append([]int{0}, r.Perm(len(s.Coins)-1)...)
	for k := range order[1:] {
		order[k+1]++
	}
	unused := order[1+r.Intn(len(order)-1)]
	s.Coins[unused] = unused == len(s.Coins)-1
	for range r.Intn(50) {
		k := r.Intn(len(order))
		t := gives(order[k], amount(r), api.ToThread, []int{0, 1, 3, 4, 5, 6, 7}[r.Intn(7)])
		if to := k + 1 + r.Intn(3); r.Intn(2) == 0 && to < len(order) {
			t.Kind, t.To = api.ToCoin, order[to]
		}
		t.On = r.Intn(8) > 0
		if !s.Coins[t.Coin] || t.Kind == api.ToCoin && !s.Coins[t.To] {
			t = api.Ticket{}
		}
		s.Tickets = append(s.Tickets, t)
	}
	return state.Trim(s)
}

// P18.1, P18.2: many states of any sort, in which many tickets are worth something that is no whole number.
func TestRandom(t *testing.T) {
	r, broken := rand.New(rand.NewSource(18)), 0
	for range 400 {
		s := random(r)
		check(t, s)
		for k, a := range Tickets(s) {
			if !ratio.Same(Ticket(s, k), a) {
				t.Fatalf("Ticket(%d) = %s, want %s", k, ratio.Text(Ticket(s, k)), ratio.Text(a))
			}
			if ratio.Cmp(a, ratio.Zero()) > 0 && ratio.Text(a) != ratio.Text(api.Ratio{Num: ratio.Floor(a), Den: api.Nat{1}}) {
				broken++
			}
		}
	}
	if broken < 600 {
		t.Errorf("only %d tickets are worth no whole number", broken)
	}
}

// Every call ends, and none panics, at states that may not be too, of which nothing else is promised.
func TestStatesThatMayNotBe(t *testing.T) {
	coins, lives := []bool{true, true, true}, []api.Thread{alone(api.Ready)}
	for _, tickets := range [][]api.Ticket{
		{gives(1, 1, api.ToCoin, 2), gives(2, 1, api.ToCoin, 1), gives(1, 1, api.ToThread, 0)},
		{gives(0, 1, api.ToCoin, 0), gives(1, 1, api.ToCoin, 1), gives(1, 1, api.ToThread, 0)},
		{gives(0, 1, api.ToCoin, 1), gives(1, 2, api.ToThread, 0), gives(1, -2, api.ToThread, 0)},
		{gives(0, 1, api.ToCoin, 1), gives(1, math.MaxInt, api.ToThread, 0), gives(1, math.MinInt, api.ToThread, 0)},
		{gives(1, 1, api.ToCoin, 0), gives(0, 0, api.ToThread, 0), gives(0, -5, api.ToThread, 0)},
		{gives(-1, 1, api.ToThread, 0), gives(3, 1, api.ToThread, 0), gives(math.MaxInt, 1, api.ToCoin, 1)},
		{gives(0, 1, api.ToThread, -1), gives(0, 1, api.ToThread, 1), gives(1, 1, api.ToCoin, -1), gives(1, 1, 7, 0)},
	} {
		for _, s := range []api.State{{Tickets: tickets}, {Coins: coins, Tickets: tickets}, {Coins: coins, Threads: lives, Tickets: tickets},
			{Coins: slices.Repeat([]bool{true}, 5000), Threads: lives, Tickets: tickets}, {Coins: []bool{false, true}, Threads: lives, Tickets: tickets}} {
			kept := told(s)
			if len(Coins(s)) != len(s.Coins) || len(Tickets(s)) != len(s.Tickets) || len(Threads(s)) != len(s.Threads) {
				t.Errorf("lists of another length, of %s", kept)
			}
			for _, k := range []int{-1, 0, 1, 2, 3, math.MinInt, math.MaxInt} {
				Ticket(s, k)
			}
			if told(s) != kept {
				t.Fatalf("%s was made of %s", told(s), kept)
			}
		}
	}
	Sum([]api.Ratio{{}, {Num: api.Nat{1}}, {Den: api.Nat{2}}, {Num: api.Nat{0, 0}, Den: api.Nat{0}}})
}

// spoil writes into the digits of a fraction, and what lies behind their ends.
func spoil(a api.Ratio) {
	for _, digits := range []api.Nat{a.Num[:cap(a.Num)], a.Den[:cap(a.Den)]} {
		for i := range digits {
			digits[i] = 777
		}
	}
}

// apart fails, if two fractions of a list share memory.
func apart(t *testing.T, what string, l []api.Ratio) {
	t.Helper()
	want := texts(l)
	for i, a := range l {
		spoil(a)
		if got := texts(l[i+1:]); !slices.Equal(got, want[i+1:]) {
			t.Errorf("%s: what stands at the place %d is shared", what, i)
		}
	}
}

// What is answered is new memory, none of which is shared by two, and nothing is kept (R5).
func TestAnswersAreNew(t *testing.T) {
	s := rich()
	half, _ := ratio.Of(1, 2)
	l := []api.Ratio{half}
	apart(t, "Coins", Coins(s))
	apart(t, "Tickets", Tickets(s))
	apart(t, "Threads", Threads(s))
	spoil(Ticket(s, 3))
	spoil(Ticket(s, 2))
	spoil(Sum(l))
	spoil(Sum(nil))
	tells(t, "the list that was handed in", l, "1/2")
	check(t, s)
	if told(s) != told(rich()) {
		t.Error("an answer is shared with the state")
	}
	sum := Sum(l)
	spoil(l[0])
	tells(t, "Sum", []api.Ratio{sum}, "1/2")
}
