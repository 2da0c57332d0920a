package factor

import (
	"fmt"
	"math"
	"math/big"
	"math/rand"
	"slices"
	"testing"

	"tombola/api"
	"tombola/carry"
	"tombola/ratio"
	"tombola/state"
)

// by is a thread that waits for nobody, with a factor.
func by(state, q, u int) api.Thread {
	return api.Thread{State: state, For: api.None, Client: api.None, Q: q, U: u}
}

// waiting is a thread with a factor that waits: by a call for a thread, or by a lock.
func waiting(state, what, q, u int) api.Thread {
	t := by(state, q, u)
	t.For = what
	return t
}

// funds is a ticket that funds a thread.
func funds(coin, amount, thread int) api.Ticket {
	return api.Ticket{Used: true, Coin: coin, Amount: amount, Kind: api.ToThread, To: thread, On: true}
}

// rich is a state of the quantum 10, with a thread in each state, with factors of all sorts; one is not used, one that
// is ready is worth nothing, and two that are ready carry what others have, whose factors are others than theirs.
func rich() api.State {
	s := api.State{
		Coins: []bool{true, false, true},
		Threads: []api.Thread{
			by(api.Ready, 10, 3),
			{},
			by(api.Ready, 1, 1),
			by(api.Running, 10, 9),
			waiting(api.Calling, 0, 7, 2),
			waiting(api.Waiting, 0, 10, 1),
			by(api.Asleep, 5, 4),
			waiting(api.Calling, 6, 1, 1),
			by(api.Listening, 10, 5),
			by(api.Ready, 9, 6),
			by(api.Ready, 10, 4),
			waiting(api.Waiting, 2, 3, 1),
		},
		Tickets: []api.Ticket{
			{Used: true, Amount: 10, Kind: api.ToCoin, To: 2, On: true},
			funds(2, 1, 0), funds(2, 2, 4), funds(2, 3, 2), funds(0, 4, 2), funds(0, 8, 3), funds(0, 5, 5), {},
			funds(0, 16, 6), funds(0, 32, 7), funds(0, 6, 10), funds(0, 9, 11), funds(0, 64, 8),
			{Used: true, Amount: 128, Kind: api.ToThread, To: 9},
		},
		Locks:   []api.Lock{{Used: true, Holder: 0}, {}, {Used: true, Holder: 10}},
		Queue:   []int{11, 7, 5},
		Quantum: 10,
	}
	s.Threads[0].Client = 4
	return s
}

// pair is a state of a quantum, with two threads that are ready, of the worth 3 and 5.
func pair(quantum int) api.State {
	return api.State{
		Coins:   []bool{true},
		Threads: []api.Thread{by(api.Ready, 1, 1), by(api.Ready, 1, 1)},
		Tickets: []api.Ticket{funds(0, 3, 0), funds(0, 5, 1)},
		Quantum: quantum,
	}
}

// told is a state as text, in which all that may differ is to be seen.
func told(s api.State) string {
	return fmt.Sprintf("coins %v, tickets %v, threads %v, locks %v, queue %v, quantum %d",
		s.Coins, s.Tickets, s.Threads, s.Locks, s.Queue, s.Quantum)
}

// edges are numbers that are places, or what is used, and such as are not.
func edges(n int) []int {
	return []int{math.MinInt, -n, -2, -1, 0, 1, 2, n / 2, n - 1, n, n + 1, 2 * n, 31, 32, 1000, 1001, math.MaxInt}
}

// same fails, if a fraction is not right, or another one than the one that is wanted.
func same(t *testing.T, what string, got api.Ratio, want string) {
	t.Helper()
	if !ratio.Right(got) || ratio.Text(got) != want {
		t.Fatalf("%s = %v, want %s", what, got, want)
	}
}

// weigh fails, if a state's weights are not right, or others than those that are wanted.
func weigh(t *testing.T, s api.State, want ...string) {
	t.Helper()
	got := Weights(s)
	if len(got) != len(want) {
		t.Fatalf("Weights has %d elements, want %d, of %s", len(got), len(want), told(s))
	}
	for i := range want {
		same(t, fmt.Sprintf("the weight of %d, of %s,", i, told(s)), got[i], want[i])
	}
}

// What follows is the document's chapter in the tests' own words, in fractions of the library of Go.

// wantUsed is the factor of one that used so much, and the number of the error.
func wantUsed(quantum, u int) (int, int, int) {
	switch {
	case u == quantum && u >= 1:
		return 1, 1, 0
	case 1 <= u && u < quantum:
		return quantum, u, 0
	}
	return 0, 0, 6
}

// isUsed tells whether there is such a thread.
func isUsed(s api.State, i int) bool {
	return 0 <= i && i < len(s.Threads) && s.Threads[i].State != 0
}

// with is a state in which a thread has another factor, and all else is as it was.
func with(s api.State, i, q, u int) api.State {
	s.Threads = slices.Clone(s.Threads)
	s.Threads[i].Q, s.Threads[i].U = q, u
	return s
}

// wantGive is a state's text with the factor of one that used so much, and the number of the error.
func wantGive(s api.State, i, u int) (string, int) {
	if !isUsed(s, i) {
		return told(api.State{}), 7
	}
	q, u, err := wantUsed(s.Quantum, u)
	if err != 0 {
		return told(api.State{}), err
	}
	return told(with(s, i, q, u)), 0
}

// wantWin is a state's text in which a thread's factor is 1.
func wantWin(s api.State, i int) string {
	if !isUsed(s, i) {
		return told(s)
	}
	return told(with(s, i, 1, 1))
}

// wantWeights is what all weigh.
func wantWeights(s api.State) (out []string) {
	for i, a := range carry.All(s) {
		weight := new(big.Rat)
		if t := s.Threads[i]; t.State == 2 {
			weight.SetString(ratio.Text(a))
			weight.Mul(weight, big.NewRat(int64(t.Q), int64(t.U)))
		}
		out = append(out, weight.RatString())
	}
	return out
}

// checkGive holds Give and Win of a thread against the chapter: what they answer may be, too.
func checkGive(t *testing.T, s api.State, i int) {
	t.Helper()
	for _, u := range edges(s.Quantum) {
		got, err := Give(s, i, u)
		want, wantErr := wantGive(s, i, u)
		if told(got) != want || int(err) != wantErr || err == api.OK && !state.Fine(got) {
			t.Fatalf("Give(%d, %d) = %s, %v, want %s, %d, of %s", i, u, told(got), err, want, wantErr, told(s))
		}
	}
	if got := Win(s, i); told(got) != wantWin(s, i) || !state.Fine(got) {
		t.Fatalf("Win(%d) = %s, want %s", i, told(got), wantWin(s, i))
	}
}

// check holds all of a state that may be against the chapter.
func check(t *testing.T, s api.State) {
	t.Helper()
	before := told(s)
	if !state.Fine(s) {
		t.Fatalf("the test's state may not be: %s", before)
	}
	weigh(t, s, wantWeights(s)...)
	for _, i := range edges(len(s.Threads)) {
		checkGive(t, s, i)
	}
	for i := range s.Threads {
		checkGive(t, s, i)
	}
	if told(s) != before {
		t.Fatalf("%s was made of %s", told(s), before)
	}
}

// P20.1, P20.2: the document's example, and the base alone.
func TestExamples(t *testing.T) {
	q, u, err := Used(10, 3)
	if q != 10 || u != 3 || err != api.OK {
		t.Errorf("Used(10, 3) = %d, %d, %v", q, u, err)
	}
	same(t, "Of 10 by 3", Of(by(api.Ready, q, u)), "10/3")
	base, _ := state.New(10)
	check(t, base)
	weigh(t, base)
}

// P20.1: a factor is Q by U, in lowest terms, whatever else the thread is; 0, if one of them is below 1.
func TestOf(t *testing.T) {
	for _, c := range []struct {
		q, u int
		want string
	}{
		{1, 1, "1"}, {10, 3, "10/3"}, {10, 5, "2"}, {10, 4, "5/2"}, {1000, 999, "1000/999"}, {1000, 1, "1000"}, {1000, 750, "4/3"},
		{7, 7, "1"}, {2, 6, "1/3"}, {3, 10, "3/10"}, {math.MaxInt, 1, "9223372036854775807"}, {1, math.MaxInt, "1/9223372036854775807"},
		{math.MaxInt, math.MaxInt, "1"}, {0, 0, "0"}, {0, 1, "0"}, {1, 0, "0"}, {0, 7, "0"}, {7, 0, "0"}, {-1, 1, "0"}, {1, -1, "0"}, {-3, 5, "0"},
		{5, -3, "0"}, {-2, -2, "0"}, {-10, -3, "0"}, {math.MinInt, 1, "0"}, {1, math.MinInt, "0"}, {math.MinInt, math.MinInt, "0"},
	} {
		for _, thread := range []api.Thread{by(api.Ready, c.q, c.u), by(api.Asleep, c.q, c.u), waiting(api.Calling, 3, c.q, c.u), {Q: c.q, U: c.u}, by(-5, c.q, c.u)} {
			same(t, fmt.Sprintf("Of(%v)", thread), Of(thread), c.want)
		}
	}
}

// P20.1: each factor that there may be.
func TestOfAll(t *testing.T) {
	for q := 1; q <= api.MaxQuantum; q += 1 + q/50 {
		for u := 1; u <= q; u++ {
			same(t, fmt.Sprintf("Of %d by %d", q, u), Of(by(api.Ready, q, u)), big.NewRat(int64(q), int64(u)).RatString())
		}
	}
}

// P20.1: what is used up gives 1 and 1, what is not the quantum and u; what is not from 1 to the quantum is ErrRange.
func TestUsed(t *testing.T) {
	quanta := []int{math.MinInt, math.MinInt + 1, -1000, -1, 0, 1, 2, 3, 10, 12, 999, 1000, 1001, math.MaxInt - 1, math.MaxInt}
	for _, quantum := range quanta {
		for _, u := range append(edges(quantum), quanta...) {
			q, v, err := Used(quantum, u)
			if wantQ, wantU, wantErr := wantUsed(quantum, u); q != wantQ || v != wantU || int(err) != wantErr {
				t.Errorf("Used(%d, %d) = %d, %d, %v, want %d, %d, error %d", quantum, u, q, v, err, wantQ, wantU, wantErr)
			}
		}
	}
	for _, c := range [][5]int{{10, 10, 1, 1, 0}, {10, 5, 10, 5, 0}, {10, 1, 10, 1, 0}, {10, 9, 10, 9, 0}, {1, 1, 1, 1, 0}, {1000, 1000, 1, 1, 0},
		{10, 0, 0, 0, 6}, {10, 11, 0, 0, 6}, {10, -3, 0, 0, 6}, {1, 0, 0, 0, 6}, {1, 2, 0, 0, 6}, {0, 0, 0, 0, 6}, {-2, -2, 0, 0, 6}, {-2, 1, 0, 0, 6}} {
		if q, u, err := Used(c[0], c[1]); q != c[2] || u != c[3] || int(err) != c[4] {
			t.Errorf("Used(%d, %d) = %d, %d, %v", c[0], c[1], q, u, err)
		}
	}
}

// P20.1, P20.2: all that is told of a state that is written down.
func TestRich(t *testing.T) {
	s := rich()
	check(t, s)
	weigh(t, s, "100/3", "0", "9", "0", "0", "0", "0", "0", "0", "0", "75/2", "0")
}

// P20.2: whom there is not is ErrNone, ahead of ErrRange; with an error there is no state.
func TestGiveErrors(t *testing.T) {
	s := rich()
	for _, c := range []struct {
		i, u int
		want api.Errno
	}{
		{1, 5, api.ErrNone}, {12, 5, api.ErrNone}, {31, 10, api.ErrNone}, {32, 1, api.ErrNone}, {-1, 1, api.ErrNone}, {math.MinInt, 1, api.ErrNone},
		{math.MaxInt, 1, api.ErrNone}, {1, 0, api.ErrNone}, {-1, 11, api.ErrNone}, {12, -1, api.ErrNone}, {0, 0, api.ErrRange}, {0, 11, api.ErrRange},
		{0, -1, api.ErrRange}, {11, math.MaxInt, api.ErrRange}, {11, math.MinInt, api.ErrRange}, {2, 1000, api.ErrRange},
	} {
		got, err := Give(s, c.i, c.u)
		if err != c.want || told(got) != told(api.State{}) {
			t.Errorf("Give(%d, %d) = %s, %v, want %v", c.i, c.u, told(got), err, c.want)
		}
	}
}

// P20.2: a factor is given to any thread, whatever it does, and nothing else is changed; who wins has the factor 1.
func TestGiveAndWin(t *testing.T) {
	s := rich()
	for _, i := range []int{0, 2, 3, 4, 5, 6, 7, 8, 9, 10, 11} {
		given, err := Give(s, i, 7)
		if thread := given.Threads[i]; err != api.OK || thread.Q != 10 || thread.U != 7 {
			t.Fatalf("Give(%d, 7) = %v, %v", i, thread, err)
		}
		given.Threads[i].Q, given.Threads[i].U = s.Threads[i].Q, s.Threads[i].U
		if !state.Same(given, s) {
			t.Errorf("Give(%d, 7) changed more than the factor", i)
		}
		won := Win(s, i)
		if thread := won.Threads[i]; thread.Q != 1 || thread.U != 1 {
			t.Fatalf("Win(%d) = %v", i, thread)
		}
		if whole, err := Give(s, i, 10); err != api.OK || !state.Same(whole, won) {
			t.Errorf("Give(%d, 10) = %s, %v, Win is %s", i, told(whole), err, told(won))
		}
		won.Threads[i].Q, won.Threads[i].U = s.Threads[i].Q, s.Threads[i].U
		if !state.Same(won, s) {
			t.Errorf("Win(%d) changed more than the factor", i)
		}
	}
	for _, i := range []int{1, 12, 31, 32, -1, math.MinInt, math.MaxInt} {
		if !state.Same(Win(s, i), s) {
			t.Errorf("Win(%d) changed something", i)
		}
	}
}

// P20.2: where the quantum is 1, all that can be used is all of it; where it is the greatest one, all that is less.
func TestQuanta(t *testing.T) {
	for _, quantum := range []int{1, 2, 3, 999, 1000} {
		s := pair(quantum)
		for u := 1; u <= quantum; u++ {
			given, err := Give(s, 1, u)
			if err != api.OK || !state.Fine(given) {
				t.Fatalf("Give(1, %d) = %s, %v, of the quantum %d", u, told(given), err, quantum)
			}
			weigh(t, given, "3", big.NewRat(5*int64(quantum), int64(u)).RatString())
			if won := Win(given, 1); !state.Same(won, s) {
				t.Fatalf("Win(1) = %s after Give(1, %d)", told(won), u)
			}
		}
		check(t, s)
	}
}

// P20.3: who uses half of its quantum weighs twice as much, whatever that is.
func TestHalf(t *testing.T) {
	for quantum := 2; quantum <= api.MaxQuantum; quantum += 2 {
		s := pair(quantum)
		given, err := Give(s, 0, quantum/2)
		if err != api.OK {
			t.Fatalf("Give(0, %d) = %v, of the quantum %d", quantum/2, err, quantum)
		}
		same(t, "the factor", Of(given.Threads[0]), "2")
		weigh(t, given, "6", "5")
	}
}

// P20.2: who is ready alone weighs something, and it weighs all that it carries, by its own factor, not by others'.
func TestWhoWeighs(t *testing.T) {
	s := pair(10)
	s.Threads[0] = by(api.Ready, 10, 4)
	weigh(t, s, "15/2", "5")
	for _, other := range []int{api.Asleep, api.Running, api.Listening} {
		s.Threads[0].State = other
		check(t, s)
		weigh(t, s, "0", "5")
	}
	s.Threads[0], s.Queue = waiting(api.Calling, 1, 10, 4), []int{0}
	check(t, s)
	weigh(t, s, "0", "8")
	s.Threads[1].Q, s.Threads[1].U = 10, 3
	weigh(t, s, "0", "80/3")
	s.Threads[0], s.Locks = waiting(api.Waiting, 0, 10, 4), []api.Lock{{Used: true, Holder: 1}}
	check(t, s)
	weigh(t, s, "0", "80/3")
	s.Threads[1].State = api.Running
	check(t, s)
	weigh(t, s, "0", "0")
	s.Threads[0], s.Queue, s.Threads[1] = by(api.Ready, 10, 4), nil, api.Thread{}
	s.Tickets, s.Locks = s.Tickets[:1], nil
	weigh(t, state.Trim(s), "15/2")
}

// P20.2: as many threads, and as great amounts and factors, as there may be.
func TestGreatest(t *testing.T) {
	s := api.State{Coins: []bool{true, true}, Quantum: api.MaxQuantum}
	for i := range api.MaxThreads {
		s.Threads = append(s.Threads, by(api.Ready, 1000, 1+i))
		s.Tickets = append(s.Tickets, funds(0, api.MaxAmount, i), funds(1, api.MaxAmount-i, i))
	}
	for range api.MaxTickets - len(s.Tickets) {
		s.Tickets = append(s.Tickets, api.Ticket{Used: true, Amount: api.MaxAmount, Kind: api.ToCoin, To: 1, On: true})
	}
	check(t, s)
}

// fill lets those be in a state's queue who belong there.
func fill(s api.State) api.State {
	s.Queue = nil
	for i, t := range s.Threads {
		if t.State == api.Waiting || t.State == api.Calling && s.Threads[t.For].Client != i {
			s.Queue = append(s.Queue, i)
		}
	}
	return s
}

// P20.2: three threads, that serve nobody, and a lock, in all ways that may be, with one factor for each way to be.
func TestAllSmall(t *testing.T) {
	kinds := []api.Thread{
		{}, by(api.Asleep, 4, 3), by(api.Ready, 1, 1), by(api.Ready, 10, 3), by(api.Running, 6, 5), by(api.Listening, 10, 9),
		waiting(api.Calling, 0, 10, 7), waiting(api.Calling, 1, 1, 1), waiting(api.Calling, 2, 9, 8), waiting(api.Waiting, 0, 2, 1),
	}
	n, seen := len(kinds), 0
	for k := range n * n * n * 4 {
		s := api.State{Coins: []bool{true}, Locks: []api.Lock{{Used: true, Holder: k%4 - 1}}, Quantum: 10}
		s.Threads = []api.Thread{kinds[k/4%n], kinds[k/4/n%n], kinds[k/4/n/n]}
		for i, thread := range s.Threads {
			if thread.State != api.Free {
				s.Tickets = append(s.Tickets, funds(0, 1<<i, i))
			}
		}
		if s = state.Trim(fill(s)); state.Fine(s) {
			check(t, s)
			seen++
		}
	}
	if seen < 500 {
		t.Errorf("just %d states may be", seen)
	}
}

// chance is a thread that waits for nobody, with any factor that there may be.
func chance(r *rand.Rand, state, quantum int) api.Thread {
	if q := 1 + r.Intn(quantum); q > 1 && r.Intn(4) > 0 {
		return by(state, q, 1+r.Intn(q-1))
	}
	return by(state, 1, 1)
}

// random is a state of any many threads, each of which waits for nobody, or for one ahead of it; the base and a coin
// fund them.
func random(r *rand.Rand) api.State {
	s := api.State{Coins: []bool{true, true}, Quantum: 1 + r.Intn(api.MaxQuantum)}
	s.Tickets = []api.Ticket{{Used: true, Amount: 1 + r.Intn(1000), Kind: api.ToCoin, To: 1, On: true}}
	for i := range 1 + r.Intn(api.MaxThreads) {
		state := []int{api.Ready, api.Ready, api.Ready, api.Asleep, api.Waiting, api.Calling}[r.Intn(6)]
		thread := chance(r, state, s.Quantum)
		switch {
		case state == api.Calling && i > 0:
			thread.For = r.Intn(i)
		case state == api.Waiting && i > 0 && len(s.Locks) < api.MaxLocks:
			thread.For = len(s.Locks)
			s.Locks = append(s.Locks, api.Lock{Used: true, Holder: r.Intn(i)})
		default:
			thread.State = api.Ready
		}
		s.Threads = append(s.Threads, thread)
	}
	for range r.Intn(api.MaxTickets) {
		s.Tickets = append(s.Tickets, funds(r.Intn(2), 1+r.Intn(30), r.Intn(len(s.Threads))))
	}
	return fill(s)
}

// P20.2: many states of any sort, in which many weigh what is no whole number, and more than they carry.
func TestRandom(t *testing.T) {
	r, more := rand.New(rand.NewSource(20)), 0
	for range 100 {
		s := random(r)
		check(t, s)
		carried := carry.All(s)
		for i, a := range Weights(s) {
			if ratio.Cmp(a, carried[i]) > 0 && a.Den[0] > 1 {
				more++
			}
		}
	}
	if more < 200 {
		t.Errorf("only %d threads weigh what is broken, and more than they carry", more)
	}
}

// Every call ends, and none panics, at states that may not be too, of which nothing else is promised.
func TestStatesThatMayNotBe(t *testing.T) {
	ring := api.State{Coins: []bool{true}, Threads: []api.Thread{waiting(api.Calling, 1, 3, 1), waiting(api.Calling, 0, 0, -1), by(api.Ready, -4, 0)}}
	ring.Tickets = []api.Ticket{funds(0, 1, 0), funds(0, 1, 2), funds(7, -1, 1)}
	lost := api.State{
		Threads: []api.Thread{waiting(api.Calling, -1, 1, 1), waiting(api.Waiting, math.MaxInt, 1, 1), {Q: 3}, by(9, 1, 1), by(api.Ready, math.MaxInt, 1)},
		Quantum: math.MinInt,
	}
	many := api.State{Coins: []bool{true}, Threads: slices.Repeat([]api.Thread{by(api.Ready, 5, 2), {}}, 100), Quantum: math.MaxInt}
	for _, s := range []api.State{{}, ring, lost, many, {Threads: make([]api.Thread, 100)}, {Quantum: 5}} {
		before := told(s)
		if len(Weights(s)) != len(s.Threads) {
			t.Errorf("Weights has another length, of %s", before)
		}
		for _, i := range edges(len(s.Threads)) {
			Win(s, i)
			for _, u := range edges(5) {
				Give(s, i, u)
			}
		}
		if told(s) != before {
			t.Fatalf("%s was made of %s", told(s), before)
		}
	}
}

// spoil writes into the digits of a fraction, and what lies behind their ends.
func spoil(a api.Ratio) {
	for _, digits := range []api.Nat{a.Num, a.Den} {
		for i := range digits[:cap(digits)] {
			digits[:cap(digits)][i] = 333
		}
	}
}

// spoilAll writes into all lists of a state.
func spoilAll(s api.State) {
	for i := range s.Coins {
		s.Coins[i] = !s.Coins[i]
	}
	clear(s.Tickets)
	clear(s.Threads)
	clear(s.Locks)
	clear(s.Queue)
}

// What is answered is new memory, none of which is shared by two, and nothing is kept (R5).
func TestAnswersAreNew(t *testing.T) {
	s := rich()
	want, weights := Weights(s), Weights(s)
	for i, a := range weights {
		spoil(a)
		for j := i + 1; j < len(weights); j++ {
			if !ratio.Same(weights[j], want[j]) {
				t.Fatalf("what the threads %d and %d weigh is shared", i, j)
			}
		}
	}
	spoil(Of(s.Threads[0]))
	spoil(Of(api.Thread{}))
	given, _ := Give(s, 0, 5)
	spoilAll(given)
	spoilAll(Win(s, 0))
	spoilAll(Win(s, 1))
	spoilAll(Win(s, -1))
	if told(s) != told(rich()) {
		t.Fatal("an answer is shared with the state")
	}
	check(t, s)
	given, _ = Give(s, 0, 5)
	won, none := Win(s, 0), Win(s, 1)
	kept := told(given) + told(won) + told(none)
	spoilAll(s)
	if told(given)+told(won)+told(none) != kept {
		t.Error("an answer hangs on the state that was handed over")
	}
}
