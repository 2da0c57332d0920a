package dag

import (
	"math"
	"math/rand"
	"slices"
	"testing"
)

// most is how many numbers there may be.
const most = 4096

// many is so many numbers as there are, of n that are asked for.
func many(n int) int {
	return min(max(n, 0), most)
}

// head is the first ones of a list, for a failing test to print.
func head[T any](l []T) []T {
	return l[:min(len(l), 24)]
}

// has tells whether there is such a number, of n that are asked for.
func has(n, i int) bool {
	return i >= 0 && i < many(n)
}

// parts are the arrows that have a part.
func parts(n int, l []Arrow) []Arrow {
	var out []Arrow
	for _, arrow := range l {
		if has(n, arrow.From) && has(n, arrow.To) {
			out = append(out, arrow)
		}
	}
	return out
}

// ways tells of any two numbers whether the first one comes to the other one: by way of none, then of ever more.
func ways(n int, l []Arrow) [][]bool {
	out := make([][]bool, many(n))
	for i := range out {
		out[i] = make([]bool, many(n))
	}
	for _, arrow := range parts(n, l) {
		out[arrow.From][arrow.To] = true
	}
	for by := range out {
		for a := range out {
			for b := range out {
				out[a][b] = out[a][b] || out[a][by] && out[by][b]
			}
		}
	}
	return out
}

// ringed tells whether one comes to itself.
func ringed(comes [][]bool) bool {
	for i := range comes {
		if comes[i][i] {
			return true
		}
	}
	return false
}

// trues are the places of a list that are true.
func trues(l []bool) []int {
	var out []int
	for i, is := range l {
		if is {
			out = append(out, i)
		}
	}
	return out
}

// next is the least number that was not told, to which no arrow leads from one that was not told; -1, if there is none.
func next(told []bool, l []Arrow) int {
	for i, is := range told {
		leads := func(arrow Arrow) bool { return arrow.To == i && !told[arrow.From] }
		if !is && !slices.ContainsFunc(l, leads) {
			return i
		}
	}
	return -1
}

// ordered is the order, told word by word as the document has it.
func ordered(n int, l []Arrow) ([]int, bool) {
	told, l := make([]bool, many(n)), parts(n, l)
	var out []int
	for range told {
		i := next(told, l)
		if i < 0 {
			return nil, false
		}
		told[i] = true
		out = append(out, i)
	}
	return out, true
}

// deep is how many arrows lead to a number at most, where there is no ring.
func deep(l []Arrow, i int) int {
	out := 0
	for _, arrow := range l {
		if arrow.To == i {
			out = max(out, deep(l, arrow.From)+1)
		}
	}
	return out
}

// depths is the depth of each number.
func depths(n int, l []Arrow) []int {
	out := make([]int, many(n))
	for i := range out {
		out[i] = deep(parts(n, l), i)
	}
	return out
}

// checkReach holds Reach and Comes against all ways that there are, from numbers, too, that are none.
func checkReach(t *testing.T, n int, l []Arrow, comes [][]bool) {
	t.Helper()
	asked := []int{-1, -2, math.MinInt, many(n), many(n) + 1, math.MaxInt}
	for i := range comes {
		asked = append(asked, i)
	}
	for _, a := range asked {
		var want []int
		if has(n, a) {
			want = trues(comes[a])
		}
		if got := Reach(n, l, a); !slices.Equal(got, want) {
			t.Fatalf("Reach(%d, %v, %d) = %v, want %v", n, l, a, got, want)
		}
		for _, b := range asked {
			want := has(n, a) && has(n, b) && comes[a][b]
			if got := Comes(n, l, a, b); got != want {
				t.Fatalf("Comes(%d, %v, %d, %d) = %v", n, l, a, b, got)
			}
		}
	}
}

// checkRing asks for an order, and for depths, where there is a ring.
func checkRing(t *testing.T, n int, l []Arrow) {
	t.Helper()
	if !Ring(n, l) {
		t.Fatalf("Ring(%d, %v) = false", n, head(l))
	}
	if got, ok := Order(n, l); ok || len(got) > 0 {
		t.Fatalf("Order(%d, %v) = %v, %v: there is a ring", n, head(l), head(got), ok)
	}
	if got, ok := Depth(n, l); ok || len(got) > 0 {
		t.Fatalf("Depth(%d, %v) = %v, %v: there is a ring", n, head(l), head(got), ok)
	}
}

// checkOrder holds an order, and depths, against those that are wanted, where there is no ring.
func checkOrder(t *testing.T, n int, l []Arrow, order, depth []int) {
	t.Helper()
	if Ring(n, l) {
		t.Fatalf("Ring(%d, %v) = true", n, head(l))
	}
	if got, ok := Order(n, l); !ok || !slices.Equal(got, order) {
		t.Fatalf("Order(%d, %v) = %v, %v, want %v", n, head(l), head(got), ok, head(order))
	}
	if got, ok := Depth(n, l); !ok || !slices.Equal(got, depth) {
		t.Fatalf("Depth(%d, %v) = %v, %v, want %v", n, head(l), head(got), ok, head(depth))
	}
}

// checkAhead holds that each arrow leads, in the order, from one that stands ahead to one behind it.
func checkAhead(t *testing.T, n int, l []Arrow) {
	t.Helper()
	order, _ := Order(n, l)
	place := map[int]int{}
	for at, i := range order {
		place[i] = at
	}
	if len(order) != many(n) || len(place) != many(n) {
		t.Fatalf("Order(%d, %v) = %v: not each number once", n, head(l), head(order))
	}
	for _, arrow := range parts(n, l) {
		if place[arrow.From] >= place[arrow.To] {
			t.Fatalf("Order(%d, %v) = %v: against %v", n, head(l), head(order), arrow)
		}
	}
}

// check holds all that is told of arrows against what the document says, reckoned in other ways.
func check(t *testing.T, n int, l []Arrow) {
	t.Helper()
	comes := ways(n, l)
	checkReach(t, n, l, comes)
	order, ok := ordered(n, l)
	if ok == ringed(comes) {
		t.Fatalf("of %d with %v the test's own ring and order do not agree", n, l)
	}
	if !ok {
		checkRing(t, n, l)
		return
	}
	checkOrder(t, n, l, order, depths(n, l))
	checkAhead(t, n, l)
}

// between are all arrows between so many numbers, those from a number to itself, too, if they are asked for.
func between(n int, own bool) []Arrow {
	var out []Arrow
	for from := range n {
		for to := range n {
			if own || from != to {
				out = append(out, Arrow{from, to})
			}
		}
	}
	return out
}

// chosen are the arrows of a list whose bits are 1.
func chosen(l []Arrow, set int) []Arrow {
	var out []Arrow
	for i, arrow := range l {
		if set>>i&1 == 1 {
			out = append(out, arrow)
		}
	}
	return out
}

// chain are arrows along a list of numbers.
func chain(l ...int) []Arrow {
	var out []Arrow
	for i := 1; i < len(l); i++ {
		out = append(out, Arrow{l[i-1], l[i]})
	}
	return out
}

// upTo are the numbers from 0 to n - 1.
func upTo(n int) []int {
	out := make([]int, n)
	for i := range out {
		out[i] = i
	}
	return out
}

// downFrom are the numbers from n - 1 to 0.
func downFrom(n int) []int {
	out := upTo(n)
	slices.Reverse(out)
	return out
}

// P13.2: the document's example, and all else that is asked of it (P13.1).
func TestWrittenOut(t *testing.T) {
	l := []Arrow{{2, 0}}
	checkOrder(t, 3, l, []int{1, 2, 0}, []int{1, 0, 0})
	if got := Reach(3, l, 2); !slices.Equal(got, []int{0}) {
		t.Errorf("Reach = %v", got)
	}
	if !Comes(3, l, 2, 0) || Comes(3, l, 0, 2) || Comes(3, l, 2, 2) || Comes(3, l, 1, 0) {
		t.Error("Comes")
	}
	check(t, 3, l)
}

// P13.1: a itself is one to which it comes just if there is a ring by way of it, be it of one arrow alone.
func TestReachOfItself(t *testing.T) {
	l := []Arrow{{0, 1}, {1, 2}, {2, 1}, {2, 3}, {4, 4}, {5, 4}}
	want := [][]int{{1, 2, 3}, {1, 2, 3}, {1, 2, 3}, nil, {4}, {4}, nil}
	for a, want := range want {
		if got := Reach(7, l, a); !slices.Equal(got, want) {
			t.Errorf("Reach(%d) = %v, want %v", a, got, want)
		}
		for b := range 7 {
			if got := Comes(7, l, a, b); got != slices.Contains(want, b) {
				t.Errorf("Comes(%d, %d) = %v", a, b, got)
			}
		}
	}
	checkRing(t, 7, l)
}

// P13.1: what is told is rising, and each once, in whatever order, and however often, the arrows are told.
func TestReachIsRising(t *testing.T) {
	l := []Arrow{{3, 9}, {3, 1}, {9, 4}, {3, 9}, {1, 4}, {4, 0}, {4, 8}, {9, 4}, {3, 1}}
	want := []int{0, 1, 4, 8, 9}
	for range len(l) {
		l = append(l[1:], l[0])
		if got := Reach(10, l, 3); !slices.Equal(got, want) {
			t.Fatalf("Reach(%v) = %v, want %v", l, got, want)
		}
		check(t, 10, l)
	}
}

// P13.2: it is the least one that is told next, also when it lies below those that wait already.
func TestOrderIsTheLeast(t *testing.T) {
	for _, c := range []struct {
		n            int
		l            []Arrow
		order, depth []int
	}{
		{1, nil, []int{0}, []int{0}},
		{5, nil, []int{0, 1, 2, 3, 4}, []int{0, 0, 0, 0, 0}},
		{5, chain(4, 3, 2, 1, 0), []int{4, 3, 2, 1, 0}, []int{4, 3, 2, 1, 0}},
		{5, chain(0, 1, 2, 3, 4), []int{0, 1, 2, 3, 4}, []int{0, 1, 2, 3, 4}},
		{6, []Arrow{{1, 0}, {5, 2}, {1, 3}}, []int{1, 0, 3, 4, 5, 2}, []int{1, 0, 1, 1, 0, 0}},
		{6, []Arrow{{3, 5}, {3, 0}, {3, 1}, {4, 2}}, []int{3, 0, 1, 4, 2, 5}, []int{1, 1, 1, 0, 0, 1}},
		{7, []Arrow{{2, 6}, {6, 0}, {2, 5}, {5, 1}, {3, 4}}, []int{2, 3, 4, 5, 1, 6, 0}, []int{2, 2, 0, 0, 1, 1, 1}},
	} {
		checkOrder(t, c.n, c.l, c.order, c.depth)
		check(t, c.n, c.l)
	}
}

// P13.2: a depth is told by the longest way, not by the shortest one, nor by the one that was told first.
func TestDepthIsTheLongestWay(t *testing.T) {
	l := []Arrow{{0, 3}, {0, 1}, {1, 2}, {2, 3}, {3, 4}, {0, 4}, {5, 4}}
	for range len(l) {
		l = append(l[1:], l[0])
		checkOrder(t, 6, l, []int{0, 1, 2, 3, 5, 4}, []int{0, 1, 2, 3, 4, 0})
	}
}

// P13.1, P13.2: arrows that are told again are one.
func TestArrowsToldAgain(t *testing.T) {
	l := slices.Repeat([]Arrow{{2, 0}, {2, 1}, {1, 0}}, 3)
	checkOrder(t, 3, l, []int{2, 1, 0}, []int{2, 1, 0})
	check(t, 3, l)
	checkRing(t, 3, append(l, Arrow{0, 2}, Arrow{0, 2}))
}

// P13.1, P13.2: rings of each length, with others ahead of them, behind them, and beside them.
func TestRings(t *testing.T) {
	for n := 1; n <= 12; n++ {
		ring := append(chain(upTo(n)...), Arrow{n - 1, 0})
		check(t, n, ring)
		checkRing(t, n, ring)
		for i := range ring {
			open := slices.Delete(slices.Clone(ring), i, i+1)
			if Ring(n, open) {
				t.Errorf("of %d without %v: a ring", n, ring[i])
			}
			check(t, n, open)
		}
		tailed := append(slices.Clone(ring), Arrow{n, 0}, Arrow{0, n + 1}, Arrow{n + 2, n + 3})
		check(t, n+4, tailed)
		checkRing(t, n+4, tailed)
	}
}

// P13.1, P13.2, P13.3: all sets of arrows between few numbers.
func TestAllSets(t *testing.T) {
	for n := range 4 {
		all := between(n, true)
		for set := range 1 << len(all) {
			check(t, n, chosen(all, set))
		}
	}
	all := between(4, false)
	for set := range 1 << len(all) {
		check(t, 4, chosen(all, set))
	}
}

// P13.1, P13.2: arrows from numbers, and to numbers, that there are not, have no part: no way leads by them, no ring, no order.
func TestArrowsBeside(t *testing.T) {
	for _, n := range []int{1, 2, 3, 7} {
		for _, out := range []int{-1, -2, n, n + 1, 2 * n, 4096, 4097, math.MinInt, math.MaxInt} {
			l := []Arrow{{0, out}, {out, n - 1}, {n - 1, out}, {out, 0}, {out, out}}
			checkOrder(t, n, l, upTo(n), make([]int, n))
			check(t, n, l)
			check(t, n, append(l, chain(upTo(n)...)...))
			check(t, n, append(chain(downFrom(n)...), l...))
		}
	}
}

// P13.1, P13.2: n below 0 is as 0: there is nothing, and no ring.
func TestNoNumbers(t *testing.T) {
	for _, n := range []int{0, -1, -2, -4096, math.MinInt} {
		for _, l := range [][]Arrow{nil, {}, {{0, 0}}, {{0, 1}, {1, 0}}, {{-1, -1}}, {{n, n}}} {
			checkOrder(t, n, l, nil, nil)
			check(t, n, l)
		}
	}
}

// P13.1, P13.2: n above 4096 is as 4096.
func TestMoreNumbers(t *testing.T) {
	for _, n := range []int{4096, 4097, 5000, 1 << 30, math.MaxInt} {
		l := []Arrow{{4095, 0}, {0, 4096}, {4096, 1}, {4096, 4096}, {4097, 4095}}
		order := append(upTo(4096)[1:], 0)
		depth := make([]int, 4096)
		depth[0] = 1
		checkOrder(t, n, l, order, depth)
		checkAhead(t, n, l)
		if !slices.Equal(Reach(n, l, 4095), []int{0}) || len(Reach(n, l, 0)) > 0 || len(Reach(n, l, 4096)) > 0 {
			t.Errorf("Reach of %d", n)
		}
		if !Comes(n, l, 4095, 0) || Comes(n, l, 4095, 1) || Comes(n, l, 4096, 1) || Comes(n, l, 0, 4096) {
			t.Errorf("Comes of %d", n)
		}
		checkRing(t, n, append(l, Arrow{0, 4095}))
		checkRing(t, n, append(l, Arrow{4095, 4095}))
	}
}

// P13.1, P13.2, P13.3: all numbers in one chain, there and back, and closed to a ring.
func TestLongChains(t *testing.T) {
	up, down := upTo(most), downFrom(most)
	checkOrder(t, most, chain(up...), up, up)
	checkOrder(t, most, chain(down...), down, down)
	for _, l := range [][]int{up, down} {
		first, last := l[0], l[most-1]
		if len(Reach(most, chain(l...), first)) != most-1 || len(Reach(most, chain(l...), last)) != 0 {
			t.Errorf("Reach of a chain from %d", first)
		}
		if !Comes(most, chain(l...), first, last) || Comes(most, chain(l...), last, first) {
			t.Errorf("Comes of a chain from %d", first)
		}
		ring := append(chain(l...), Arrow{last, first})
		checkRing(t, most, ring)
		if !slices.Equal(Reach(most, ring, 1234), up) || !Comes(most, ring, last, last) {
			t.Errorf("Reach of a ring from %d", first)
		}
	}
}

// P13.1, P13.2, P13.3: one number leads to all others, or all others to it.
func TestStars(t *testing.T) {
	for _, middle := range []int{0, 1, 2048, most - 1} {
		var out, in []Arrow
		beside := slices.Delete(upTo(most), middle, middle+1)
		for _, i := range beside {
			out = append(out, Arrow{middle, i})
			in = append(in, Arrow{i, middle})
		}
		ones, one := slices.Repeat([]int{1}, most), make([]int, most)
		ones[middle], one[middle] = 0, 1
		checkOrder(t, most, out, append([]int{middle}, beside...), ones)
		checkOrder(t, most, in, append(slices.Clone(beside), middle), one)
		if !slices.Equal(Reach(most, out, middle), beside) || len(Reach(most, in, middle)) != 0 {
			t.Errorf("Reach of a star at %d", middle)
		}
		checkRing(t, most, append(out, in[17]))
	}
}

// P13.1, P13.2, P13.3: all arrows that there may be without a ring between many numbers, along a random order.
func TestManyArrows(t *testing.T) {
	source := rand.New(rand.NewSource(131))
	names := source.Perm(160)
	var l []Arrow
	depth := make([]int, len(names))
	for i, from := range names {
		depth[from] = i
		for _, to := range names[i+1:] {
			l = append(l, Arrow{from, to})
		}
	}
	source.Shuffle(len(l), func(i, j int) { l[i], l[j] = l[j], l[i] })
	checkOrder(t, len(names), l, names, depth)
	checkAhead(t, len(names), l)
	for i, name := range names {
		if len(Reach(len(names), l, name)) != len(names)-1-i || Comes(len(names), l, name, name) {
			t.Fatalf("Reach(%d)", name)
		}
		if i%16 == 15 {
			checkRing(t, len(names), append(l, Arrow{name, names[0]}))
		}
	}
}

// P13.1, P13.2, P13.3: many arrows that are random, with and without rings, and some beside.
func TestRandomArrows(t *testing.T) {
	source := rand.New(rand.NewSource(13))
	for range 3000 {
		n := source.Intn(12)
		names := source.Perm(n)
		own := source.Intn(2) == 0
		var l []Arrow
		for range source.Intn(2*n + 1) {
			from, to := source.Intn(n), source.Intn(n)
			if own || from < to {
				l = append(l, Arrow{names[from], names[to]})
			}
			if source.Intn(5) == 0 {
				l = append(l, Arrow{source.Intn(n+4) - 2, n + source.Intn(3)})
			}
		}
		check(t, n, l)
	}
}

// P13.1, P13.2: nothing is written into a list that was handed in, and each answer is new memory (R5).
func TestNothingIsShared(t *testing.T) {
	l := []Arrow{{3, 1}, {1, 0}, {3, 0}, {9, 0}}
	kept := slices.Clone(l)
	for range 2 {
		reach := Reach(4, l, 3)
		order, _ := Order(4, l)
		depth, _ := Depth(4, l)
		if !slices.Equal(reach, []int{0, 1}) || !slices.Equal(order, []int{2, 3, 1, 0}) || !slices.Equal(depth, []int{2, 1, 0, 0}) {
			t.Fatal(reach, order, depth)
		}
		for _, answer := range [][]int{reach, order, depth} {
			for i := range answer {
				answer[i] = -7
			}
		}
		check(t, 4, l)
		if !slices.Equal(l, kept) {
			t.Fatalf("the list is %v now", l)
		}
	}
}
