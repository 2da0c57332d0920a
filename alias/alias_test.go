package alias

import (
	"math"
	"math/big"
	"math/rand"
	"slices"
	"testing"

	"tombola/api"
)

const (
	top   = math.MaxUint64
	half  = 1 << 63
	third = top / 3
	fifth = top / 5
)

// fitting are lists of weights that have a table: the edges at which their count times their total just fits, too.
func fitting() [][]uint64 {
	return [][]uint64{
		{1}, {7}, {top}, {half}, {1, 3}, {3, 1}, {1, 1}, {0, 1}, {1, 0}, {0, 0, 5}, {5, 0, 0}, {0, 5, 0}, {2, 0, 3},
		{1, 2, 3, 4}, {4, 3, 2, 1}, {1, 1, 1, 1}, {3, 1, 4, 1, 5, 9, 2, 6}, {0, 0, 4, 0, 0, 1, 0}, {100, 1, 1, 1, 1},
		{half - 1, 0}, {0, half - 1}, {1, half - 2}, {half - 2, 1}, {1 << 62, 1<<62 - 1},
		{third, 0, 0}, {0, third, 0}, {1, third - 2, 1}, {third - 1, 0, 1}, {third / 3, third / 3, third - 2*(third/3)},
		{1<<62 - 1, 0, 0, 0}, {1 << 61, 1 << 60, 1<<60 - 1, 0}, {fifth, 0, 0, 0, 0}, {0, 1, 2, 3, fifth - 6},
		lone(4096, 0, 1<<52-1), lone(4096, 4095, 1<<52-1), lone(4095, 7, top/4095), ones(4096), ones(4095), ones(64), rising(4096), rising(100),
	}
}

// unfitting are lists of weights whose total, or whose count times that, is 2^64 or more: the edges at which it just is, too.
func unfitting() [][]uint64 {
	return [][]uint64{
		{half, 0}, {0, half}, {half - 1, 1}, {1 << 62, 1 << 62}, {third, 1, 0}, {third + 1, 0, 0}, {0, 0, top},
		{1 << 62, 0, 0, 0}, {1 << 61, 1 << 60, 1 << 60, 0}, {fifth, 0, 0, 0, 1}, {top, 1}, {1, top}, {half, half},
		{top, top}, {top - 1, 1}, {half, half, 5}, {half, half, half, half}, {top, top, 2}, {1 << 62, 1 << 62, 1 << 62, 1 << 62},
		lone(4096, 0, 1<<52), lone(4096, 4095, 1<<52), lone(4095, 7, top/4095+1), lone(4096, 9, top),
	}
}

// lone is a list of so many weights, of which one is not 0.
func lone(n, at int, weight uint64) []uint64 {
	out := make([]uint64, n)
	out[at] = weight
	return out
}

func ones(n int) []uint64 {
	return slices.Repeat([]uint64{1}, n)
}

// rising is the weights from 0 on.
func rising(n int) []uint64 {
	out := make([]uint64, n)
	for i := range out {
		out[i] = uint64(i)
	}
	return out
}

// random is a list of weights of many lengths in bits, and some that are 0.
func random(source *rand.Rand) []uint64 {
	out := make([]uint64, source.Intn(12))
	longest := source.Intn(64)
	for i := range out {
		if source.Intn(4) != 0 {
			out[i] = source.Uint64() >> (longest + source.Intn(64-longest))
		}
	}
	return out
}

// short are all lists of up to four weights from 0 to 4.
func short() [][]uint64 {
	out := [][]uint64{{}}
	for from := 0; len(out[from]) < 4; from++ {
		for weight := range uint64(5) {
			out = append(out, append(slices.Clone(out[from]), weight))
		}
	}
	return out
}

// lists are all of them, and many others.
func lists() [][]uint64 {
	source := rand.New(rand.NewSource(12))
	out := slices.Concat(fitting(), unfitting(), short())
	for range 3000 {
		out = append(out, random(source))
	}
	return out
}

func long(n uint64) *big.Int {
	return new(big.Int).SetUint64(n)
}

// times is n times a number, exactly.
func times(n int, a uint64) *big.Int {
	return new(big.Int).Mul(long(a), big.NewInt(int64(n)))
}

// exact is a number of 128 bits.
func exact(a api.Wide) *big.Int {
	out := new(big.Int).Lsh(long(a.Hi), 64)
	return out.Add(out, long(a.Lo))
}

// sum is the exact total.
func sum(l []uint64) *big.Int {
	out := new(big.Int)
	for _, weight := range l {
		out.Add(out, long(weight))
	}
	return out
}

// wanted is what Build ought to answer beside a table.
func wanted(l []uint64) api.Errno {
	total := sum(l)
	all := new(big.Int).Mul(total, big.NewInt(int64(len(l))))
	switch {
	case len(l) > 4096:
		return api.ErrMany
	case !total.IsUint64() || !all.IsUint64():
		return api.ErrOverflow
	case total.Sign() == 0:
		return api.ErrArg
	}
	return api.OK
}

// may tells whether a table is one of which something is promised.
func may(t Table) bool {
	for _, column := range t.Columns {
		if column.Cut > t.Total || column.Other < 0 || column.Other >= len(t.Columns) {
			return false
		}
	}
	return t.Total > 0 && len(t.Columns) > 0
}

// laid is how many numbers ought to pick each place, exactly: column by column, not number by number.
func laid(t Table) []*big.Int {
	out := make([]*big.Int, len(t.Columns))
	for i := range out {
		out[i] = new(big.Int)
	}
	for c, column := range t.Columns {
		out[c].Add(out[c], long(column.Cut))
		out[column.Other].Add(out[column.Other], long(t.Total-column.Cut))
	}
	return out
}

// isFair tells whether Fair ought to say so.
func isFair(t Table, l []uint64) bool {
	if !may(t) || len(l) != len(t.Columns) || sum(l).Cmp(long(t.Total)) != 0 {
		return false
	}
	for i, many := range laid(t) {
		if many.Cmp(times(len(l), l[i])) != 0 {
			return false
		}
	}
	return true
}

// copied is a table of the same columns, in memory of its own.
func copied(t Table) Table {
	return Table{Total: t.Total, Columns: slices.Clone(t.Columns)}
}

func same(a, b Table) bool {
	return a.Total == b.Total && slices.Equal(a.Columns, b.Columns)
}

// built is the table of weights that have one.
func built(t *testing.T, l []uint64) Table {
	t.Helper()
	table, err := Build(l)
	if err != api.OK {
		t.Fatalf("Build(%v) = %v", l, err)
	}
	if table.Total != sum(l).Uint64() || len(table.Columns) != len(l) || !may(table) {
		t.Fatalf("Build(%v) = %v", l, table)
	}
	return table
}

// checkPick holds Pick against what it ought to answer, and that is -1 where it is false.
func checkPick(t *testing.T, table Table, r uint64, want int) {
	t.Helper()
	if got, ok := Pick(table, r); got != want || ok != (want >= 0) {
		t.Fatalf("Pick(%v, %d) = %d, %v, want %d", table, r, got, ok, want)
	}
}

// checkCount holds Count against what it ought to answer.
func checkCount(t *testing.T, table Table, i int, want *big.Int) {
	t.Helper()
	if got, ok := Count(table, i); !ok || exact(got).Cmp(want) != 0 {
		t.Fatalf("Count(%v, %d) = %v, %v, want %v", table, i, got, ok, want)
	}
}

// checkNumbers holds Numbers against what it ought to answer of a table that may be.
func checkNumbers(t *testing.T, table Table) {
	t.Helper()
	want := times(len(table.Columns), table.Total)
	got, ok := Numbers(table)
	if ok != want.IsUint64() || ok && got != want.Uint64() || !ok && got != 0 {
		t.Fatalf("Numbers(%v) = %d, %v, want %v", table, got, ok, want)
	}
}

// checkRefused holds all that is asked of a table of which nothing is promised.
func checkRefused(t *testing.T, table Table, l []uint64) {
	t.Helper()
	if n, ok := Numbers(table); n != 0 || ok {
		t.Errorf("Numbers(%v) = %d, %v", table, n, ok)
	}
	for _, r := range []uint64{0, 1, 5, half, top} {
		if i, ok := Pick(table, r); i != -1 || ok {
			t.Errorf("Pick(%v, %d) = %d, %v", table, r, i, ok)
		}
	}
	for _, i := range []int{math.MinInt, -1, 0, 1, 2, math.MaxInt} {
		if many, ok := Count(table, i); many != (api.Wide{}) || ok {
			t.Errorf("Count(%v, %d) = %v, %v", table, i, many, ok)
		}
	}
	if Fair(table, l) {
		t.Errorf("Fair(%v, %v)", table, l)
	}
}

// checkNumberByNumber goes through all numbers, and holds Pick against the chapter's words, and Count against Pick.
func checkNumberByNumber(t *testing.T, table Table) []uint64 {
	t.Helper()
	many := make([]uint64, len(table.Columns))
	r := uint64(0)
	for c, column := range table.Columns {
		for x := range table.Total {
			want := column.Other
			if x < column.Cut {
				want = c
			}
			checkPick(t, table, r, want)
			many[want]++
			r++
		}
	}
	checkPick(t, table, r, -1)
	for i, n := range many {
		checkCount(t, table, i, long(n))
	}
	return many
}

// P12.1: tables of all lists that have one are fair; of each other list the error is told, and no table.
func TestBuild(t *testing.T) {
	for _, l := range lists() {
		table, err := Build(l)
		if err != wanted(l) {
			t.Fatalf("Build(%v) = %v, want %v", l, err, wanted(l))
		}
		if err != api.OK {
			if table.Total != 0 || len(table.Columns) != 0 {
				t.Fatalf("Build(%v) = %v, %v", l, table, err)
			}
			continue
		}
		if table := built(t, l); !isFair(table, l) {
			t.Fatalf("Build(%v) = %v is not fair", l, table)
		}
	}
}

// P12.1: the edges of each error, and which of two errors is told.
func TestBuildErrors(t *testing.T) {
	rows := []struct {
		name string
		list []uint64
		want api.Errno
	}{
		{"nil", nil, api.ErrArg}, {"empty", []uint64{}, api.ErrArg}, {"one of 0", []uint64{0}, api.ErrArg},
		{"some of 0", []uint64{0, 0, 0}, api.ErrArg}, {"4096 of 0", make([]uint64, 4096), api.ErrArg},
		{"4097 of 0", make([]uint64, 4097), api.ErrMany}, {"4097 of 1", ones(4097), api.ErrMany},
		{"4097, too great a total", slices.Repeat([]uint64{top}, 4097), api.ErrMany}, {"10000 of 1", ones(10000), api.ErrMany},
		{"4096 of 1", ones(4096), api.OK}, {"one, the greatest", []uint64{top}, api.OK},
		{"two, 2^64", []uint64{half, 0}, api.ErrOverflow}, {"two, 2^64 - 2", []uint64{half - 1, 0}, api.OK},
		{"three, 2^64 - 1", []uint64{third, 0, 0}, api.OK}, {"three, 2^64 + 2", []uint64{third, 0, 1}, api.ErrOverflow},
		{"4096, 2^64", lone(4096, 1, 1<<52), api.ErrOverflow}, {"4096, 2^64 - 4096", lone(4096, 1, 1<<52-1), api.OK},
		{"a total that would wrap round to 0", []uint64{half, half}, api.ErrOverflow},
		{"a product that would wrap round to 0", []uint64{1 << 62, 0, 0, 0}, api.ErrOverflow},
	}
	for _, row := range rows {
		table, err := Build(row.list)
		if err != row.want || err != api.OK && !same(table, Table{}) {
			t.Errorf("%s: %v, %v, want %v", row.name, table, err, row.want)
		}
	}
	for _, l := range fitting() {
		built(t, l)
	}
	for _, l := range unfitting() {
		if table, err := Build(l); err != api.ErrOverflow || !same(table, Table{}) {
			t.Errorf("Build(%v) = %v, %v", l, table, err)
		}
	}
}

// P12.1: the document's example, number by number.
func TestExample(t *testing.T) {
	l := []uint64{1, 3}
	table := built(t, l)
	if n, ok := Numbers(table); n != 8 || !ok {
		t.Errorf("Numbers(%v) = %d, %v", table, n, ok)
	}
	if many := checkNumberByNumber(t, table); many[0] != 2 || many[1] != 6 {
		t.Errorf("picked: %v", many)
	}
	if !Fair(table, l) || Fair(table, []uint64{3, 1}) {
		t.Errorf("Fair(%v, ..)", table)
	}
}

// P12.1, P12.2: what is built is asked about, number by number, as long as there are not too many.
func TestBuiltNumberByNumber(t *testing.T) {
	source := rand.New(rand.NewSource(121))
	some := short()
	for range 200 {
		l := make([]uint64, 1+source.Intn(12))
		for i := range l {
			l[i] = uint64(source.Intn(20) * source.Intn(2))
		}
		some = append(some, l)
	}
	for _, l := range some {
		if wanted(l) != api.OK {
			continue
		}
		table := built(t, l)
		checkNumbers(t, table)
		for i, many := range checkNumberByNumber(t, table) {
			if many != uint64(len(l))*l[i] {
				t.Fatalf("%v picks %d %d times, of the weights %v", table, i, many, l)
			}
		}
	}
}

// P12.2: what is built of long lists, and of great weights, is asked about next to where columns and cuts begin and end.
func TestBuiltAtEdges(t *testing.T) {
	for _, l := range fitting() {
		table := built(t, l)
		checkNumbers(t, table)
		if !Fair(table, l) {
			t.Fatalf("Fair(%v, %v)", table, l)
		}
		for c, column := range table.Columns {
			if c%97 == 0 || c > len(table.Columns)-3 || len(table.Columns) < 200 {
				checkColumn(t, table, c, column)
				checkCount(t, table, c, times(len(l), l[c]))
			}
		}
		end := times(len(l), table.Total).Uint64()
		checkPick(t, table, end, -1)
		checkPick(t, table, top, -1)
	}
}

// checkColumn holds Pick to what a column's first and last numbers pick, and those next to its cut.
func checkColumn(t *testing.T, table Table, c int, column Column) {
	t.Helper()
	from := uint64(c) * table.Total
	if column.Cut > 0 {
		checkPick(t, table, from, c)
		checkPick(t, table, from+column.Cut-1, c)
	}
	if column.Cut < table.Total {
		checkPick(t, table, from+column.Cut, column.Other)
		checkPick(t, table, from+table.Total-1, column.Other)
	}
}

// own are tables that nobody built: fair ones and others.
func own() []Table {
	source := rand.New(rand.NewSource(122))
	out := []Table{
		{1, []Column{{0, 0}}}, {1, []Column{{1, 0}}}, {5, []Column{{3, 0}}}, {4, []Column{{2, 1}, {4, 1}}}, {4, []Column{{2, 1}, {4, 0}}},
		{4, []Column{{0, 1}, {0, 0}}}, {4, []Column{{0, 1}, {0, 1}}}, {4, []Column{{4, 1}, {4, 0}}}, {4, []Column{{2, 0}, {1, 1}}},
		{3, []Column{{1, 2}, {0, 2}, {2, 0}}}, {6, []Column{{5, 1}, {5, 2}, {5, 0}}},
	}
	for range 200 {
		table := Table{Total: 1 + uint64(source.Intn(9)), Columns: make([]Column, 1+source.Intn(6))}
		for c := range table.Columns {
			table.Columns[c] = Column{Cut: uint64(source.Intn(int(table.Total) + 1)), Other: source.Intn(len(table.Columns))}
		}
		out = append(out, table)
	}
	return out
}

// P12.2: tables that nobody built are asked about as those that were.
func TestOwnTables(t *testing.T) {
	for _, table := range own() {
		checkNumbers(t, table)
		many := checkNumberByNumber(t, table)
		for _, r := range []uint64{half, top - 1, top} {
			checkPick(t, table, r, -1)
		}
		for _, i := range []int{math.MinInt, -2, -1, len(many), len(many) + 1, 4096, math.MaxInt} {
			checkCount(t, table, i, new(big.Int))
		}
		n := uint64(len(many))
		weights := make([]uint64, n)
		whole := true
		for i := range many {
			weights[i] = many[i] / n
			whole = whole && many[i]%n == 0
		}
		if Fair(table, weights) != whole || isFair(table, weights) != whole {
			t.Fatalf("Fair(%v, %v) = %v", table, weights, !whole)
		}
	}
}

// P12.2: Fair, of each table and many lists: too short ones, too long ones, of another total, of the same one.
func TestFair(t *testing.T) {
	source := rand.New(rand.NewSource(123))
	tables := own()
	for _, l := range short()[1:] {
		if table, err := Build(l); err == api.OK {
			tables = append(tables, table)
		}
	}
	for _, table := range tables {
		for range 20 {
			l := make([]uint64, max(0, len(table.Columns)-1+source.Intn(3)))
			for left := table.Total; left > 0 && len(l) > 0; left-- {
				l[source.Intn(len(l))]++
			}
			if got := Fair(table, l); got != isFair(table, l) {
				t.Fatalf("Fair(%v, %v) = %v", table, l, got)
			}
		}
	}
}

// P12.2: what Fair asks, one by one.
func TestFairWrittenOut(t *testing.T) {
	table := Table{Total: 4, Columns: []Column{{2, 1}, {4, 1}}}
	rows := []struct {
		list []uint64
		want bool
	}{
		{[]uint64{1, 3}, true}, {[]uint64{3, 1}, false}, {[]uint64{2, 2}, false}, {[]uint64{0, 4}, false}, {[]uint64{4, 0}, false},
		{[]uint64{1, 3, 0}, false}, {[]uint64{1}, false}, {[]uint64{4}, false}, {nil, false}, {[]uint64{1, 2}, false}, {[]uint64{1, 4}, false},
		{[]uint64{2, 6}, false}, {[]uint64{half + 1, half + 3}, false}, {[]uint64{1, top - 6}, false}, {[]uint64{0, 0}, false},
	}
	for _, row := range rows {
		if got := Fair(table, row.list); got != row.want {
			t.Errorf("Fair(%v, %v) = %v", table, row.list, got)
		}
	}
	// Twice the total, with the same columns: the same numbers below the cuts are not the same shares.
	if Fair(Table{Total: 8, Columns: []Column{{2, 1}, {4, 1}}}, []uint64{1, 3}) {
		t.Errorf("a table of another total is fair")
	}
}

// P12.2: where the numbers do not fit, Pick picks nothing, but Count and Fair go on.
func TestNumbersThatDoNotFit(t *testing.T) {
	two := new(big.Int).Lsh(big.NewInt(1), 64)
	table := Table{Total: half, Columns: []Column{{half, 1}, {0, 0}}}
	checkNumbers(t, table)
	for _, r := range []uint64{0, 1, half, top} {
		checkPick(t, table, r, -1)
	}
	checkCount(t, table, 0, two)
	checkCount(t, table, 1, new(big.Int))
	checkCount(t, table, 2, new(big.Int))
	checkCount(t, table, -1, new(big.Int))
	if !Fair(table, []uint64{half, 0}) || Fair(table, []uint64{0, half}) || Fair(table, []uint64{half - 1, 1}) {
		t.Errorf("Fair(%v, ..)", table)
	}
	greatest := Table{Total: top, Columns: []Column{{top, 0}, {top - 2, 2}, {1, 0}}}
	checkNumbers(t, greatest)
	checkPick(t, greatest, 0, -1)
	for i, want := range laid(greatest) {
		checkCount(t, greatest, i, want)
	}
	even := Table{Total: top, Columns: []Column{{top, 0}, {top, 0}, {top, 0}}}
	if !Fair(even, []uint64{third, third, third}) || Fair(even, []uint64{third, third - 1, third + 1}) || Fair(even, []uint64{top, top, 2}) {
		t.Errorf("Fair(%v, ..)", even)
	}
	if n, ok := Numbers(Table{Total: top, Columns: []Column{{7, 0}}}); n != top || !ok {
		t.Errorf("Numbers = %d, %v", n, ok)
	}
	if n, ok := Numbers(Table{Total: third, Columns: []Column{{7, 0}, {7, 0}, {7, 0}}}); n != top || !ok {
		t.Errorf("Numbers = %d, %v", n, ok)
	}
}

// P12.2: a table of more columns than Build makes is one too.
func TestMoreColumnsThanBuilt(t *testing.T) {
	const n = 5000
	table := Table{Total: n, Columns: make([]Column, n)}
	for c := range table.Columns {
		table.Columns[c] = Column{Cut: n - 1, Other: (c + 1) % n}
	}
	checkNumbers(t, table)
	checkPick(t, table, 4999*n+4998, 4999)
	checkPick(t, table, 4999*n+4999, 0)
	checkPick(t, table, 5000*n, -1)
	checkCount(t, table, 4999, big.NewInt(n))
	if !Fair(table, ones(n)) || Fair(table, append(ones(n-2), 0, 2)) {
		t.Errorf("Fair of %d columns", n)
	}
}

// P12.2: of tables that may not be there is nothing to tell, wherever the wrong column stands.
func TestTablesThatMayNotBe(t *testing.T) {
	checkRefused(t, Table{}, nil)
	checkRefused(t, Table{}, []uint64{0})
	checkRefused(t, Table{Total: 5}, nil)
	checkRefused(t, Table{Total: 5, Columns: []Column{}}, []uint64{})
	checkRefused(t, Table{Total: 0, Columns: []Column{{0, 0}}}, []uint64{0})
	checkRefused(t, Table{Total: 0, Columns: []Column{{0, 1}, {0, 0}}}, []uint64{0, 0})
	checkRefused(t, Table{Total: 0, Columns: []Column{{1, 0}}}, []uint64{0})
	wrong := []Column{
		{5, 0}, {6, 0}, {top, 0}, {half, 2}, {4, -1}, {4, 3}, {0, 4}, {4, math.MaxInt}, {4, math.MinInt}, {0, -4096}, {5, -1},
	}
	l := []uint64{4, 0, 0}
	good := []Column{{4, 0}, {0, 0}, {0, 0}}
	for at := range good {
		for _, column := range wrong {
			columns := slices.Clone(good)
			columns[at] = column
			checkRefused(t, Table{Total: 4, Columns: columns}, l)
		}
	}
	if !Fair(Table{Total: 4, Columns: good}, l) {
		t.Errorf("the good table is not fair")
	}
}

// P12.3: nothing picks a place of the weight 0.
func TestNoWeightNoPick(t *testing.T) {
	source := rand.New(rand.NewSource(124))
	for _, l := range lists() {
		table, err := Build(l)
		if err != api.OK {
			continue
		}
		for c, column := range table.Columns {
			if l[c] == 0 && column.Cut != 0 || l[column.Other] == 0 && column.Cut < table.Total {
				t.Fatalf("the column %d of %v, of the weights %v", c, table, l)
			}
		}
		all, _ := Numbers(table)
		for range min(all, 50) {
			r := source.Uint64() % all
			if i, ok := Pick(table, r); !ok || l[i] == 0 {
				t.Fatalf("Pick(%v, %d) = %d, %v, of the weights %v", table, r, i, ok, l)
			}
		}
		if zero := slices.Index(l, 0); zero >= 0 {
			checkCount(t, table, zero, new(big.Int))
		}
	}
}

// R5: what is handed in stays as it was, and what is answered is shared with nobody.
func TestMemory(t *testing.T) {
	for _, l := range lists() {
		kept := slices.Clone(l)
		table, err := Build(l)
		again, _ := Build(l)
		if !slices.Equal(l, kept) || !same(table, again) {
			t.Fatalf("Build(%v) is %v, then %v, and left %v", kept, table, again, l)
		}
		if err != api.OK {
			continue
		}
		was := copied(table)
		Numbers(table)
		Pick(table, 0)
		Count(table, 0)
		Fair(table, l)
		clear(l)
		clear(again.Columns)
		if !same(table, was) || !Fair(table, kept) {
			t.Fatalf("%v became %v, of the weights %v", was, table, kept)
		}
	}
}
