package wire

import (
	"bytes"
	"encoding/binary"
	"math"
	"math/rand"
	"slices"
	"strings"
	"testing"

	"tombola/api"
)

const top64 = math.MaxUint64

// edgeNumbers are numbers at which bytes end.
func edgeNumbers() []uint64 {
	list := []uint64{0, 300, top64, top64 - 1}
	for shift := range 64 {
		power := uint64(1) << shift
		list = append(list, power-1, power, power+1)
	}
	return list
}

// randomNumber is a number of any length, each length as likely.
func randomNumber(source *rand.Rand) uint64 {
	return source.Uint64() >> source.Intn(64)
}

// join is parts of bytes, one behind the other.
func join(parts ...[]byte) []byte { return slices.Concat(parts...) }

// highs are so many bytes behind each of which another one comes.
func highs(count int) []byte { return bytes.Repeat([]byte{0x80}, count) }

// P5.1: the bytes of numbers that are written out.
func TestPutAtNumbersWrittenOut(t *testing.T) {
	rows := []struct {
		l    []uint64
		want []byte
	}{
		{nil, nil},
		{[]uint64{0}, []byte{0}}, {[]uint64{1}, []byte{1}}, {[]uint64{127}, []byte{127}}, {[]uint64{128}, []byte{128, 1}},
		{[]uint64{129}, []byte{129, 1}}, {[]uint64{255}, []byte{255, 1}}, {[]uint64{256}, []byte{128, 2}}, {[]uint64{300}, []byte{172, 2}},
		{[]uint64{1<<14 - 1}, []byte{255, 127}}, {[]uint64{1 << 14}, []byte{128, 128, 1}},
		{[]uint64{1<<63 - 1}, []byte{255, 255, 255, 255, 255, 255, 255, 255, 127}},
		{[]uint64{1 << 63}, append(highs(9), 1)},
		{[]uint64{top64}, []byte{255, 255, 255, 255, 255, 255, 255, 255, 255, 1}},
		{[]uint64{0, 0}, []byte{0, 0}}, {[]uint64{1, 300, 0, 128}, []byte{1, 172, 2, 0, 128, 1}},
	}
	for _, r := range rows {
		for _, ahead := range [][]byte{nil, {}, {0}, {9, 128, 255}} {
			if got := Put(ahead, r.l...); !bytes.Equal(got, join(ahead, r.want)) {
				t.Errorf("Put(%v, %v) = %v, want %v behind it", ahead, r.l, got, r.want)
			}
		}
	}
}

// P5.1, against another reckoner: the lowest seven bits first, and no more bytes than there are bits for.
func TestPutIsTheShortestForm(t *testing.T) {
	source := rand.New(rand.NewSource(51))
	list := edgeNumbers()
	for range 3000 {
		list = append(list, randomNumber(source))
	}
	var all []byte
	for _, n := range list {
		all = binary.AppendUvarint(all, n)
		got := Put(nil, n)
		if !bytes.Equal(got, binary.AppendUvarint(nil, n)) || len(got) > 1 && got[len(got)-1] == 0 {
			t.Errorf("Put(nil, %d) = %v", n, got)
		}
	}
	if got := Put(nil, list...); !bytes.Equal(got, all) {
		t.Error("all at once are other bytes than one by one")
	}
}

// P5.1: a text is its length and its bytes, any of them.
func TestPutTextIsLengthAndBytes(t *testing.T) {
	rows := []struct {
		s    string
		want []byte
	}{
		{"", []byte{0}}, {"ab", []byte{2, 'a', 'b'}}, {"\x00", []byte{1, 0}}, {"\xff\x80\n", []byte{3, 255, 128, 10}}, {"ü", []byte{2, 0xc3, 0xbc}},
		{strings.Repeat("x", 127), append([]byte{127}, strings.Repeat("x", 127)...)},
		{strings.Repeat("x", 128), append([]byte{128, 1}, strings.Repeat("x", 128)...)},
		{strings.Repeat("y", 300), append([]byte{172, 2}, strings.Repeat("y", 300)...)},
	}
	for _, r := range rows {
		for _, ahead := range [][]byte{nil, {}, {0}, {9, 128, 255}} {
			if got := PutText(ahead, r.s); !bytes.Equal(got, join(ahead, r.want)) {
				t.Errorf("PutText(%v, %.10q) of %d bytes = %.20v, want %.20v behind it", ahead, r.s, len(r.s), got, r.want)
			}
		}
	}
}

// P5.1: what is answered is new memory, even where what was handed in has room for it (R5).
func TestPutLeavesWhatItWasHanded(t *testing.T) {
	whole := []byte{1, 2, 3, 4, 5, 6, 7, 8}
	for size := range len(whole) {
		room := slices.Clone(whole)
		b := room[:size]
		numbers := []uint64{70, 80}
		answers := [][]byte{Put(b), Put(b, numbers...), Put(b, 90), PutText(b, ""), PutText(b, "xy")}
		for i, answer := range answers {
			for j := range answer {
				answer[j] = 200 + byte(i)
			}
		}
		for i, answer := range answers {
			if slices.ContainsFunc(answer, func(c byte) bool { return c != 200+byte(i) }) {
				t.Errorf("answer %d behind %d bytes shares memory with another one", i, size)
			}
		}
		if !bytes.Equal(room, whole) || !slices.Equal(numbers, []uint64{70, 80}) {
			t.Errorf("what was handed in, %d bytes, is %v", size, room)
		}
	}
}

// P5.2: the reader stands at the first byte, and behind each number that was read.
func TestNumReadsOneBehindTheOther(t *testing.T) {
	r := NewReader([]byte{1, 172, 2, 0, 128, 1, 255, 255, 255, 255, 255, 255, 255, 255, 255, 1, 9})
	rows := []struct {
		top, want uint64
		left      int
	}{
		{top64, 1, 16}, {300, 300, 14}, {0, 0, 13}, {128, 128, 11}, {top64, top64, 1}, {10, 9, 0},
	}
	if r.Left() != 17 || r.Err() != api.OK {
		t.Fatal(r.Left(), r.Err())
	}
	for _, row := range rows {
		if got := r.Num(row.top); got != row.want || r.Left() != row.left || r.Err() != api.OK {
			t.Fatalf("Num(%d) = %d, left %d, %v, want %d, left %d", row.top, got, r.Left(), r.Err(), row.want, row.left)
		}
	}
	if got := r.Num(top64); got != 0 || r.Left() != 0 || r.Err() != api.ErrEnd {
		t.Fatal(got, r.Left(), r.Err())
	}
}

// P5.2: which of the errors comes up first, byte by byte.
func TestNumTellsWhatIsWrong(t *testing.T) {
	rows := []struct {
		b    []byte
		top  uint64
		want api.Errno
	}{
		{nil, top64, api.ErrEnd}, {nil, 0, api.ErrEnd}, {[]byte{128}, top64, api.ErrEnd}, {[]byte{255, 255}, 0, api.ErrEnd},
		{highs(9), top64, api.ErrEnd}, {highs(9), 0, api.ErrEnd},
		{[]byte{128, 0}, top64, api.ErrForm}, {[]byte{129, 0}, top64, api.ErrForm}, {[]byte{128, 128, 0}, top64, api.ErrForm},
		{[]byte{128, 0, 1}, top64, api.ErrForm}, {[]byte{255, 0}, 0, api.ErrForm}, {append(highs(8), 0), top64, api.ErrForm},
		{append(highs(9), 0), top64, api.ErrForm}, {append(highs(9), 2), top64, api.ErrForm}, {append(highs(9), 127), top64, api.ErrForm},
		{append(highs(9), 0, 1), top64, api.ErrForm},
		{highs(10), top64, api.ErrForm}, {append(highs(10), 1), top64, api.ErrForm}, {append(highs(9), 129), top64, api.ErrForm},
		{append(highs(9), 129, 0), 0, api.ErrForm}, {highs(30), 0, api.ErrForm}, {append(highs(9), 2), 0, api.ErrForm},
		{[]byte{1}, 0, api.ErrRange}, {[]byte{127}, 126, api.ErrRange}, {[]byte{172, 2}, 299, api.ErrRange}, {[]byte{128, 1, 0}, 127, api.ErrRange},
		{append(highs(9), 1), 1<<63 - 1, api.ErrRange}, {[]byte{255, 255, 255, 255, 255, 255, 255, 255, 255, 1}, top64 - 1, api.ErrRange},
	}
	for _, row := range rows {
		// What stands ahead is read, and what is wrong behind it leaves the place there.
		for _, ahead := range [][]uint64{nil, {0}, {5, 300}} {
			r := NewReader(join(Put(nil, ahead...), row.b))
			for _, n := range ahead {
				if got := r.Num(n); got != n {
					t.Fatalf("Num = %d, want %d", got, n)
				}
			}
			if got := r.Num(row.top); got != 0 || r.Err() != row.want || r.Left() != len(row.b) {
				t.Errorf("Num(%d) of %v = %d, %v, left %d, want %v", row.top, row.b, got, r.Err(), r.Left(), row.want)
			}
		}
	}
}

// wrongOf is the error of the number at the front, if any, by the document's words, and how many bytes it has else.
func wrongOf(b []byte) (api.Errno, int) {
	for i := range 10 {
		switch {
		case i >= len(b):
			return api.ErrEnd, 0
		case i > 0 && b[i] == 0, i == 9 && b[i] > 1:
			return api.ErrForm, 0
		case b[i] < 128:
			return api.OK, i + 1
		}
	}
	panic("a tenth byte ends it")
}

// P5.2, P5.4: all short lists of bytes: what is read is what would be put, and nothing else is read.
func TestAllShortBytes(t *testing.T) {
	letters := []byte{0, 1, 2, 127, 128, 129, 255}
	lists := [][]byte{nil}
	for i := 0; len(lists[i]) < 4; i++ {
		for _, c := range letters {
			lists = append(lists, join(lists[i], []byte{c}))
		}
	}
	for _, ahead := range []int{0, 6, 7, 8, 9} {
		for _, list := range lists {
			b := join(highs(ahead), list)
			r := NewReader(b)
			n := r.Num(top64)
			want, size := wrongOf(b)
			if r.Err() != want || r.Left() != len(b)-size {
				t.Fatalf("%v: %v, left %d, want %v, size %d", b, r.Err(), r.Left(), want, size)
			}
			if want != api.OK && n != 0 || want == api.OK && !bytes.Equal(Put(nil, n), b[:size]) {
				t.Fatalf("%v is read as %d", b, n)
			}
		}
	}
}

// P5.2: an int's top below 0 is one of 0.
func TestIntIsNumOfItsTop(t *testing.T) {
	rows := []struct {
		n    uint64
		top  int
		want api.Errno
	}{
		{0, 0, api.OK}, {0, -1, api.OK}, {0, math.MinInt, api.OK}, {1, 0, api.ErrRange}, {1, -1, api.ErrRange}, {1, math.MinInt, api.ErrRange},
		{300, 300, api.OK}, {300, 299, api.ErrRange}, {300, -300, api.ErrRange}, {math.MaxInt, math.MaxInt, api.OK},
		{math.MaxInt + 1, math.MaxInt, api.ErrRange}, {top64, math.MaxInt, api.ErrRange}, {top64, -1, api.ErrRange}, {top64, math.MinInt, api.ErrRange},
	}
	for _, row := range rows {
		b := Put(nil, row.n, 7)
		r := NewReader(b)
		got := r.Int(row.top)
		if row.want == api.OK && (uint64(got) != row.n || r.Left() != 1) || row.want != api.OK && (got != 0 || r.Left() != len(b)) || r.Err() != row.want {
			t.Errorf("Int(%d) of %d = %d, %v, left %d", row.top, row.n, got, r.Err(), r.Left())
		}
	}
	for _, row := range []struct {
		b    []byte
		want api.Errno
	}{{nil, api.ErrEnd}, {[]byte{128}, api.ErrEnd}, {[]byte{128, 0}, api.ErrForm}, {highs(10), api.ErrForm}} {
		r := NewReader(row.b)
		if got := r.Int(5); got != 0 || r.Err() != row.want || r.Left() != len(row.b) {
			t.Errorf("Int(5) of %v = %d, %v, left %d", row.b, got, r.Err(), r.Left())
		}
	}
}

// P5.2: texts, as long as their top, with any bytes.
func TestTextReadsTexts(t *testing.T) {
	long := strings.Repeat("z", 300)
	rows := []struct {
		s   string
		top int
	}{
		{"", 0}, {"", -1}, {"", math.MinInt}, {"", 9}, {"ab", 2}, {"ab", 3}, {"ab", math.MaxInt}, {"\x00\xff\x80\n", 4}, {long, 300}, {long[:127], 127}, {long[:128], 128},
	}
	for _, row := range rows {
		for _, behind := range []string{"", "x", "\x00\x80"} {
			r := NewReader(append(PutText(nil, row.s), behind...))
			if got := r.Text(row.top); got != row.s || r.Err() != api.OK || r.Left() != len(behind) {
				t.Errorf("Text(%d) = %.20q, %v, left %d, want %.20q, left %d", row.top, got, r.Err(), r.Left(), row.s, len(behind))
			}
		}
	}
}

// P5.2, P5.3: a text that is not there leaves the place ahead of its length.
func TestTextTellsWhatIsWrong(t *testing.T) {
	rows := []struct {
		b    []byte
		top  int
		want api.Errno
	}{
		{nil, 9, api.ErrEnd}, {[]byte{128}, 9, api.ErrEnd}, {[]byte{1}, 9, api.ErrEnd}, {[]byte{3, 'a', 'b'}, 3, api.ErrEnd},
		{[]byte{172, 2, 'a'}, 300, api.ErrEnd}, {Put(nil, math.MaxInt, 1), math.MaxInt, api.ErrEnd},
		{[]byte{129, 0, 'a'}, 9, api.ErrForm}, {highs(10), 9, api.ErrForm}, {[]byte{129, 0}, -1, api.ErrForm},
		{[]byte{2, 'a', 'b'}, 1, api.ErrRange}, {[]byte{1, 'a'}, 0, api.ErrRange}, {[]byte{1, 'a'}, -1, api.ErrRange},
		{[]byte{3, 'a'}, 2, api.ErrRange}, {Put(nil, top64), math.MaxInt, api.ErrRange},
	}
	for _, row := range rows {
		for _, ahead := range []string{"", "q", "pq"} {
			r := NewReader(join(PutText(nil, ahead), row.b))
			if got := r.Text(len(ahead)); got != ahead {
				t.Fatalf("Text = %q, want %q", got, ahead)
			}
			if got := r.Text(row.top); got != "" || r.Err() != row.want || r.Left() != len(row.b) {
				t.Errorf("Text(%d) of %v = %q, %v, left %d, want %v", row.top, row.b, got, r.Err(), r.Left(), row.want)
			}
		}
	}
}

// P5.2: a reader reads what was there when it was made, and writes nothing into it (R5).
func TestReaderReadsWhatWasThere(t *testing.T) {
	b := PutText(Put(nil, 300, 7), "ab")
	old := slices.Clone(b)
	r := NewReader(b)
	n := r.Num(300)
	clear(b)
	if m, s := r.Num(7), r.Text(2); n != 300 || m != 7 || s != "ab" || r.Err() != api.OK || r.Left() != 0 {
		t.Errorf("read %d, %d, %q, %v, left %d", n, m, s, r.Err(), r.Left())
	}
	r = NewReader(old)
	r.Text(9)
	r.Num(0)
	if !bytes.Equal(old, PutText(Put(nil, 300, 7), "ab")) {
		t.Errorf("what was handed in is %v", old)
	}
}

// P5.2: two readers of the same bytes have places and errors of their own.
func TestReadersAreTheirOwn(t *testing.T) {
	b := Put(nil, 1, 2, 3)
	first, second := NewReader(b), NewReader(b)
	first.Num(9)
	first.Fail(api.ErrKind)
	if second.Left() != 3 || second.Err() != api.OK || second.Num(9) != 1 || second.Num(9) != 2 || first.Left() != 2 {
		t.Error(first.Left(), second.Left(), second.Err())
	}
}

// isStuck tells whether a broken reader answers as one, at whatever it is asked.
func isStuck(r *Reader, want api.Errno, left int) bool {
	for range 2 {
		if r.Num(top64) != 0 || r.Num(0) != 0 || r.Int(math.MaxInt) != 0 || r.Int(-1) != 0 || r.Text(math.MaxInt) != "" || r.Text(-1) != "" {
			return false
		}
		for _, e := range []api.Errno{api.OK, api.ErrArg, api.ErrForm, api.ErrEnd, api.ErrRange, api.ErrUsed} {
			if r.Fail(e); r.Err() != want || r.Left() != left {
				return false
			}
		}
	}
	return true
}

// P5.2, P5.3: a reader is broken with whatever it is told, once.
func TestFailBreaksAReaderOnce(t *testing.T) {
	for _, e := range []api.Errno{api.ErrArg, api.ErrForm, api.ErrEnd, api.ErrRange, api.ErrUsed, 99, -1} {
		for _, b := range [][]byte{nil, {5}, {5, 1, 'a'}} {
			r := NewReader(b)
			if r.Fail(api.OK); r.Err() != api.OK {
				t.Fatal("broken with OK")
			}
			if r.Fail(e); !isStuck(r, e, len(b)) {
				t.Errorf("broken with %v it answers something, or moves", e)
			}
		}
	}
	r := NewReader([]byte{5, 6})
	r.Fail(api.OK)
	if got := r.Num(9); got != 5 {
		t.Errorf("Num = %d behind Fail(OK)", got)
	}
}

// P5.3: a reader stays broken, though what comes behind could be read.
func TestABrokenReaderStaysBroken(t *testing.T) {
	rows := []struct {
		b    []byte
		call func(r *Reader)
		want api.Errno
	}{
		{[]byte{5, 6}, func(r *Reader) { r.Num(4) }, api.ErrRange}, {[]byte{5, 6}, func(r *Reader) { r.Int(4) }, api.ErrRange},
		{[]byte{1, 'a'}, func(r *Reader) { r.Text(0) }, api.ErrRange}, {[]byte{9, 1, 'a'}, func(r *Reader) { r.Text(9) }, api.ErrEnd},
		{[]byte{128, 0, 3}, func(r *Reader) { r.Num(9) }, api.ErrForm}, {[]byte{128}, func(r *Reader) { r.Int(9) }, api.ErrEnd},
		{nil, func(r *Reader) { r.Text(9) }, api.ErrEnd}, {append(highs(9), 2, 1, 1), func(r *Reader) { r.Num(top64) }, api.ErrForm},
	}
	for i, row := range rows {
		r := NewReader(row.b)
		if row.call(r); !isStuck(r, row.want, len(row.b)) {
			t.Errorf("row %d: broken with %v, left %d, it answers something, or moves", i, r.Err(), r.Left())
		}
	}
}

// P5.3: a nil reader is a broken one.
func TestANilReaderIsBroken(t *testing.T) {
	if !isStuck(nil, api.ErrEnd, 0) {
		t.Error("a nil reader answers something")
	}
}

// P5.3: what is asked of a reader that is whole changes nothing.
func TestAskingChangesNothing(t *testing.T) {
	r := NewReader([]byte{7, 8})
	for range 3 {
		if r.Left() != 2 || r.Err() != api.OK {
			t.Fatal(r.Left(), r.Err())
		}
	}
	if got := r.Num(7); got != 7 {
		t.Errorf("Num = %d, want 7", got)
	}
}

// P5.4: each number comes back, and its bytes without the last one are no number.
func TestNumbersComeBack(t *testing.T) {
	source := rand.New(rand.NewSource(54))
	list := edgeNumbers()
	for range 3000 {
		list = append(list, randomNumber(source))
	}
	for _, n := range list {
		b := Put(nil, n)
		r := NewReader(b)
		if got := r.Num(n); got != n || r.Left() != 0 || r.Err() != api.OK {
			t.Errorf("%d came back as %d, %v", n, got, r.Err())
		}
		if n > 0 {
			r = NewReader(b)
			if got := r.Num(n - 1); got != 0 || r.Err() != api.ErrRange {
				t.Errorf("%d is not above %d: %d, %v", n, n-1, got, r.Err())
			}
		}
		r = NewReader(b[:len(b)-1])
		if got := r.Num(n); got != 0 || r.Err() != api.ErrEnd {
			t.Errorf("%d without its last byte is %d, %v", n, got, r.Err())
		}
	}
}

// put is what was put into bytes, as a number, or a text, if it is one.
type put struct {
	isText bool
	n      uint64
	s      string
}

// randomPuts are numbers, and texts of any bytes.
func randomPuts(source *rand.Rand) []put {
	list := make([]put, source.Intn(12))
	for i := range list {
		list[i] = put{isText: source.Intn(2) == 0, n: randomNumber(source)}
		if list[i].isText {
			text := make([]byte, source.Intn(1+source.Intn(400)))
			source.Read(text)
			list[i] = put{isText: true, s: string(text)}
		}
	}
	return list
}

// P5.4: numbers and texts, mixed, come back in their order.
func TestWhatWasPutComesBack(t *testing.T) {
	source := rand.New(rand.NewSource(541))
	for range 2000 {
		list := randomPuts(source)
		var b []byte
		for _, p := range list {
			if p.isText {
				b = PutText(b, p.s)
			} else {
				b = Put(b, p.n)
			}
		}
		r := NewReader(b)
		for _, p := range list {
			if p.isText && r.Text(len(p.s)) != p.s || !p.isText && r.Num(p.n) != p.n || r.Err() != api.OK {
				t.Fatalf("%d, or the text %.20q, does not come back: %v", p.n, p.s, r.Err())
			}
		}
		if r.Left() != 0 {
			t.Fatalf("%d bytes are left", r.Left())
		}
	}
}
