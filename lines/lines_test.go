package lines

import (
	"math"
	"math/big"
	"math/rand"
	"regexp"
	"slices"
	"strconv"
	"strings"
	"testing"

	"tombola/api"
)

// What the document calls a word, a line, a number's text, as another reckoner has it.
var (
	wordForm   = regexp.MustCompile(`\A[!-~]+\z`)
	lineForm   = regexp.MustCompile(`\A[!-~]+( [!-~]+)*\n\z`)
	numberForm = regexp.MustCompile(`\A(0|-?[1-9][0-9]*)\z`)
)

// shortTexts are all texts of at most so many of these letters.
func shortTexts(letters []string, most int) []string {
	all := []string{""}
	from := 0
	for range most {
		size := len(all)
		for _, text := range all[from:size] {
			for _, letter := range letters {
				all = append(all, text+letter)
			}
		}
		from = size
	}
	return all
}

// same tells whether two lists of lines have the same words.
func same(a, b [][]string) bool {
	return slices.EqualFunc(a, b, slices.Equal[[]string])
}

// full is a text of so many bytes, of lines with one word of at most 100 bytes.
func full(size int) string {
	var text strings.Builder
	for size-text.Len() > 101 {
		text.WriteString(strings.Repeat("x", 99) + "\n")
	}
	text.WriteString(strings.Repeat("y", size-text.Len()-1) + "\n")
	return text.String()
}

// P6.1: a word is one byte or more, each from 33 to 126.
func TestWordAtEachByte(t *testing.T) {
	for b := range 256 {
		want := b >= 33 && b <= 126
		c := string([]byte{byte(b)})
		for _, s := range []string{c, c + "a", "a" + c, "~" + c + "!", c + c} {
			if got := Word(s); got != want {
				t.Errorf("Word(%q) = %v, want %v", s, got, want)
			}
		}
	}
	if Word("") {
		t.Error("an empty text is a word")
	}
	for _, s := range []string{"ü", "a b", "a\n", "\u2028", "a\x00"} {
		if Word(s) {
			t.Errorf("%q is a word", s)
		}
	}
	if !Word(strings.Repeat("w", 1<<20)) {
		t.Error("a long word is none")
	}
}

// P6.1: all short texts, against another reckoner.
func TestWordAtShortTexts(t *testing.T) {
	for _, s := range shortTexts([]string{"a", "!", "~", " ", "\n", "\x7f", "\x80", "\x1f", "ü"}, 4) {
		if got, want := Word(s), wordForm.MatchString(s); got != want {
			t.Errorf("Word(%q) = %v, want %v", s, got, want)
		}
	}
}

// P6.1: numbers of an int, at the ends of its range.
func TestNumAtNumbersWrittenOut(t *testing.T) {
	rows := []struct {
		s    string
		want int
	}{
		{"0", 0}, {"1", 1}, {"-1", -1}, {"9", 9}, {"10", 10}, {"-10", -10}, {"1048576", 1 << 20},
		{"9223372036854775807", math.MaxInt}, {"-9223372036854775808", math.MinInt}, {"-9223372036854775807", -math.MaxInt},
	}
	for _, row := range rows {
		if got, ok := Num(row.s); got != row.want || !ok {
			t.Errorf("Num(%q) = %d, %v, want %d", row.s, got, ok, row.want)
		}
	}
}

// P6.1: numbers from 0 to 2^64 - 1.
func TestWideAtNumbersWrittenOut(t *testing.T) {
	rows := []struct {
		s    string
		want uint64
	}{
		{"0", 0}, {"1", 1}, {"9", 9}, {"10", 10}, {"4294967296", 1 << 32}, {"9223372036854775808", 1 << 63}, {"18446744073709551615", math.MaxUint64},
	}
	for _, row := range rows {
		if got, ok := Wide(row.s); got != row.want || !ok {
			t.Errorf("Wide(%q) = %d, %v, want %d", row.s, got, ok, row.want)
		}
	}
}

// P6.1: what is no number's text, or the text of one that does not fit.
func TestNoNumbers(t *testing.T) {
	never := []string{
		"", "-", "+", "-0", "+0", "+1", "00", "01", "-01", "007", "--1", "-+1", "1-", " 1", "1 ", "- 1", "1\n", "\n1", "1_000", "1,000", "1.0", "1e3",
		"0x1", "0b1", "0o7", "1a", "a", "٣", "1\x00", "−1", "inf", "nan", "18446744073709551616", "-9223372036854775809",
		"00000000000000000001", "99999999999999999999", strings.Repeat("9", 5000), strings.Repeat("0", 5000),
	}
	for _, s := range never {
		if got, ok := Num(s); got != 0 || ok {
			t.Errorf("Num(%.30q) = %d, %v", s, got, ok)
		}
		if got, ok := Wide(s); got != 0 || ok {
			t.Errorf("Wide(%.30q) = %d, %v", s, got, ok)
		}
	}
	for _, s := range []string{"9223372036854775808", "18446744073709551615"} {
		if got, ok := Num(s); got != 0 || ok {
			t.Errorf("Num(%q) = %d, %v", s, got, ok)
		}
	}
	for _, s := range []string{"-1", "-10", "-9223372036854775808", "-18446744073709551615"} {
		if got, ok := Wide(s); got != 0 || ok {
			t.Errorf("Wide(%q) = %d, %v", s, got, ok)
		}
	}
}

// checkNumber holds both of a text's numbers against another reckoner's.
func checkNumber(t *testing.T, s string) {
	t.Helper()
	n := new(big.Int)
	isNumber := numberForm.MatchString(s)
	if isNumber {
		n.SetString(s, 10)
	}
	num, isInt := Num(s)
	if want := isNumber && n.IsInt64(); isInt != want || want && int64(num) != n.Int64() || !want && num != 0 {
		t.Errorf("Num(%q) = %d, %v", s, num, isInt)
	}
	wide, isWide := Wide(s)
	if want := isNumber && n.IsUint64(); isWide != want || want && wide != n.Uint64() || !want && wide != 0 {
		t.Errorf("Wide(%q) = %d, %v", s, wide, isWide)
	}
}

// P6.1: all short texts, and numbers around the ends of both ranges, against another reckoner.
func TestNumbersAgainstAnotherReckoner(t *testing.T) {
	for _, s := range shortTexts([]string{"0", "1", "9", "-", "+", "_", " ", "x"}, 5) {
		checkNumber(t, s)
	}
	for shift := range uint(70) {
		power := new(big.Int).Lsh(big.NewInt(1), shift)
		for more := range int64(5) {
			n := new(big.Int).Add(power, big.NewInt(more-2))
			s, below := n.String(), n.Neg(n).String()
			for _, text := range []string{s, below, "0" + s, "+" + s, "-" + below, s + "0", s + " "} {
				checkNumber(t, text)
			}
		}
	}
}

// P6.1: each number's text is its own (R6).
func TestNumbersComeBackFromTheirTexts(t *testing.T) {
	source := rand.New(rand.NewSource(61))
	for range 5000 {
		n := source.Uint64() >> source.Intn(64)
		if got, ok := Wide(strconv.FormatUint(n, 10)); got != n || !ok {
			t.Errorf("%d comes back as %d, %v", n, got, ok)
		}
		if got, ok := Num(strconv.Itoa(int(n))); got != int(n) || !ok {
			t.Errorf("%d comes back as %d, %v", int(n), got, ok)
		}
	}
}

// P6.1: a line's words.
func TestSplitOfLines(t *testing.T) {
	rows := []struct {
		line string
		want []string
	}{
		{"a", []string{"a"}}, {"a b", []string{"a", "b"}}, {"spawn : 0 0 0", []string{"spawn", ":", "0", "0", "0"}},
		{"! ~", []string{"!", "~"}}, {"a a a", []string{"a", "a", "a"}}, {"-1 x,y;z", []string{"-1", "x,y;z"}},
	}
	for _, row := range rows {
		if got, ok := Split(row.line); !slices.Equal(got, row.want) || !ok {
			t.Errorf("Split(%q) = %q, %v, want %q", row.line, got, ok, row.want)
		}
	}
}

// P6.1: what is no line has no words.
func TestSplitOfNoLines(t *testing.T) {
	none := []string{
		"", " ", "  ", " a", "a ", "a  b", "a b ", " a b", "a\tb", "a\n", "a b\n", "\n", "a\nb", "a\rb", "a b\r", "a\x00b", "a \x7f", "ü", "a ü", "a\u00a0b", "\x80",
	}
	for _, line := range none {
		if got, ok := Split(line); got != nil || ok {
			t.Errorf("Split(%q) = %q, %v", line, got, ok)
		}
	}
}

// P6.1: all short texts: a line's words make the line again, and nothing else is split.
func TestSplitAtShortTexts(t *testing.T) {
	for _, line := range shortTexts([]string{"a", "!", "~", " ", "\n", "\t", "\x7f", "\xff"}, 5) {
		got, ok := Split(line)
		want := lineForm.MatchString(line + "\n")
		if ok != want || !want && got != nil {
			t.Errorf("Split(%q) = %q, %v, want %v", line, got, ok, want)
		}
		if want && (!slices.Equal(got, strings.Fields(line)) || Join(got...) != line) {
			t.Errorf("Split(%q) = %q", line, got)
		}
	}
}

// P6.1: any many words, whatever they are, have a blank between each two.
func TestJoinTakesWhateverThereIs(t *testing.T) {
	rows := []struct {
		words []string
		want  string
	}{
		{nil, ""}, {[]string{}, ""}, {[]string{""}, ""}, {[]string{"a"}, "a"}, {[]string{"a", "b"}, "a b"}, {[]string{"a", "b", "c"}, "a b c"},
		{[]string{"", ""}, " "}, {[]string{"", "a", ""}, " a "}, {[]string{" ", " "}, "   "}, {[]string{"a b", "\n"}, "a b \n"}, {[]string{"\x00\xff", "ü"}, "\x00\xff ü"},
	}
	for _, row := range rows {
		if got := Join(row.words...); got != row.want {
			t.Errorf("Join(%q) = %q, want %q", row.words, got, row.want)
		}
	}
}

// P6.2: the lines' words.
func TestReadOfTexts(t *testing.T) {
	rows := []struct {
		text string
		want [][]string
	}{
		{"", nil}, {"a\n", [][]string{{"a"}}}, {"a b\n", [][]string{{"a", "b"}}}, {"a\nb\n", [][]string{{"a"}, {"b"}}},
		{"quantum 5\nspawn\n", [][]string{{"quantum", "5"}, {"spawn"}}}, {"a b c\n~\na b\n", [][]string{{"a", "b", "c"}, {"~"}, {"a", "b"}}},
	}
	for _, row := range rows {
		if got, number, err := Read(row.text); !same(got, row.want) || number != 0 || err != api.OK {
			t.Errorf("Read(%q) = %q, %d, %v, want %q", row.text, got, number, err, row.want)
		}
	}
}

// P6.2: the number of the first line that is none.
func TestReadTellsTheFirstWrongLine(t *testing.T) {
	rows := []struct {
		text string
		want int
	}{
		{"a", 1}, {" ", 1}, {"\n", 1}, {"\n\n", 1}, {"\na\n", 1}, {"a\n\n", 2}, {"a\n\nb\n", 2}, {"a\nb", 2}, {"a\nb c", 2}, {"a\nb\nc", 3}, {"a\nb\n\n", 3},
		{"a \n", 1}, {" a\n", 1}, {"a  b\n", 1}, {"a\n b\n", 2}, {"a\nb \nc", 2}, {"a\n\nc", 2}, {"a\r\n", 1}, {"a\r\nb\n", 1}, {"a\nb\tc\n", 2}, {"ü\n", 1},
		{"a\n\x7f\n", 2}, {"a\n\x00", 2}, {"\x80", 1}, {"a\n ", 2}, {strings.Repeat("a\n", 999) + "a", 1000}, {strings.Repeat("a\n", 999) + "\n" + "a", 1000},
	}
	for _, row := range rows {
		if got, number, err := Read(row.text); got != nil || number != row.want || err != api.ErrForm {
			t.Errorf("Read(%.20q) = %q, %d, %v, want the number %d", row.text, got, number, err, row.want)
		}
	}
}

// P6.2: a text has at most 2^16 bytes, and this is looked at ahead of its lines.
func TestReadAtTheMostBytes(t *testing.T) {
	for _, size := range []int{2, api.MaxText - 1, api.MaxText} {
		text := full(size)
		l, number, err := Read(text)
		if len(text) != size || len(l) != strings.Count(text, "\n") || number != 0 || err != api.OK {
			t.Errorf("%d bytes: %d lines, %d, %v", size, len(l), number, err)
		}
	}
	word := strings.Repeat("w", api.MaxText-1)
	if l, number, err := Read(word + "\n"); len(l) != 1 || l[0][0] != word || number != 0 || err != api.OK {
		t.Errorf("one long word: %d lines, %d, %v", len(l), number, err)
	}
	if l, number, err := Read(word + "w"); l != nil || number != 1 || err != api.ErrForm {
		t.Errorf("one long word without a line feed: %d lines, %d, %v", len(l), number, err)
	}
	if l, number, err := Read(strings.Repeat("\n", api.MaxText)); l != nil || number != 1 || err != api.ErrForm {
		t.Errorf("line feeds: %d lines, %d, %v", len(l), number, err)
	}
	for _, text := range []string{
		full(api.MaxText + 1), word + "w\n", word + "ww", strings.Repeat("\n", api.MaxText+1), strings.Repeat("\x00", api.MaxText+1), strings.Repeat("a\n", 1<<20),
	} {
		if l, number, err := Read(text); l != nil || number != 0 || err != api.ErrMany {
			t.Errorf("%d bytes of %.5q: %d lines, %d, %v", len(text), text, len(l), number, err)
		}
	}
}

// P6.2: the text of lines.
func TestWriteOfLines(t *testing.T) {
	rows := []struct {
		l    [][]string
		want string
	}{
		{nil, ""}, {[][]string{}, ""}, {[][]string{{"a"}}, "a\n"}, {[][]string{{"a", "b"}}, "a b\n"}, {[][]string{{"a"}, {"b", "c"}}, "a\nb c\n"},
		{[][]string{{"quantum", "5"}, {"spawn"}}, "quantum 5\nspawn\n"}, {[][]string{{"!", "~"}}, "! ~\n"},
	}
	for _, row := range rows {
		if got, err := Write(row.l); got != row.want || err != api.OK {
			t.Errorf("Write(%q) = %q, %v, want %q", row.l, got, err, row.want)
		}
	}
}

// P6.2: what is no list of one word or more is not written.
func TestWriteOfNoLines(t *testing.T) {
	wrong := [][]string{
		nil, {}, {""}, {" "}, {"a", ""}, {"", "a"}, {"a b"}, {"a", "b c"}, {"a\n"}, {"\n"}, {"a", "\n"}, {"ü"}, {"a\tb"}, {"\x7f"}, {"a", "b", "\x1f"}, {"\x80"},
	}
	for _, words := range wrong {
		for _, l := range [][][]string{{words}, {{"a"}, words}, {words, {"a"}}, {{"a"}, words, {"b"}}, {words, words}} {
			if got, err := Write(l); got != "" || err != api.ErrForm {
				t.Errorf("Write(%q) = %q, %v", l, got, err)
			}
		}
	}
}

// P6.2: a text has at most 2^16 bytes, and this is looked at behind what is no line.
func TestWriteAtTheMostBytes(t *testing.T) {
	word := func(size int) string { return strings.Repeat("w", size) }
	ones := slices.Repeat([][]string{{"1"}}, api.MaxText/2)
	rows := []struct {
		l    [][]string
		want api.Errno
	}{
		{[][]string{{word(api.MaxText - 1)}}, api.OK}, {[][]string{{word(api.MaxText)}}, api.ErrMany}, {[][]string{{word(api.MaxText + 1)}}, api.ErrMany},
		{[][]string{{"a", word(api.MaxText - 3)}}, api.OK}, {[][]string{{"a", word(api.MaxText - 2)}}, api.ErrMany},
		{[][]string{{"a"}, {word(api.MaxText - 3)}}, api.OK}, {[][]string{{"a"}, {word(api.MaxText - 2)}}, api.ErrMany},
		{ones, api.OK}, {append(slices.Clone(ones), []string{"1"}), api.ErrMany},
		{[][]string{{word(api.MaxText + 1)}, {}}, api.ErrForm}, {[][]string{{word(api.MaxText + 1)}, {"a", ""}}, api.ErrForm},
		{append(slices.Clone(ones), []string{"1"}, nil), api.ErrForm}, {[][]string{{word(1 << 20), " "}}, api.ErrForm},
	}
	for i, row := range rows {
		got, err := Write(row.l)
		if err != row.want || err != api.OK && got != "" {
			t.Errorf("row %d: %d bytes, %v, want %v", i, len(got), err, row.want)
		}
		if err == api.OK && len(got) != api.MaxText {
			t.Errorf("row %d: %d bytes", i, len(got))
		}
	}
}

// randomLines are lines of any words, few enough to be written.
func randomLines(source *rand.Rand) [][]string {
	l := make([][]string, source.Intn(30))
	for i := range l {
		l[i] = make([]string, 1+source.Intn(8))
		for j := range l[i] {
			word := make([]byte, 1+source.Intn(20))
			for k := range word {
				word[k] = byte(33 + source.Intn(94))
			}
			l[i][j] = string(word)
		}
	}
	return l
}

// P6.3: what was written is read.
func TestWhatWasWrittenIsRead(t *testing.T) {
	source := rand.New(rand.NewSource(63))
	for range 2000 {
		l := randomLines(source)
		text, err := Write(l)
		if err != api.OK {
			t.Fatalf("Write(%q) = %v", l, err)
		}
		if got, number, err := Read(text); !same(got, l) || number != 0 || err != api.OK {
			t.Fatalf("%q is read as %q, %d, %v", l, got, number, err)
		}
	}
}

// checkRead tells whether a text is read as another reckoner does, and, if it is read, written as it stood.
func checkRead(t *testing.T, text string) {
	t.Helper()
	wrong := 0
	for i, line := range strings.SplitAfter(text, "\n") {
		if line != "" && wrong == 0 && !lineForm.MatchString(line) {
			wrong = i + 1
		}
	}
	l, number, err := Read(text)
	if number != wrong || (err == api.OK) != (wrong == 0) || wrong > 0 && (err != api.ErrForm || l != nil) {
		t.Errorf("Read(%q) = %q, %d, %v, want the number %d", text, l, number, err, wrong)
	}
	if wrong > 0 {
		return
	}
	if again, err := Write(l); again != text || err != api.OK {
		t.Errorf("%q is written as %q, %v", text, again, err)
	}
}

// P6.2, P6.3: all short texts, and others with one byte changed: what is read is written as it stood.
func TestWhatIsReadIsWrittenAsItStood(t *testing.T) {
	for _, text := range shortTexts([]string{"a", "~", " ", "\n", "\r", "\x7f"}, 6) {
		checkRead(t, text)
	}
	source := rand.New(rand.NewSource(631))
	for range 3000 {
		text, _ := Write(randomLines(source))
		if text == "" {
			continue
		}
		changed := []byte(text)
		changed[source.Intn(len(changed))] = []byte{'a', ' ', '\n', 0, 127, 255}[source.Intn(6)]
		checkRead(t, text)
		checkRead(t, string(changed))
		checkRead(t, text[:source.Intn(len(text))])
	}
}

// P6.1 to P6.3: what is answered is new memory, and what was handed in stays as it was (R5).
func TestAnswersAreNewMemory(t *testing.T) {
	line, text := "a b c", "a b\nc d\ne\n"
	words, _ := Split(line)
	l, _, _ := Read(text)
	for i := range l {
		_ = append(l[i], "x", "y")
		clear(l[i][1:])
		l[i][0] = "z"
	}
	clear(words)
	if again, _ := Split(line); !slices.Equal(again, []string{"a", "b", "c"}) {
		t.Errorf("Split(%q) = %q", line, again)
	}
	if again, _, _ := Read(text); !same(again, [][]string{{"a", "b"}, {"c", "d"}, {"e"}}) || !same(l, [][]string{{"z", ""}, {"z", ""}, {"z"}}) {
		t.Errorf("read again %q, and what was written into is %q", again, l)
	}
	handed := [][]string{{"p", "q"}, {"r"}}
	written, _ := Write(handed)
	joined := Join(handed[0]...)
	if !same(handed, [][]string{{"p", "q"}, {"r"}}) {
		t.Errorf("what was handed in is %q", handed)
	}
	handed[0][0], handed[1] = "x", nil
	if written != "p q\nr\n" || joined != "p q" {
		t.Errorf("answers are %q, %q", written, joined)
	}
}
