package lex_test

import (
	"bytes"
	"math/rand"
	"regexp"
	"slices"
	"strconv"
	"strings"
	"testing"
	"unsafe"

	"suffragan/api"
	"suffragan/lex"
)

// name, number, sign, end: tokens, as short forms.
func name(s string, at int) api.Token   { return api.Token{K: 0, S: s, At: at} }
func number(s string, at int) api.Token { return api.Token{K: 1, S: s, At: at} }
func sign(s string, at int) api.Token   { return api.Token{K: 2, S: s, At: at} }
func end(at int) api.Token              { return api.Token{K: 3, At: at} }

// sorts of bytes, written out.
const (
	letters = "abcdefghijklmnopqrstuvwxyz"
	digits  = "0123456789"
	inside  = letters + digits + "_"
	signs   = "()[]{}<>|:;,?"
	blanks  = " \t\n\r"
)

// each goes through all bytes, as texts.
func each(look func(c string)) {
	for i := range 256 {
		look(string([]byte{byte(i)}))
	}
}

// answer: what Words answers.
type answer struct {
	words []api.Token
	place int
	e     api.Errno
}

// words calls Words, and holds that tokens come with OK alone, and not without it.
func words(t *testing.T, s string) answer {
	t.Helper()
	l, place, e := lex.Words(s)
	if (e == api.OK) != (len(l) > 0) || e == api.OK && place != 0 {
		t.Errorf("Words(%.60q): %d tokens, %d, %d", s, len(l), place, e)
	}
	return answer{l, place, e}
}

// expect holds what Words(s) answers against what is wanted.
func expect(t *testing.T, s string, want answer) {
	t.Helper()
	got := words(t, s)
	if !slices.Equal(got.words, want.words) || got.place != want.place || got.e != want.e {
		t.Errorf("Words(%.60q) = %.9v, %d, %d, not %.9v, %d, %d", s, got.words, got.place, got.e, want.words, want.place, want.e)
	}
}

// fine: an answer of tokens.
func fine(l ...api.Token) answer { return answer{words: l} }

// refused: an answer of none.
func refused(place int, e api.Errno) answer { return answer{nil, place, e} }

// What begins a text: passed over, a token, or another byte.
var (
	passed = regexp.MustCompile("^(?:[ \t\n\r]|#[^\n]*)*")
	token  = regexp.MustCompile("^(?:([a-z][a-z0-9_]*)|([0-9]+)|([][(){}<>|:;,?]))")
)

// wanted: what Words should answer, worked out by patterns. (Patterns read bytes that are no UTF-8 as one rune of one byte.)
func wanted(s string) answer {
	if len(s) > 4096 {
		return refused(0, api.ErrLong)
	}
	var l []api.Token
	at := 0
	for {
		at += len(passed.FindString(s[at:]))
		m := token.FindStringSubmatch(s[at:])
		if m == nil && at < len(s) {
			return refused(at, api.ErrForm)
		}
		if len(l) == 1500 {
			return refused(4096, api.ErrLong)
		}
		if m == nil {
			return fine(append(l, end(at))...)
		}
		k := slices.IndexFunc(m[1:], func(s string) bool { return s != "" })
		l = append(l, api.Token{K: k, S: m[0], At: at})
		at += len(m[0])
	}
}

// texts: such as have tokens.
func texts() []string {
	return []string{
		"", " ", "\n", "#", "# x", "#\n", "a:int;", "int", "0", "()[]{}<>|:;,?",
		" [ int ] # x", "record p{a?:(null|p);}", "record p { a ? : ( null | p ) ; }\r\n",
		"enum e<x,y,z>", "fixed f 16", "# one\n# two\n\tint # three\n", "#a\r#b\n#c\n\r\n d", "a#b\nc#d\ne",
		"0123abc", "a0_b__9", "007", "99999999999999999999999999", "x1 2y", "int#", "a # b # c\n# \xff\x00 é\n: 4",
		strings.Repeat("z", 100), strings.Repeat("[", 99) + "int" + strings.Repeat("]", 99),
	}
}

// some: a text by chance, of pieces that come to tokens often.
func some(r *rand.Rand, most int) string {
	pieces := []string{"a", "int", "x_1", "_", "0", "12", "007", " ", "  ", "\t", "\n", "\r", "\r\n", "#", "# x", "# (y\n", "null", "z9", "("}
	var b strings.Builder
	for range r.Intn(most) {
		switch r.Intn(4) {
		case 0:
			b.WriteByte(signs[r.Intn(len(signs))])
		default:
			b.WriteString(pieces[r.Intn(len(pieces))])
		}
		if r.Intn(90) == 0 {
			b.WriteByte(byte(r.Intn(256)))
		}
	}
	return b.String()
}

func TestExample(t *testing.T) { // the chapter's example
	expect(t, "a:int;", fine(name("a", 0), sign(":", 1), name("int", 2), sign(";", 5), end(6)))
}

func TestConstants(t *testing.T) { // P6.1: the numbers that this file writes out are those of api
	if api.TokName != 0 || api.TokNumber != 1 || api.TokSign != 2 || api.TokEnd != 3 || api.MaxText != 4096 || api.MaxTokens != 1500 || api.MaxName != 40 || api.MaxSize != 4096 {
		t.Error("package api has other numbers")
	}
}

func TestWords(t *testing.T) { // P6.1
	for _, x := range []struct {
		s    string
		want answer
	}{
		{"", fine(end(0))},
		{" \t\n\r", fine(end(4))},
		{"int", fine(name("int", 0), end(3))},
		{"x", fine(name("x", 0), end(1))},
		{"0", fine(number("0", 0), end(1))},
		{"?", fine(sign("?", 0), end(1))},
		{"a_b0_", fine(name("a_b0_", 0), end(5))},
		{"a__9 b", fine(name("a__9", 0), name("b", 5), end(6))},
		{"007", fine(number("007", 0), end(3))}, // noughts ahead are Number's business
		{"12ab", fine(number("12", 0), name("ab", 2), end(4))},
		{"ab12", fine(name("ab12", 0), end(4))},
		{"1 2", fine(number("1", 0), number("2", 2), end(3))},
		{"((", fine(sign("(", 0), sign("(", 1), end(2))},
		{"a?:(null|b);", fine(name("a", 0), sign("?", 1), sign(":", 2), sign("(", 3), name("null", 4), sign("|", 8), name("b", 9), sign(")", 10), sign(";", 11), end(12))},
		{"enum e < x , y >\n", fine(name("enum", 0), name("e", 5), sign("<", 7), name("x", 9), sign(",", 11), name("y", 13), sign(">", 15), end(17))},
		{"\tfixed  f\r\n16 ", fine(name("fixed", 1), name("f", 8), number("16", 11), end(14))},
		{"[{}]", fine(sign("[", 0), sign("{", 1), sign("}", 2), sign("]", 3), end(4))},
	} {
		expect(t, x.s, x.want)
	}
}

func TestRemarks(t *testing.T) { // P6.1: up to the end of its line, whatever stands in it
	for _, x := range []struct {
		s    string
		want answer
	}{
		{"#", fine(end(1))},
		{"# x", fine(end(3))},
		{"#x\n", fine(end(3))},
		{"#\na", fine(name("a", 2), end(3))},
		{"a#b\nc", fine(name("a", 0), name("c", 4), end(5))},
		{"1#2\n3", fine(number("1", 0), number("3", 4), end(5))},
		{" [ int ] # x", fine(sign("[", 1), name("int", 3), sign("]", 7), end(12))},
		{"# a # b\nc", fine(name("c", 8), end(9))},
		{"##\n##\n#", fine(end(7))},
		{"#a\rb\nc", fine(name("c", 5), end(6))}, // a carriage return ends no line
		{"#a\r\nb", fine(name("b", 4), end(5))},
		{"#\n#\n\n #\n\t:", fine(sign(":", 9), end(10))},
		{"# A!\"$%&'*+-./=@\\^`~_ \x00\x7f\x80\xff\v\f é \u2028\nx", fine(name("x", 36), end(37))},
		{"#\n!", refused(2, api.ErrForm)},
	} {
		expect(t, x.s, x.want)
	}
	each(func(c string) {
		if c != "\n" {
			expect(t, "a#"+c+"!\nb", fine(name("a", 0), name("b", 5), end(6)))
			expect(t, "#"+c, fine(end(2)))
		}
	})
}

func TestEachByte(t *testing.T) { // P6.1: at the beginning, and behind each kind of token
	each(func(c string) {
		switch {
		case strings.Contains(letters, c):
			expect(t, c, fine(name(c, 0), end(1)))
			expect(t, "1"+c, fine(number("1", 0), name(c, 1), end(2)))
			expect(t, ":"+c, fine(sign(":", 0), name(c, 1), end(2)))
		case strings.Contains(digits, c):
			expect(t, c, fine(number(c, 0), end(1)))
			expect(t, "1"+c, fine(number("1"+c, 0), end(2)))
			expect(t, ":"+c, fine(sign(":", 0), number(c, 1), end(2)))
		case strings.Contains(signs, c):
			expect(t, c, fine(sign(c, 0), end(1)))
			expect(t, "1"+c, fine(number("1", 0), sign(c, 1), end(2)))
			expect(t, ":"+c, fine(sign(":", 0), sign(c, 1), end(2)))
			expect(t, "a"+c+"b", fine(name("a", 0), sign(c, 1), name("b", 2), end(3)))
		case strings.Contains(blanks, c) || c == "#":
			expect(t, c, fine(end(1)))
			expect(t, "1"+c, fine(number("1", 0), end(2)))
			expect(t, ":"+c, fine(sign(":", 0), end(2)))
			expect(t, "a"+c+"\nb", fine(name("a", 0), name("b", 3), end(4)))
		default:
			expect(t, c, refused(0, api.ErrForm))
			expect(t, "1"+c, refused(1, api.ErrForm))
			expect(t, ":"+c+"a", refused(1, api.ErrForm))
			expect(t, " \n#\n"+c, refused(4, api.ErrForm))
		}
		if strings.Contains(inside, c) {
			expect(t, "a"+c+"b", fine(name("a"+c+"b", 0), end(3)))
		} else if !strings.Contains(signs+blanks+"#", c) {
			expect(t, "a"+c+"b", refused(1, api.ErrForm))
		}
	})
}

func TestFirstWrongByte(t *testing.T) { // P6.1: its place, not that of a later one
	for _, x := range []struct {
		s  string
		at int
	}{
		{"!", 0}, {"_", 0}, {"_a", 0}, {"A", 0}, {"aB", 1}, {"int!", 3}, {"int !", 4}, {"-1", 0}, {"1.5", 1}, {"1_0", 1},
		{"a.b", 1}, {"a-b", 1}, {"\"a\"", 0}, {"a:int;.", 6}, {"! ! !", 0}, {"a ! b @", 2}, {"#!\n!\n!", 3},
		{"é", 0}, {"aé", 1}, {"a \u00a0b", 2}, {"a\vb", 1}, {"a\fb", 1}, {"\x00", 0}, {"a\x00", 1}, {"\xff\xfe", 0},
		{"١", 0}, {"ａ", 0}, {"a/b", 1}, {"a\\", 1}, {"a=b", 1}, {"\ufeffint", 0}, {"\u0085", 0}, {"a\u2028b", 1},
		{strings.Repeat("a", 4095) + "!", 4095}, {strings.Repeat(" ", 4095) + "_", 4095},
	} {
		expect(t, x.s, refused(x.at, api.ErrForm))
	}
}

func TestTooLong(t *testing.T) { // P6.1: MaxText itself is allowed; more is told ahead of all else
	for _, n := range []int{4095, 4096} {
		a, one := strings.Repeat("a", n), strings.Repeat("1", n)
		expect(t, a, fine(name(a, 0), end(n)))
		expect(t, one, fine(number(one, 0), end(n)))
		expect(t, strings.Repeat(" ", n), fine(end(n)))
		expect(t, strings.Repeat("#", n), fine(end(n)))
		expect(t, strings.Repeat("\n", n-1)+"(", fine(sign("(", n-1), end(n)))
	}
	for _, n := range []int{4097, 4098, 8192, 65536, 1 << 20} {
		for _, c := range []string{"a", "1", "(", " ", "\n", "#", "!", "\x00", "\xff"} {
			expect(t, strings.Repeat(c, n), refused(0, api.ErrLong))
		}
		expect(t, "!"+strings.Repeat(" ", n-1), refused(0, api.ErrLong))
		expect(t, strings.Repeat(" ", n-1)+"!", refused(0, api.ErrLong))
	}
}

func TestTooMany(t *testing.T) { // P6.1: the end counts
	for _, one := range []string{"(", "a ", "1\n", ":#x\n"} {
		for _, n := range []int{1, 1023, 1024} {
			if got := words(t, strings.Repeat(one, n)); len(got.words) != n+1 {
				t.Errorf("%d times %q: %d tokens", n, one, len(got.words))
			}
		}
	}
	for _, one := range []string{"(", "a ", "1\n", "<\t"} {
		got := words(t, strings.Repeat(one, 1499))
		if len(got.words) != 1500 || got.words[1499] != end(1499*len(one)) || got.words[1498].At != 1498*len(one) {
			t.Errorf("1499 times %q: %d tokens, %d, %d", one, len(got.words), got.place, got.e)
		}
		for _, behind := range []string{"", " ", "# x", "(", "\n\n", "#", " a b c 1 2 3"} {
			expect(t, strings.Repeat(one, 1500)+behind, refused(4096, api.ErrLong))
		}
	}
	for _, n := range []int{1501, 1502, 2000, 4095, 4096} {
		expect(t, strings.Repeat("(", n), refused(4096, api.ErrLong))
	}
}

func TestTooManyOrWrong(t *testing.T) { // P6.1: what begins none, if it stands ahead of the first one too many
	for _, x := range []struct {
		tokens int
		behind string
		want   answer
	}{
		{1499, "!", refused(1499, api.ErrForm)},
		{1499, "!((((", refused(1499, api.ErrForm)},
		{1500, "!", refused(1500, api.ErrForm)}, // the first one too many would be behind it
		{1500, " !", refused(1501, api.ErrForm)},
		{1500, "#\n_((", refused(1502, api.ErrForm)},
		{1500, "(!", refused(4096, api.ErrLong)},
		{1500, "a!", refused(4096, api.ErrLong)},
		{1500, "1 !", refused(4096, api.ErrLong)},
		{1501, "!", refused(4096, api.ErrLong)},
		{1502, "!", refused(4096, api.ErrLong)},
		{4095, "!", refused(4096, api.ErrLong)},
	} {
		expect(t, strings.Repeat("(", x.tokens)+x.behind, x.want)
		if x.tokens < 4095 {
			want := x.want
			if want.e == api.ErrForm {
				want.place++
			}
			expect(t, "\n"+strings.Repeat("(", x.tokens)+x.behind, want)
		}
	}
	for _, at := range []int{0, 1, 700, 1499} {
		expect(t, strings.Repeat("(", at)+"!"+strings.Repeat("(", 2000), refused(at, api.ErrForm))
	}
}

func TestAsPatternsTellIt(t *testing.T) { // P6.1 of many texts, by another way
	for _, s := range texts() {
		expect(t, s, wanted(s))
	}
	r := rand.New(rand.NewSource(1))
	kinds := map[api.Errno]int{}
	for i := range 20000 {
		s := some(r, []int{4, 12, 40}[i%3])
		if i%40 == 0 {
			s = some(r, 4000)
		}
		want := wanted(s)
		kinds[want.e]++
		expect(t, s, want)
	}
	for range 20000 {
		b := make([]byte, r.Intn(5))
		r.Read(b)
		expect(t, string(b), wanted(string(b)))
	}
	if kinds[api.OK] < 2000 || kinds[api.ErrForm] < 2000 || kinds[api.ErrLong] < 20 {
		t.Errorf("too few texts of a kind: %v", kinds)
	}
}

func TestInOrder(t *testing.T) { // P6.3
	r := rand.New(rand.NewSource(2))
	l := texts()
	for range 4000 {
		l = append(l, some(r, 60))
	}
	for _, s := range l {
		got := words(t, s)
		behind := 0
		for i, w := range got.words {
			if w.At < behind || i > 0 && w.At <= got.words[i-1].At || w.At+len(w.S) > len(s) || s[w.At:w.At+len(w.S)] != w.S {
				t.Fatalf("Words(%q): %v is not in its place", s, w)
			}
			if last := i == len(got.words)-1; (w.K == api.TokEnd) != last || (w.S == "") != last || last && w.At != len(s) {
				t.Fatalf("Words(%q): %v, the end?", s, w)
			}
			if gap := s[behind:w.At]; passed.FindString(gap) != gap {
				t.Fatalf("Words(%q): %q is passed over", s, gap)
			}
			behind = w.At + len(w.S)
		}
	}
}

func TestLineFeeds(t *testing.T) { // P6.4: ahead of each token, the end among them
	r := rand.New(rand.NewSource(3))
	l := texts()
	for len(l) < 600 {
		if s := some(r, 40); wanted(s).e == api.OK {
			l = append(l, s)
		}
	}
	for _, s := range l {
		was := words(t, s).words
		for i, w := range was {
			want := slices.Clone(was)
			for j := i; j < len(want); j++ {
				want[j].At++
			}
			expect(t, s[:w.At]+"\n"+s[w.At:], fine(want...))
		}
	}
}

func TestName(t *testing.T) { // P6.2
	forty := "a" + strings.Repeat("_9z", 13)
	for _, s := range []string{"a", "z", "a0", "a_", "abc_def_123", "null", "record", "x__", forty, strings.Repeat("n", 39), strings.Repeat("n", 40)} {
		if !lex.Name(s) {
			t.Errorf("Name(%q) is false", s)
		}
	}
	for _, s := range []string{"", " ", "_", "_a", "0", "0a", "9", "A", "aB", "a b", " a", "a ", "a\n", "\na", "a-b", "a.b", "a:", "?", "a#", "#a", "é", "aé", "a\x00", "\x00", "a\xff",
		forty + "a", forty + "_", strings.Repeat("n", 41), strings.Repeat("n", 80), strings.Repeat("n", 4096), strings.Repeat("n", 5000), strings.Repeat("n", 1<<20)} {
		if lex.Name(s) {
			t.Errorf("Name(%.60q) is true", s)
		}
	}
	each(func(c string) {
		first, next := strings.Contains(letters, c), strings.Contains(inside, c)
		if lex.Name(c) != first || lex.Name(c+"a") != first || lex.Name("a"+c) != next || lex.Name("ab"+c+"d") != next || lex.Name(forty[:39]+c) != next {
			t.Errorf("Name with %q", c)
		}
		if lex.Name(forty + c) {
			t.Errorf("Name of 41 bytes, the last one %q", c)
		}
	})
}

func TestNumber(t *testing.T) { // P6.2
	for n := range 20000 {
		s := strconv.Itoa(n)
		want, fits := n, n <= 4096
		if !fits {
			want = 0
		}
		if got, ok := lex.Number(s); got != want || ok != fits {
			t.Errorf("Number(%q) = %d, %t", s, got, ok)
		}
		if got, ok := lex.Number("0" + s); got != 0 || ok {
			t.Errorf("Number(0%s) = %d, %t", s, got, ok)
		}
	}
	for _, s := range []string{"", "00", "000", "01", "0000000000000001", "04096", "4097", "4100", "5000", "40960", "40961", "10000", "99999",
		"2147483648", "4294967296", "4294967297", "4294971392", "9223372036854775807", "9223372036854775808", "18446744073709551615", "18446744073709551616", "18446744073709551617", "18446744073709555712",
		"340282366920938463463374607431768211457", strings.Repeat("9", 4096), "1" + strings.Repeat("0", 1<<20), strings.Repeat("0", 1<<20),
		"+1", "-1", "-0", " 1", "1 ", "1\n", "1_000", "1,0", "1.0", "1e3", "0x10", "0b1", "0o7", "a", "1a", "a1", "12a4", "١", "１", "1\x00", "\x00", "\xff", "/", ":", "4/", "4:"} {
		if n, ok := lex.Number(s); n != 0 || ok {
			t.Errorf("Number(%.60q) = %d, %t", s, n, ok)
		}
	}
	each(func(c string) {
		_, ok := lex.Number(c)
		_, ahead := lex.Number(c + "2")
		_, behind := lex.Number("1" + c)
		_, between := lex.Number("1" + c + "2")
		if is := strings.Contains(digits, c); ok != is || ahead != (is && c != "0") || behind != is || between != is {
			t.Errorf("Number with %q: %t, %t, %t, %t", c, ok, ahead, behind, between)
		}
	})
}

func TestTokensAndTheirForms(t *testing.T) { // P6.2: a name "as above", whole; a number's digits
	r := rand.New(rand.NewSource(4))
	for range 20000 {
		s := some(r, 4)
		got := words(t, s)
		one := got.e == api.OK && len(got.words) == 2 && got.words[0].S == s
		if is := one && got.words[0].K == api.TokName; lex.Name(s) != is {
			t.Errorf("Name(%q) = %t, Words has %v", s, !is, got.words)
		}
		if _, ok := lex.Number(s); ok && !(one && got.words[0].K == api.TokNumber) {
			t.Errorf("Number(%q), Words has %v", s, got.words)
		}
	}
}

func TestMemory(t *testing.T) { // DOC.md, Memory: what is handed in is not kept; each answer is new
	for _, s := range texts() {
		b := append([]byte(s), "spare"...)
		was := slices.Clone(b)
		first := words(t, unsafe.String(&b[0], len(s))).words
		second := words(t, s).words
		if !bytes.Equal(b, was) {
			t.Errorf("of %q: the argument was changed", s)
		}
		clear(b)
		if !slices.Equal(first, second) {
			t.Errorf("of %q: an answer shares memory with its argument", s)
		}
		clear(first[:cap(first)])
		if third := words(t, s).words; !slices.Equal(second, third) || !slices.Equal(second, wanted(s).words) {
			t.Errorf("of %q: an answer shares memory with another one", s)
		}
	}
}

func FuzzWords(f *testing.F) { // P6.1 to P6.4 of whatever bytes
	for _, s := range texts() {
		f.Add(s)
	}
	for _, s := range []string{"!", "a\x00", strings.Repeat("(", 1500) + "!", strings.Repeat("a ", 2049)} {
		f.Add(s)
	}
	plainName := regexp.MustCompile(`\A[a-z][a-z0-9_]{0,39}\z`)
	plainNumber := regexp.MustCompile(`\A(0|[1-9][0-9]{0,3})\z`)
	f.Fuzz(func(t *testing.T, s string) {
		expect(t, s, wanted(s))
		if is := plainName.MatchString(s); lex.Name(s) != is {
			t.Errorf("Name(%q) = %t", s, !is)
		}
		want, is := 0, plainNumber.MatchString(s)
		if is {
			want, _ = strconv.Atoi(s)
		}
		if is = is && want <= 4096; !is {
			want = 0
		}
		if n, ok := lex.Number(s); n != want || ok != is {
			t.Errorf("Number(%q) = %d, %t", s, n, ok)
		}
	})
}
