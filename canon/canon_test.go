package canon_test

import (
	"bytes"
	"crypto/sha256"
	"encoding/hex"
	"fmt"
	"math/rand"
	"slices"
	"strconv"
	"strings"
	"testing"
	"unsafe"

	"suffragan/api"
	"suffragan/canon"
	"suffragan/parse"
)

// sum: SHA-256, by the library.
func sum(s string) api.Sum { return sha256.Sum256([]byte(s)) }

// sumOf: the sum whose digits these are.
func sumOf(t *testing.T, digits string) (s api.Sum) {
	t.Helper()
	if n, e := hex.Decode(s[:], []byte(digits)); n != len(s) || e != nil {
		t.Fatalf("%q is no sum", digits)
	}
	return s
}

// told writes a schema out whole; of lists nil and empty are told alike.
func told(o api.Schema) string {
	var b strings.Builder
	for i, x := range o.Nodes {
		fmt.Fprintf(&b, "%d: kind %d, %q, size %d, %q, %d, %+v\n", i, x.K, x.Name, x.Size, x.Syms, x.Items, x.Fields)
	}
	return b.String()
}

// expect holds all that canon says of s alone: of a text of that one form; of the empty form, of one that parse.Parse refuses.
func expect(t *testing.T, s, form string) {
	t.Helper()
	o, place, e := parse.Parse(s)
	if (e == api.OK) != (form != "") {
		t.Fatalf("Parse(%.90q) = %d, %d, but the form should be %.90q", s, place, e, form)
	}
	if text, at, err := canon.Text(s); text != form || at != place || err != e {
		t.Errorf("Text(%.90q) = %.90q, %d, %d, not %.90q, %d, %d", s, text, at, err, form, place, e)
	}
	one := form != "" && s == form
	if got := canon.Is(s); got != one {
		t.Errorf("Is(%.90q) is %t", s, got)
	}
	if !one {
		o = api.Schema{}
	}
	if got, ok := canon.Schema(s); ok != one || told(got) != told(o) {
		t.Errorf("Schema(%.90q) =\n%.300s %t, not\n%.300s %t", s, told(got), ok, told(o), one)
	}
	expectPrint(t, s, form)
}

// expectPrint holds Print and Short of s, of that one form.
func expectPrint(t *testing.T, s, form string) {
	t.Helper()
	var want api.Sum
	short := ""
	if form != "" {
		want = sum(form)
		short = hex.EncodeToString(want[:4])
	}
	if got, ok := canon.Print(s); got != want || ok != (form != "") {
		t.Errorf("Print(%.90q) = %x, %t, not %x", s, got, ok, want)
	}
	if got := canon.Short(s); got != short {
		t.Errorf("Short(%.90q) = %q, not %q", s, got, short)
	}
}

// forms: texts that are their own one form.
func forms() []string {
	name := "n" + strings.Repeat("_9z", 13) // as long as one may be
	return []string{
		"null", "bool", "int", "long", "bytes", "text", "[int]", "{text}", "(null)", "(null|int)", "([int]|{int}|null)", "[{(null|text)}]",
		"enum e<x>", "enum e<x,y,z>", "enum e<z,e,a>", "fixed f 0", "fixed f 16", "fixed f 4096", "fixed f16 16",
		"record r{}", "record r{a:int;}", "record r{a?:int;}", "record r{b:int;a?:text;}", "record r{r:r;}", "record p{a?:(null|p);}",
		"record p{a?:(null|p);b:[int];c:enum e<x>;d:e;}", "record p{a:fixed f 3;b:{f};c?:record s{a:p;b:s;};}", "(enum e<x>|fixed f 1|record r{})",
		"enum " + name + "<" + name + ">", "fixed " + name + " 1", "record " + name + "{" + name + "?:" + name + ";}",
		"enum enums<records,fixed_,int2>", "[fixed a 1]", "(fixed a 1|enum b<x>|record c{})", "record r{a:fixed a 1;b:enum b<x>;c:record c{};}",
		strings.Repeat("[", 19) + "int" + strings.Repeat("]", 19), fields(373, 3), long(4096), many(199),
	}
}

// fields: a record with n fields of itself, of which those below q have a default; it has 5 + 4n + q tokens, the end among them.
func fields(n, q int) string {
	var b strings.Builder
	b.WriteString("record r{")
	for i := range n {
		b.WriteString("f" + strconv.FormatInt(int64(i), 36))
		if i < q {
			b.WriteByte('?')
		}
		b.WriteString(":r;")
	}
	return b.String() + "}"
}

// many: a record with n fields of int.
func many(n int) string {
	s := "record r{"
	for i := range n {
		s += fmt.Sprintf("f%d:int;", i)
	}
	return s + "}"
}

// long: an enum whose text has n bytes.
func long(n int) string {
	s := "enum e<"
	for i := 0; n-len(s) > 80; i++ {
		s += fmt.Sprintf("s%037d,", i)
	}
	rest := n - len(s) - len("t,u>")
	return s + "t" + strings.Repeat("_", rest/2) + ",u" + strings.Repeat("_", rest-rest/2) + ">"
}

// words cuts a one form into its tokens.
func words(s string) []string {
	var l []string
	inside := func(c byte) bool { return c == '_' || c >= '0' && c <= '9' || c >= 'a' && c <= 'z' }
	for i := range len(s) {
		switch {
		case s[i] == ' ':
		case i > 0 && inside(s[i]) && inside(s[i-1]):
			l[len(l)-1] += s[i : i+1]
		default:
			l = append(l, s[i:i+1])
		}
	}
	return l
}

// gaps: what stands between tokens and parts them.
var gaps = []string{" ", "\t", "\n", "\r", "  ", " \t\r\n", "#\n", "# int\n", "#[]#{}\n", " # x\n\t", "\n# a\n# b\n"}

// spaced puts gaps between tokens, ahead of them, and behind: everywhere, or by chance.
func spaced(r *rand.Rand, s string, everywhere bool) string {
	var b strings.Builder
	gap := func(need bool) {
		if need || everywhere || r.Intn(3) == 0 {
			b.WriteString(gaps[r.Intn(len(gaps))])
		}
	}
	gap(false)
	at := 0
	for i, w := range words(s) {
		next := at + strings.Index(s[at:], w)
		if i > 0 {
			gap(next > at) // there a blank stands in the one form
		}
		b.WriteString(w)
		at = next + len(w)
	}
	gap(false)
	if r.Intn(4) == 0 {
		b.WriteString("# behind")
	}
	return b.String()
}

// plains: TYPEs that are a word each.
var plains = []string{"null", "bool", "int", "long", "bytes", "text"}

// maker makes one forms by chance.
type maker struct {
	r     *rand.Rand
	began []string
	most  int // how many TYPEs it may still begin
}

// name: a NAME that nothing has yet.
func (m *maker) name() string {
	s := string(rune('a'+m.r.Intn(26))) + strconv.Itoa(len(m.began))
	m.began = append(m.began, s)
	return s
}

// text: a TYPE that lies in deep others; if member, one that a union may have beside other such ones.
func (m *maker) text(deep int, member bool) string {
	m.most--
	k := m.r.Intn(12)
	if deep < 2 && m.r.Intn(4) > 0 { // else most texts would be a single word
		k = 6 + m.r.Intn(6)
	}
	switch {
	case member: // a new Name is never there already
		k = 9 + m.r.Intn(3)
	case m.r.Intn(4) == 0 && len(m.began) > 0:
		return m.began[m.r.Intn(len(m.began))]
	case deep > 15 || m.most <= 0:
		k %= 6
	}
	switch k {
	case api.KArray:
		return "[" + m.text(deep+1, false) + "]"
	case api.KMap:
		return "{" + m.text(deep+1, false) + "}"
	case api.KUnion:
		var l []string
		for m.r.Intn(2) == 0 {
			l = append(l, m.text(deep+1, true))
		}
		return "(" + strings.Join(slices.Insert(l, m.r.Intn(len(l)+1), plains[m.r.Intn(6)]), "|") + ")"
	case api.KEnum:
		return "enum " + m.name() + "<" + strings.Join([]string{"x", "y", "e", "z", "a0"}[m.r.Intn(5):], ",") + ">"
	case api.KFixed:
		return "fixed " + m.name() + " " + strconv.Itoa(m.r.Intn(4097))
	case api.KRecord:
		s := "record " + m.name() + "{"
		for _, f := range []string{"a", "b_", "c1", "records"}[m.r.Intn(5):] {
			s += f + []string{"", "?"}[m.r.Intn(2)] + ":" + m.text(deep+1, false) + ";"
		}
		return s + "}"
	}
	return plains[k]
}

// someForm: a one form, by chance.
func someForm(r *rand.Rand) string {
	for {
		m := &maker{r: r, most: 1 + r.Intn(50)}
		if s := m.text(r.Intn(3), false); len(s) <= api.MaxText {
			return s
		}
	}
}

func TestExample(t *testing.T) { // the chapter's example, and DOC.md's fifth
	if s, at, e := canon.Text(" [ int ] # x"); s != "[int]" || at != 0 || e != api.OK {
		t.Errorf("%q, %d, %d", s, at, e)
	}
}

func TestText(t *testing.T) { // P8.1: the one form, written out
	for s, form := range map[string]string{
		"int": "int", " int": "int", "int ": "int", "\t\r\nint\n": "int", "int#": "int", "int # int": "int", "# text\nint": "int", "#\n#\nint#\n": "int",
		" [ int ] # x": "[int]", "[int]": "[int]", "{ text\n}": "{text}", "( null | int )": "(null|int)", "(int|null)": "(int|null)",
		"enum e<x,y>": "enum e<x,y>", "enum  e < y , x >": "enum e<y,x>", "enum\te\n<\rx>": "enum e<x>", "enum#\ne#\n<x#,\n,y>": "enum e<x,y>",
		"fixed f 16": "fixed f 16", " fixed  f  16 ": "fixed f 16", "fixed#f\nf#1\n0": "fixed f 0", "fixed\nf\n4096": "fixed f 4096",
		"record r { }": "record r{}", "record  r{}": "record r{}", "record r{a:int;}": "record r{a:int;}", "record r { a : int ; }": "record r{a:int;}",
		"record p{a?: (null|p);} # p": "record p{a?:(null|p);}", "record p{a ? : ( null | p ) ; }": "record p{a?:(null|p);}",
		"record r{b : enum e <x> ; a ?: e ; c : fixed f 2 ; }": "record r{b:enum e<x>;a?:e;c:fixed f 2;}",
	} {
		expect(t, s, form)
	}
}

func TestRefused(t *testing.T) { // P8.1: parse.Parse's place and error; nothing else is told of such a text
	for _, x := range []struct {
		s  string
		at int
		e  api.Errno
	}{
		{"", 0, api.ErrForm}, {" ", 1, api.ErrForm}, {"#", 1, api.ErrForm}, {"# int", 5, api.ErrForm}, {"\n\n", 2, api.ErrForm}, {"int int", 4, api.ErrForm}, {"[int", 4, api.ErrForm}, {"()", 1, api.ErrForm}, {"$", 0, api.ErrForm}, {"int \x00", 4, api.ErrForm}, {"Int", 0, api.ErrForm}, {"\xffint", 0, api.ErrForm},
		{"(int|(text))", 5, api.ErrForm}, {"enum int<a>", 5, api.ErrForm}, {"fixed f 5000", 8, api.ErrForm}, {"fixed f 007", 8, api.ErrForm}, {"fixed f16", 9, api.ErrForm}, {"record p{a:enum;}", 15, api.ErrForm}, {"record r{a:int}", 14, api.ErrForm},
		{"x", 0, api.ErrNone}, {" [ x ]", 3, api.ErrNone}, {"enume", 0, api.ErrNone}, {"enume<x>", 0, api.ErrNone}, {"record r{a:s;}", 11, api.ErrNone},
		{"(int|int)", 5, api.ErrThere}, {"enum e<a,a>", 9, api.ErrThere}, {"record p{a:int;a:int;}", 15, api.ErrThere}, {"record p{a:(p|p);}", 14, api.ErrThere}, {"[record p{b:[record p{}];}]", 20, api.ErrThere},
		{strings.Repeat("[", 21), 20, api.ErrLong}, {many(200), strings.LastIndex(many(200), "int"), api.ErrLong}, {strings.Repeat("[", 1500), 4096, api.ErrLong}, {fields(373, 4), 4096, api.ErrLong}, {long(4097), 0, api.ErrLong}, {"int" + strings.Repeat(" ", 4094), 0, api.ErrLong}, {strings.Repeat("int", 1<<20), 0, api.ErrLong},
	} {
		if s, at, e := canon.Text(x.s); s != "" || at != x.at || e != x.e {
			t.Errorf("Text(%.90q) = %.90q, %d, %d, not %d, %d", x.s, s, at, e, x.at, x.e)
		}
		expect(t, x.s, "")
	}
}

func TestIs(t *testing.T) { // P8.1: a text is its own one form, or another text is
	for _, form := range forms() {
		if !canon.Is(form) {
			t.Errorf("Is(%.90q) is false", form)
		}
		for _, gap := range gaps {
			for _, s := range []string{gap + form, form + gap} {
				if canon.Is(s) || len(s) <= api.MaxText && sumIs(s) != sum(form) {
					t.Errorf("Is(%.90q) is true, or it is no text of %.90q", s, form)
				}
			}
		}
		if s := form + "#"; canon.Is(s) {
			t.Errorf("Is(%.90q) is true", s)
		}
	}
	for _, s := range []string{"enum  e<x>", "enum\te<x>", "enum e <x>", "enum e<x, y>", "fixed f  16", "fixed f\n16", "fixed\tf 16", "record\nr{}", "record r{a:int; }", "record r{a: int;}", "record r{a? :int;}", "(int| text)", "[int ]", "{ int}"} {
		if _, _, e := canon.Text(s); canon.Is(s) || e != api.OK {
			t.Errorf("Is(%q) is true, or Text is %d", s, e)
		}
	}
}

// sumIs: Print alone.
func sumIs(s string) api.Sum {
	p, _ := canon.Print(s)
	return p
}

func TestSchema(t *testing.T) { // P8.1: the schema of a one form, and none of any other text of it
	for s, want := range map[string][]api.Node{
		"int":                    {{K: api.KInt}},
		"[int]":                  {{K: api.KArray, Items: []int{1}}, {K: api.KInt}},
		"enum e<y,x>":            {{K: api.KEnum, Name: "e", Syms: []string{"y", "x"}}},
		"fixed f 16":             {{K: api.KFixed, Name: "f", Size: 16}},
		"record p{a?:(null|p);}": {{K: api.KRecord, Name: "p", Fields: []api.Field{{Name: "a", Has: true, Type: 1}}}, {K: api.KUnion, Items: []int{2, 0}}, {K: api.KNull}},
	} {
		if o, ok := canon.Schema(s); !ok || told(o) != told(api.Schema{Nodes: want}) {
			t.Errorf("Schema(%q) =\n%s%t", s, told(o), ok)
		}
		for _, other := range []string{" " + s, s + " ", s + "#", s + s, s[1:], ""} {
			if o, ok := canon.Schema(other); ok || len(o.Nodes) != 0 {
				t.Errorf("Schema(%q) =\n%s%t", other, told(o), ok)
			}
		}
	}
}

func TestPrint(t *testing.T) { // P8.2: digits that another program told
	for s, digits := range map[string]string{
		"int":                          "6da88c34ba124c41f977db66a4fc5c1a951708d285c81bb0d47c3206f4c27ca8",
		"[int]":                        "8fb783915a93a97741c7036dfea2089ce33893e9dbe056263a19f179aa15a7c8",
		" [ int ] # x":                 "8fb783915a93a97741c7036dfea2089ce33893e9dbe056263a19f179aa15a7c8",
		"record p{a?:(null|p);}":       "b5a5049a3243f73f1eda562c5fb2ebbff04c2a7c7d169f0c7820604c2292c238",
		"record\tp { a? : (null|p); }": "b5a5049a3243f73f1eda562c5fb2ebbff04c2a7c7d169f0c7820604c2292c238",
	} {
		if p, ok := canon.Print(s); p != sumOf(t, digits) || !ok {
			t.Errorf("Print(%q) = %x, %t", s, p, ok)
		}
		if got := canon.Short(s); got != digits[:8] {
			t.Errorf("Short(%q) = %q", s, got)
		}
	}
	for _, s := range []string{"", " ", "x", "int int", "(int|int)", long(4097), strings.Repeat("[", 21)} {
		if p, ok := canon.Print(s); p != (api.Sum{}) || ok {
			t.Errorf("Print(%.90q) = %x, %t", s, p, ok)
		}
		if got := canon.Short(s); got != "" {
			t.Errorf("Short(%.90q) = %q", s, got)
		}
	}
}

func TestShortWithNoughts(t *testing.T) { // P8.2: noughts ahead are digits, too
	found := 0
	for i := range 3000 {
		s := "fixed f " + strconv.Itoa(i)
		want := sum(s)
		if want[0] == 0 || want[1] == 0 || want[3] < 16 {
			found++
		}
		if got := canon.Short(s); got != fmt.Sprintf("%x", want[:4]) || len(got) != 8 {
			t.Errorf("Short(%q) = %q, not %x", s, got, want[:4])
		}
	}
	if found < 50 {
		t.Errorf("only %d shorts have noughts", found)
	}
}

// number: n's bytes as chapter 1 has them, for numbers below 2^30.
func number(n int) []byte {
	switch {
	case n < 1<<6:
		return []byte{byte(n)}
	case n < 1<<14:
		return []byte{byte(n>>8) | 1<<6, byte(n)}
	}
	return []byte{byte(n>>24) | 2<<6, byte(n >> 16), byte(n >> 8), byte(n)}
}

// texts: what Log is the hash of.
func texts(l []string) []byte {
	b := number(len(l))
	for _, s := range l {
		b = append(append(b, number(len(s))...), s...)
	}
	return b
}

func TestLog(t *testing.T) { // P8.3
	for _, x := range []struct {
		l      []string
		digits string
	}{ // of the bytes 00, 01 00, 01 03 "int", and 02 01 "a" 02 "bc", as another program told
		{nil, "6e340b9cffb37a989ca544e6bb780a2c78901d3fb33738768511a30617afa01d"},
		{[]string{}, "6e340b9cffb37a989ca544e6bb780a2c78901d3fb33738768511a30617afa01d"},
		{[]string{""}, "47dc540c94ceb704a23875c11273e16bb0b8a87aed84de911f2133568115f254"},
		{[]string{"int"}, "4792ba83ef344dc3ffa8649c0d7115c3b9e6ec30464524bf47d6c545b2857e36"},
		{[]string{"a", "bc"}, "56928b3dfbf6838bec16381e4ee9287cd5a6bca03171dcb91d2ee3a0ed653a44"},
	} {
		if got := canon.Log(x.l); got != sumOf(t, x.digits) {
			t.Errorf("Log(%q) = %x", x.l, got)
		}
	}
	for _, n := range []int{0, 1, 63, 64, 65, 1000, 1<<14 - 1, 1 << 14} { // how many texts, and how many bytes, at each size of a number
		for _, l := range [][]string{make([]string, n), {strings.Repeat("x", n)}, {"int", strings.Repeat("\xff", n), ""}, slices.Repeat([]string{"a", " b # "}, n)} {
			if got := canon.Log(l); got != api.Sum(sha256.Sum256(texts(l))) {
				t.Errorf("Log of %d texts, the first of %d bytes, = %x", len(l), len(strings.Join(l[:min(1, len(l))], "")), got)
			}
		}
	}
}

func TestLogsApart(t *testing.T) { // P8.3: texts are taken as they are, in their order, each by itself
	by := map[api.Sum]string{}
	for _, l := range [][]string{nil, {""}, {"", ""}, {"int"}, {" int"}, {"int "}, {"in", "t"}, {"", "int"}, {"int", ""}, {"int", "int"}, {"int", "text"}, {"text", "int"}, {"inttext"}, {"x"}, {"int int"}, {"[int]"}, {"[ int ]"}, {"\x03int"}} {
		got := canon.Log(l)
		if other, there := by[got]; there {
			t.Errorf("Log(%q) is that of %s", l, other)
		}
		by[got] = fmt.Sprintf("%q", l)
		if again := canon.Log(slices.Clone(l)); again != got {
			t.Errorf("Log(%q) is %x, and then %x", l, got, again)
		}
	}
}

func TestOne(t *testing.T) { // P8.4: Text of Text is it; blanks and remarks change nothing
	r := rand.New(rand.NewSource(1))
	for _, form := range forms() {
		expect(t, form, form)
		for i := range 12 {
			if s := spaced(r, form, i == 0); len(s) <= api.MaxText {
				expect(t, s, form)
			}
		}
	}
	made := map[string]bool{}
	for range 6000 {
		form := someForm(r)
		made[form] = true
		expect(t, form, form)
		if s := spaced(r, form, r.Intn(2) == 0); len(s) <= api.MaxText {
			expect(t, s, form)
		}
	}
	if len(made) < 2000 {
		t.Errorf("only %d one forms", len(made))
	}
}

func TestEachGap(t *testing.T) { // P8.4: each blank and remark between any two tokens
	for _, form := range forms() {
		if len(form) > 200 {
			continue
		}
		l := words(form)
		for i := range len(l) + 1 {
			for _, gap := range gaps {
				// All other tokens have one blank between them.
				ahead, behind := strings.Join(l[:i], " "), strings.Join(l[i:], " ")
				s := ahead + gap + behind
				if text, at, e := canon.Text(s); text != form || at != 0 || e != api.OK {
					t.Errorf("Text(%q) = %q, %d, %d", s, text, at, e)
				}
				expectPrint(t, s, form)
			}
		}
	}
}

func TestAtTheLimits(t *testing.T) { // P8.1, P8.4: texts that are as long as one may be, and whose forms are, or are not
	name := "n" + strings.Repeat("_9z", 13)
	expect(t, "int"+strings.Repeat(" ", 4093), "int")
	expect(t, "#"+strings.Repeat("x", 4091)+"\nint", "int")
	expect(t, "fixed "+name+strings.Repeat("\n", 4046)+"4096", "fixed "+name+" 4096")
	for _, s := range []string{long(4095), long(4096), fields(373, 3), fields(373, 0), many(199)} {
		if len(s) > api.MaxText {
			t.Fatalf("a form of %d bytes", len(s))
		}
		expect(t, s, s)
		s2 := strings.Repeat(" ", api.MaxText-len(s)) + s
		expect(t, s2, s)
		if _, at, e := canon.Text(s2 + " "); at != 0 || e != api.ErrLong {
			t.Errorf("a blank too many: %d, %d", at, e)
		}
	}
}

// spoilt puts one token out, in, or in another's place.
func spoilt(r *rand.Rand, s string) string {
	l := words(s)
	other := slices.Concat(strings.Split("()[]{}<>|:;,?", ""), []string{"int", "enum", "fixed", "record", "a", "x", "a0", "0", "007", "!"}, l)
	i, word := r.Intn(len(l)+1), other[r.Intn(len(other))]
	switch {
	case r.Intn(3) == 0 || i == len(l):
		l = slices.Insert(l, i, word)
	case r.Intn(2) == 0:
		l = slices.Delete(l, i, i+1)
	default:
		l[i] = word
	}
	return strings.Join(l, " ")
}

// joined: the one form of tokens that have a schema: no blanks but those that P7.2 names.
func joined(l []string) string {
	var b strings.Builder
	for _, w := range l {
		if w[0] >= '0' && w[0] <= '9' {
			b.WriteByte(' ')
		}
		b.WriteString(w)
		if w == "enum" || w == "fixed" || w == "record" {
			b.WriteByte(' ')
		}
	}
	return b.String()
}

func TestSpoiltTexts(t *testing.T) { // P8.1, P8.2 of texts with and without a schema
	r := rand.New(rand.NewSource(2))
	fine, refused := 0, 0
	for range 8000 {
		s := spoilt(r, someForm(r))
		form := ""
		if _, _, e := parse.Parse(s); e == api.OK {
			form = joined(words(s))
			fine++
		} else {
			refused++
		}
		expect(t, s, form)
	}
	if fine < 200 || refused < 2000 {
		t.Errorf("too few texts of a sort: %d with a schema, %d without", fine, refused)
	}
}

func TestOnePrint(t *testing.T) { // P8.5: one form, one Print; and other forms have others
	r := rand.New(rand.NewSource(3))
	by := map[api.Sum]string{}
	for i := range 4000 {
		form := someForm(r)
		if i < len(forms()) {
			form = forms()[i]
		}
		p, ok := canon.Print(form)
		if was, there := by[p]; !ok || there && was != form {
			t.Fatalf("%.90q and %.90q: %t, %x", form, was, ok, p)
		}
		by[p] = form
		for range 3 {
			s := spaced(r, form, false)
			if len(s) > api.MaxText {
				continue
			}
			if q, ok := canon.Print(s); q != p || !ok || canon.Short(s) != canon.Short(form) {
				t.Fatalf("%.90q is of the form %.90q, but has another Print", s, form)
			}
		}
	}
}

func TestOtherFormsOtherPrints(t *testing.T) { // P8.1, P8.2: what is alike but for order, names, defaults is not of one form
	l := []string{
		"(int|text)", "(text|int)", "(int)", "int", "[int]", "{int}", "[[int]]", "enum e<x>", "enum e<y>", "enum f<x>", "enum e<x,y>", "enum e<y,x>", "fixed f 1", "fixed f 11", "fixed f1 1", "fixed g 1",
		"record r{}", "record s{}", "record r{a:int;}", "record r{a?:int;}", "record r{a:long;}", "record r{b:int;}", "record r{a:int;b:int;}", "record r{b:int;a:int;}", "record r{a:enum e<x>;b:e;}", "record r{a:r;}", "record r{a:[r];}",
	}
	for i, a := range l {
		for j, b := range l {
			if (sumIs(a) == sumIs(b)) != (i == j) || (canon.Short(a) == canon.Short(b)) != (i == j) {
				t.Errorf("%q and %q", a, b)
			}
		}
	}
}

// fill fills the spare room of a list.
func fill[T any](l []T, x T) {
	spare := l[len(l):cap(l)]
	for i := range spare {
		spare[i] = x
	}
}

func TestMemory(t *testing.T) { // DOC.md, Memory: what is handed in is neither changed nor kept; each answer is new
	for _, form := range forms() {
		for _, s := range []string{form, form + "#", form + "!"} {
			b := append([]byte(s), "spare"...)
			was := bytes.Clone(b)
			lent := unsafe.String(&b[0], len(s))
			want, _, _ := canon.Text(s)
			text, _, _ := canon.Text(lent)
			short, o, wantO := canon.Short(lent), schemaOf(lent), told(schemaOf(s))
			canon.Is(lent)
			canon.Print(lent)
			if !bytes.Equal(b, was) {
				t.Fatalf("of %.90q: the argument was changed", s)
			}
			clear(b)
			if text != want || short != canon.Short(s) || told(o) != wantO {
				t.Fatalf("of %.90q: an answer shares memory with its argument", s)
			}
		}
	}
}

// schemaOf: Schema alone.
func schemaOf(s string) api.Schema {
	o, _ := canon.Schema(s)
	return o
}

func TestSchemasMemory(t *testing.T) { // DOC.md, Memory: no two lists share any, spare room included
	for _, s := range forms() {
		first, second := schemaOf(s), schemaOf(s)
		want := told(second)
		for _, x := range first.Nodes {
			fill(x.Syms, "spoilt")
			fill(x.Items, -7)
			fill(x.Fields, api.Field{Name: "spoilt"})
		}
		fill(first.Nodes, api.Node{K: -7})
		if told(first) != want {
			t.Fatalf("of %.90q: two lists of an answer share memory", s)
		}
		for _, x := range first.Nodes {
			clear(x.Syms)
			clear(x.Items)
			clear(x.Fields)
		}
		clear(first.Nodes)
		if told(second) != want || told(schemaOf(s)) != want {
			t.Fatalf("of %.90q: two answers share memory", s)
		}
	}
}

func TestLogsMemory(t *testing.T) { // DOC.md, Memory: Log changes neither its list nor what is behind it
	l := []string{"int", "[ int ]", "", "x", "spare", "spare"}
	was := slices.Clone(l)
	want := canon.Log(slices.Clone(l[:4]))
	if got := canon.Log(l[:4]); got != want || !slices.Equal(l, was) {
		t.Errorf("Log = %x, not %x; %q", got, want, l)
	}
}

func TestLongLogs(t *testing.T) { // DOC.md, Ends
	for _, l := range [][]string{make([]string, 1<<20), {strings.Repeat("x", 1<<25)}, slices.Repeat([]string{strings.Repeat("y", 1<<12)}, 1<<12)} {
		if got := canon.Log(l); got != api.Sum(sha256.Sum256(texts(l))) {
			t.Errorf("Log of %d texts = %x", len(l), got)
		}
	}
}

func FuzzCanon(f *testing.F) { // P8.1 to P8.5 of whatever text
	for _, s := range forms() {
		f.Add(s)
		f.Add(" " + s + " # x")
	}
	for _, s := range []string{"", "#", "x", "(int|int)", "(int|(text))", "fixed f 007", long(4097), strings.Repeat("[", 1500), "int\x00"} {
		f.Add(s)
	}
	f.Fuzz(func(t *testing.T, s string) {
		text, _, e := canon.Text(s)
		expect(t, s, text)
		if got := canon.Log([]string{s, text}); got != api.Sum(sha256.Sum256(texts([]string{s, text}))) {
			t.Errorf("Log of %.90q = %x", s, got)
		}
		if e != api.OK {
			return
		}
		expect(t, text, text)
		if len(s)+2 <= api.MaxText {
			expect(t, "\n"+s+"\n", text)
		}
	})
}
