package parse_test

import (
	"fmt"
	"math/rand"
	"slices"
	"strconv"
	"strings"
	"testing"
	"unsafe"

	"suffragan/api"
	"suffragan/lex"
	"suffragan/parse"
)

// keywords: the words that begin TYPEs, the first six by themselves.
var keywords = []string{"null", "bool", "int", "long", "bytes", "text", "enum", "fixed", "record"}

// forty: a name of as many bytes as one may have.
var forty = "n" + strings.Repeat("_9z", 13)

// Nodes, as short forms.
func plain(k int) api.Node                      { return api.Node{K: k} }
func array(item int) api.Node                   { return api.Node{K: 6, Items: []int{item}} }
func mapping(item int) api.Node                 { return api.Node{K: 7, Items: []int{item}} }
func union(items ...int) api.Node               { return api.Node{K: 8, Items: items} }
func enum(name string, syms ...string) api.Node { return api.Node{K: 9, Name: name, Syms: syms} }
func fixed(name string, size int) api.Node      { return api.Node{K: 10, Name: name, Size: size} }
func record(name string, fields ...api.Field) api.Node {
	return api.Node{K: 11, Name: name, Fields: fields}
}
func must(name string, node int) api.Field { return api.Field{Name: name, Type: node} }
func may(name string, node int) api.Field  { return api.Field{Name: name, Has: true, Type: node} }

// schema: of these nodes.
func schema(nodes ...api.Node) api.Schema { return api.Schema{Nodes: nodes} }

// told writes a schema out whole; of lists nil and empty are told alike.
func told(o api.Schema) string {
	var b strings.Builder
	for i, x := range o.Nodes {
		fmt.Fprintf(&b, "%d: kind %d, %q, size %d, %q, %d, %+v\n", i, x.K, x.Name, x.Size, x.Syms, x.Items, x.Fields)
	}
	return b.String()
}

// answer: what Parse answers.
type answer struct {
	o     api.Schema
	place int
	e     api.Errno
}

// fine: an answer of a schema.
func fine(nodes ...api.Node) answer { return answer{o: schema(nodes...)} }

// refused: an answer of none.
func refused(place int, e api.Errno) answer { return answer{place: place, e: e} }

// read calls Parse, and holds that nodes come with OK alone, and not without it.
func read(t *testing.T, s string) answer {
	t.Helper()
	o, place, e := parse.Parse(s)
	if (e == api.OK) != (len(o.Nodes) > 0) || e == api.OK && place != 0 {
		t.Errorf("Parse(%.90q): %d nodes, %d, %d", s, len(o.Nodes), place, e)
	}
	return answer{o, place, e}
}

// expect holds what Parse(s) answers against what is wanted.
func expect(t *testing.T, s string, want answer) {
	t.Helper()
	got := read(t, s)
	if got.place != want.place || got.e != want.e {
		t.Errorf("Parse(%.90q) = %d, %d, not %d, %d", s, got.place, got.e, want.place, want.e)
	} else if a, b := told(got.o), told(want.o); a != b {
		t.Errorf("Parse(%.90q) =\n%.400s not\n%.400s", s, a, b)
	}
}

// expectAt is expect of a refusal at the place of s's ^, which is not of the text.
func expectAt(t *testing.T, s string, e api.Errno) {
	t.Helper()
	place := strings.Index(s, "^")
	if place < 0 {
		t.Fatalf("%q names no place", s)
	}
	expect(t, s[:place]+s[place+1:], refused(place, e))
}

// expectShown holds Show and Depth of o against what is wanted; of an empty text that there is none.
func expectShown(t *testing.T, o api.Schema, text string, depth int) {
	t.Helper()
	want := api.OK
	if text == "" {
		want = api.ErrArg
	}
	if s, e := parse.Show(o); s != text || e != want {
		t.Errorf("Show(%.300s) = %.90q, %d, not %.90q, %d", told(o), s, e, text, want)
	}
	if n := parse.Depth(o); n != depth {
		t.Errorf("Depth(%.300s) = %d, not %d", told(o), n, depth)
	}
}

// goal: what one token has to be; of a TYPE that lies in deep others, of the node node.
type goal struct {
	what       string
	node, deep int
}

// machine: another way of reading, without recursion: a stack of goals, one for each token.
type machine struct {
	nodes []api.Node
	goals []goal
	began map[string]int
}

// push puts goals on the stack, the first one on top.
func (m *machine) push(node, deep int, what ...string) {
	for _, w := range slices.Backward(what) {
		m.goals = append(m.goals, goal{w, node, deep})
	}
}

// wanted: what Parse should answer.
func wanted(s string) answer {
	words, place, e := lex.Words(s)
	if e != api.OK {
		return refused(place, e)
	}
	m := &machine{began: map[string]int{}}
	m.push(-1, 0, "type", "end")
	for _, w := range words {
		g := m.goals[len(m.goals)-1]
		m.goals = m.goals[:len(m.goals)-1]
		if e := m.step(g, w); e != api.OK {
			return refused(w.At, e)
		}
	}
	return answer{o: schema(m.nodes...)}
}

// isName: whether a token is a NAME.
func isName(w api.Token) bool {
	return w.K == api.TokName && len(w.S) <= 40 && !slices.Contains(keywords, w.S)
}

// step holds one token against its goal.
func (m *machine) step(g goal, w api.Token) api.Errno {
	switch g.what {
	case "type":
		return m.begin(g, w)
	case "title", "symbol", "} or field":
		if w.S == "}" && g.what == "} or field" {
			return api.OK
		}
		if !isName(w) {
			return api.ErrForm
		}
		return m.name(g, w.S)
	case "number":
		n, e := strconv.Atoi(w.S)
		if w.K != api.TokNumber || e != nil || n > 4096 || strconv.Itoa(n) != w.S {
			return api.ErrForm
		}
		m.nodes[g.node].Size = n
	case "| or )", ", or >", "? or :":
		on, end, _ := strings.Cut(g.what, " or ")
		if w.S != on && w.S != end {
			return api.ErrForm
		}
		switch w.S {
		case "|":
			m.push(g.node, g.deep, "type", "| or )")
		case ",":
			m.push(g.node, g.deep, "symbol", ", or >")
		case "?":
			l := m.nodes[g.node].Fields
			l[len(l)-1].Has = true
			m.push(g.node, g.deep, ":")
		}
	case "end":
		if w.K != api.TokEnd {
			return api.ErrForm
		}
	default:
		if w.S != g.what {
			return api.ErrForm
		}
	}
	return api.OK
}

// begin: a TYPE's first token.
func (m *machine) begin(g goal, w api.Token) api.Errno {
	follow := map[string][]string{
		"null": {}, "bool": {}, "int": {}, "long": {}, "bytes": {}, "text": {},
		"[": {"type", "]"}, "{": {"type", "}"}, "(": {"type", "| or )"},
		"enum": {"title", "<", "symbol", ", or >"}, "fixed": {"title", "number"}, "record": {"title", "{", "} or field"},
	}
	kinds := []string{"null", "bool", "int", "long", "bytes", "text", "[", "{", "(", "enum", "fixed", "record"}
	k := slices.Index(kinds, w.S)
	if k < 0 && !isName(w) {
		return api.ErrForm
	}
	if g.deep == 20 || k >= 0 && len(m.nodes) == 200 {
		return api.ErrLong
	}
	node, there := m.began[w.S]
	if k < 0 && !there {
		return api.ErrNone
	}
	if k >= 0 {
		node = len(m.nodes)
	}
	if g.node >= 0 && m.nodes[g.node].K == api.KUnion {
		if w.S == "(" {
			return api.ErrForm
		}
		for _, i := range m.nodes[g.node].Items {
			if x := m.nodes[i]; k < 0 && x.Name == w.S || k >= 0 && k <= 7 && x.K == k {
				return api.ErrThere
			}
		}
	}
	if g.node >= 0 && m.nodes[g.node].K == api.KRecord {
		l := m.nodes[g.node].Fields
		l[len(l)-1].Type = node
	} else if g.node >= 0 {
		m.nodes[g.node].Items = append(m.nodes[g.node].Items, node)
	}
	if k >= 0 {
		m.nodes = append(m.nodes, plain(k))
		m.push(node, g.deep+1, follow[w.S]...)
	}
	return api.OK
}

// name: a NAME, but not of a TYPE.
func (m *machine) name(g goal, name string) api.Errno {
	x := &m.nodes[g.node]
	switch g.what {
	case "title":
		if _, there := m.began[name]; there {
			return api.ErrThere
		}
		m.began[name] = g.node
		x.Name = name
	case "symbol":
		if slices.Contains(x.Syms, name) {
			return api.ErrThere
		}
		x.Syms = append(x.Syms, name)
	default:
		for _, f := range x.Fields {
			if f.Name == name {
				return api.ErrThere
			}
		}
		x.Fields = append(x.Fields, must(name, -1))
		m.push(g.node, g.deep, "? or :", "type", ";", "} or field")
	}
	return api.OK
}

// maker makes TYPEs by chance.
type maker struct {
	r     *rand.Rand
	began []string
	most  int // how many TYPEs it may still begin
}

// name: a NAME that no enum, fixed or record has yet.
func (m *maker) name() string {
	name := string(rune('a'+m.r.Intn(26))) + strconv.Itoa(len(m.began))
	if m.r.Intn(30) == 0 {
		name += strings.Repeat("_", 40-len(name))
	}
	m.began = append(m.began, name)
	return name
}

// text: the text of a TYPE that lies in deep others, without superfluous blanks.
func (m *maker) text(deep int) string {
	m.most--
	if m.r.Intn(4) == 0 && len(m.began) > 0 {
		return m.began[m.r.Intn(len(m.began))]
	}
	k := m.r.Intn(12)
	if deep < 2 {
		k = 6 + m.r.Intn(6)
	}
	if deep >= 19 || m.most <= 0 {
		k %= 6
	}
	switch k {
	case api.KArray:
		return "[" + m.text(deep+1) + "]"
	case api.KMap:
		return "{" + m.text(deep+1) + "}"
	case api.KUnion:
		return "(" + strings.Join(m.types(deep+1), "|") + ")"
	case api.KEnum:
		return "enum " + m.name() + "<" + strings.Join([]string{"x", "y", "z", forty, "e"}[m.r.Intn(5):], ",") + ">"
	case api.KFixed:
		return "fixed " + m.name() + " " + strconv.Itoa([]int{0, 1, 16, 4096}[m.r.Intn(4)])
	case api.KRecord:
		s := "record " + m.name() + "{"
		for i := range m.r.Intn(5) {
			s += []string{"a", "b_", "c1", "record1", forty}[i] + []string{"", "?"}[m.r.Intn(2)] + ":" + m.text(deep+1) + ";"
		}
		return s + "}"
	}
	return keywords[k]
}

// types: what a union has; as of its TYPEs no two may be alike, they are chosen by their first bytes.
func (m *maker) types(deep int) []string {
	var l []string
	for len(l) == 0 || m.r.Intn(3) > 0 {
		had := len(m.began)
		s := m.text(deep)
		if s[0] == '(' || slices.ContainsFunc(l, func(o string) bool {
			return s == o || s[0] == o[0] && strings.Contains("[{", s[:1]) || strings.Contains(o, " "+s+"<") || strings.Contains(o, " "+s+"{") || strings.Contains(o, " "+s+" ")
		}) {
			m.began = m.began[:had] // it is not taken: nor are the names in it
			s = keywords[len(l)%6]
			if slices.Contains(l, s) {
				return l
			}
		}
		l = append(l, s)
	}
	return l
}

// someType: a text, of which most have a schema; some are too deep.
func someType(r *rand.Rand) string {
	s := (&maker{r: r, most: 1 + r.Intn(60)}).text(r.Intn(3))
	if r.Intn(8) == 0 {
		s = within(r.Intn(21), s)
	}
	return s
}

// spaced puts blanks and remarks between tokens.
func spaced(r *rand.Rand, s string) string {
	words, _, _ := lex.Words(s)
	var b strings.Builder
	for i, w := range words {
		if i > 0 && strings.HasPrefix(s[w.At-1:], " ") {
			b.WriteByte(' ')
		}
		b.WriteString([]string{"", "", "", " ", "\n", "\t\r\n ", "# int\n", "#\n"}[r.Intn(8)])
		b.WriteString(w.S)
	}
	return b.String()
}

// spoilt puts one token out, in, or in another's place, or two by turns.
func spoilt(r *rand.Rand, s string) string {
	words, _, _ := lex.Words(s)
	l := []string{}
	for _, w := range words[:max(len(words)-1, 0)] {
		l = append(l, w.S)
	}
	other := slices.Concat(keywords, strings.Split("()[]{}<>|:;,?", ""), []string{"a", "b_", "x", "zz", "0", "7", "007", "4097", forty + "x", "!", "a0", "b1"}, l)
	for range 1 + r.Intn(2) {
		i, word := r.Intn(len(l)+1), other[r.Intn(len(other))]
		switch {
		case len(l) > 0 && r.Intn(2) == 0: // a name for another one, or a word for another one
			one, two := r.Intn(len(l)), l[r.Intn(len(l))]
			if lex.Name(two) && lex.Name(l[one]) && good(two) == good(l[one]) {
				l[one] = two
			}
		case r.Intn(3) == 0 || i == len(l):
			l = slices.Insert(l, i, word)
		case r.Intn(3) == 0:
			l = slices.Delete(l, i, i+1)
		case r.Intn(4) == 0:
			l[i], l[0] = l[0], l[i]
		default:
			l[i] = word
		}
	}
	return strings.Join(l, []string{" ", "\n", " # \n"}[r.Intn(3)])
}

// whole: texts that have schemas, in the form that Show tells.
func whole() []string {
	l := []string{
		"null", "bool", "int", "long", "bytes", "text", "[int]", "{text}", "(null)", "(null|int)", "(long|int|null)",
		"enum e<x>", "enum e<e,x,y>", "fixed f 0", "fixed f 16", "fixed f 4096", "record r{}", "record r{a:int;}", "record r{r:r;}",
		"record p{a?:(null|p);}", "record p{a:int;b?:[{(bool|text)}];c:enum e<x,y>;d?:(e|p|fixed f 1);e:f;}",
		"(null|bool|int|long|bytes|text|[int]|{int}|enum e<x>|enum f<x>|fixed g 1|fixed h 1|record r{}|record s{})",
		"record a{a:record b{a:record c{a:(a|b|c);b:[c];};b:{b};};b?:a;}", "[[[[[int]]]]]", "{[{[(null|[int])]}]}",
		"record n{null_:null;int2:int;records:[n];}", "enum " + forty + "<" + forty + ",a>", "record " + forty + "{" + forty + ":" + forty + ";}",
	}
	r := rand.New(rand.NewSource(1))
	for len(l) < 300 {
		if s := someType(r); wanted(s).e == api.OK {
			l = append(l, s)
		}
	}
	return l
}

func TestExample(t *testing.T) { // the chapter's example
	expect(t, "record p{a?:(null|p);}", fine(record("p", may("a", 1)), union(2, 0), plain(0)))
}

func TestConstants(t *testing.T) { // P7.1: the numbers that this file writes out are those of api
	kinds := []int{api.KNull, api.KBool, api.KInt, api.KLong, api.KBytes, api.KText, api.KArray, api.KMap, api.KUnion, api.KEnum, api.KFixed, api.KRecord, api.Kinds}
	for i, k := range kinds {
		if i != k {
			t.Errorf("kind %d is %d", i, k)
		}
	}
	if api.MaxDepth != 20 || api.MaxNodes != 200 || api.MaxText != 4096 || api.MaxTokens != 1500 || api.MaxName != 40 || api.MaxSize != 4096 {
		t.Error("package api has other numbers")
	}
}

func TestTypes(t *testing.T) { // P7.1: each TYPE, and its node
	for _, x := range []struct {
		s    string
		want answer
	}{
		{"null", fine(plain(0))},
		{"bool", fine(plain(1))},
		{"int", fine(plain(2))},
		{"long", fine(plain(3))},
		{"bytes", fine(plain(4))},
		{"text", fine(plain(5))},
		{"[int]", fine(array(1), plain(2))},
		{"{long}", fine(mapping(1), plain(3))},
		{"[{[null]}]", fine(array(1), mapping(2), array(3), plain(0))},
		{"(text)", fine(union(1), plain(5))},
		{"(null|int)", fine(union(1, 2), plain(0), plain(2))},
		{"([int]|{int}|null)", fine(union(1, 3, 5), array(2), plain(2), mapping(4), plain(2), plain(0))},
		{"enum e<x>", fine(enum("e", "x"))},
		{"enum e<x,y,z>", fine(enum("e", "x", "y", "z"))},
		{"enum e<z,e,a>", fine(enum("e", "z", "e", "a"))},
		{"fixed f 16", fine(fixed("f", 16))},
		{"fixed f 0", fine(fixed("f", 0))},
		{"fixed f 4096", fine(fixed("f", 4096))},
		{"record r{}", fine(record("r"))},
		{"record r{a:int;}", fine(record("r", must("a", 1)), plain(2))},
		{"record r{a?:int;b:text;}", fine(record("r", may("a", 1), must("b", 2)), plain(2), plain(5))},
		{"record r{a:[int];b?:{text};c:null;}", fine(record("r", must("a", 1), may("b", 3), must("c", 5)), array(2), plain(2), mapping(4), plain(5), plain(0))},
		{" \n[ # an array\n int\t]# of int", fine(array(1), plain(2))},
		{"record\tr\n{\na ?\r: int ; # }\n}", fine(record("r", may("a", 1)), plain(2))},
		{"enum#\ne#\n<x#,\n,y>", fine(enum("e", "x", "y"))},
		{"fixed f16 16", fine(fixed("f16", 16))},
	} {
		expect(t, x.s, x.want)
	}
}

func TestNamesAsTypes(t *testing.T) { // P7.1: a name has no node of its own, it is that of what began ahead
	for _, x := range []struct {
		s    string
		want answer
	}{
		{"record r{a:r;}", fine(record("r", must("a", 0)))},
		{"record r{a:[r];}", fine(record("r", must("a", 1)), array(0))},
		{"record r{a:enum e<x>;b:e;c:e;}", fine(record("r", must("a", 1), must("b", 1), must("c", 1)), enum("e", "x"))},
		{"record r{a:fixed f 3;b:{f};}", fine(record("r", must("a", 1), must("b", 2)), fixed("f", 3), mapping(1))},
		{"record r{a:record s{a:r;b:s;};b:s;c:r;}", fine(record("r", must("a", 1), must("b", 1), must("c", 0)), record("s", must("a", 0), must("b", 1)))},
		{"record r{a:[record s{}];b:{s};}", fine(record("r", must("a", 1), must("b", 3)), array(2), record("s"), mapping(2))},
		{"(enum e<x>|record r{a:e;})", fine(union(1, 2), enum("e", "x"), record("r", must("a", 1)))},
		{"record r{r:r;}", fine(record("r", must("r", 0)))},
	} {
		expect(t, x.s, x.want)
	}
	for _, s := range []string{ // a symbol, a field names no TYPE
		"record r{a:int;b:^a;}", "record r{a:enum e<x>;b:^x;}", "record r{a:^a;}", "^a", "[^a]", "{^a}", "(^a|int)", "(int|^a)",
		"record r{a:^s;b:record s{};}", "(^e|enum e<x>)", "record r{a:^rr;}", "record rr{a:^r;}", "^nul", "^nulls", "^int2", "^records", "^enum_", "^array", "^map", "^union", "^string",
		"^a b", "^a:", "^" + forty,
	} {
		expectAt(t, s, api.ErrNone)
	}
}

func TestWhereNoneGoesOn(t *testing.T) { // P7.1: ErrForm at the first token at which none goes on, the end among them
	for _, s := range []string{
		"^", "  ^", "# int^", "int ^int", "int^;", "int ^a", "int ^0", "[int]^]", "record r{}^;", "enum e<x>^>", "fixed f 1 ^2", "fixed f 1 ^a", "(int)^|",
		"^]", "^}", "^)", "^<", "^>", "^|", "^:", "^;", "^,", "^?", "^0", "^12",
		"[^", "[^]", "[int^", "[int^}", "[int^,int]", "[int^|int]", "[int ^int]", "[int^)", "[^;", "[^0]",
		"{^", "{^}", "{int^", "{int^]", "{int^:int}", "{int^;}", "{^?}",
		"(^", "(^)", "(^|int)", "(int^", "(int|^", "(int|^)", "(int^,text)", "(int ^text)", "(int^]", "(int|^|text)", "(int|^|)", "(int^;text)",
		"enum^", "enum ^<", "enum ^0", "enum e^", "enum e ^e", "enum e^{", "enum e^;", "enum e<^", "enum e<^>", "enum e<^,x>", "enum e<^0>", "enum e<x^", "enum e<x,^", "enum e<x,^>", "enum e<x^|y>", "enum e<x ^y>", "enum e<x,^,y>", "enum e<x^}", "enum e<x,^0>", "enum^:", "enum e<^(", "enum e<x^;>", "enum e ^0",
		"fixed^", "fixed ^0", "fixed ^16 f", "fixed f^", "fixed f ^f", "fixed f^<", "fixed f^:", "fixed f^;", "fixed f ^007", "fixed f ^00", "fixed f ^01", "fixed f ^4097", "fixed f ^5000", "fixed f ^18446744073709551617", "fixed f ^int", "fixed^<",
		"record^", "record ^{", "record ^0", "record r^", "record r^;", "record r^<", "record r ^r", "record r{^", "record r{^;", "record r{^:", "record r{^?", "record r{^0:int;}", "record r{a^", "record r{a^}", "record r{a ^int;}", "record r{a^;}", "record r{a^,b:int;}", "record r{a?^", "record r{a?^?:int;}", "record r{a?^;}", "record r{a?^}", "record r{a? ^int;}", "record r{a:^", "record r{a:^;}", "record r{a:^?int;}", "record r{a:^:int;}", "record r{a:^}", "record r{a:int^", "record r{a:int^}", "record r{a:int^,}", "record r{a:int^?;}", "record r{a:int ^b:int;}", "record r{a:int;^", "record r{a:int;^;}", "record r{a:int;^,b:int;}", "record r{a:int;^)", "record r{a:int;b^", "record r{a:int;b:int^}", "record r{^]", "record r{^(", "record r{^|", "record r{a:int;^0", "record r{a:^0", "record r^:", "record r ^0",
	} {
		expectAt(t, s, api.ErrForm)
	}
}

// places: texts that go on with a NAME where the %s is, and the kinds of names.
func places() []string {
	return []string{"enum %s<x>", "fixed %s 1", "record %s{}", "enum zz<%s>", "enum zz<y,%s>", "enum zz<y,%s,z>", "record zz{%s:int;}", "record zz{y:int;%s?:int;z:int;}", "[enum %s<x>]", "record zz{y:record %s{};}"}
}

func TestNames(t *testing.T) { // P7.1: a NAME is a name of at most 40 bytes that is no Keyword
	for _, p := range places() {
		at := strings.Index(p, "%s")
		for _, name := range []string{"a", "x9", "a_", "nul", "nulls", "null_", "int2", "ints", "recor", "records", "array", "map", "union", "string", "true", "default", forty, strings.Repeat("n", 39), strings.Repeat("n", 40)} {
			s := strings.Replace(p, "%s", name, 1)
			if got := read(t, s); got.e != api.OK || !strings.Contains(told(got.o), name) {
				t.Errorf("Parse(%q): %d, %d", s, got.place, got.e)
			}
		}
		for _, name := range slices.Concat(keywords, []string{forty + "a", strings.Repeat("n", 41), strings.Repeat("n", 1000)}) {
			expect(t, strings.Replace(p, "%s", name, 1), refused(at, api.ErrForm))
		}
	}
	for _, name := range []string{forty + "a", strings.Repeat("n", 41), strings.Repeat("n", 4096)} { // no NAME, so no TYPE either
		expect(t, name, refused(0, api.ErrForm))
	}
	expectAt(t, "record "+forty+"{a:^"+forty+"x;}", api.ErrForm)
	expectAt(t, "record "+forty+"{a:^"+forty[:39]+";}", api.ErrNone)
	for _, k := range keywords[:6] {
		expectAt(t, "record r{a:"+k+"; ^"+k+":int;}", api.ErrForm)
	}
}

func TestKeyword(t *testing.T) { // P7.1, A schema's text
	for _, s := range keywords {
		if !parse.Keyword(s) {
			t.Errorf("Keyword(%q) is false", s)
		}
		for i := range 256 {
			c := string([]byte{byte(i)})
			if parse.Keyword(s+c) || parse.Keyword(c+s) || parse.Keyword(s[:1]+c+s[2:]) && c != s[1:2] {
				t.Errorf("Keyword of %q and %q is true", s, c)
			}
		}
		for i := range len(s) {
			if parse.Keyword(s[:i]) || i > 0 && parse.Keyword(s[i:]) {
				t.Errorf("Keyword of a piece of %q is true", s)
			}
		}
		if parse.Keyword(strings.ToUpper(s)) || parse.Keyword(s+s) || parse.Keyword(strings.Title(s)) {
			t.Errorf("Keyword of another form of %q is true", s)
		}
	}
	for _, s := range []string{"", " ", "a", "x1", "[", "]", "{", "}", "(", ")", "<", ">", "|", ":", ";", ",", "?", "#", "0", "12", "string", "array", "map", "union", "boolean", "integer", "byte", "number", "end", "type", "name", "field", "default", "\x00", "\xff", "é", "null|bool", "null bool", strings.Repeat("null", 1<<18)} {
		if parse.Keyword(s) {
			t.Errorf("Keyword(%.40q) is true", s)
		}
	}
}

func TestThereAlready(t *testing.T) { // P7.1: names of enums, fixeds, records in the text; symbols in the enum; fields in the record
	types := []string{"enum %s<x>", "fixed %s 1", "record %s{}"}
	for _, a := range types {
		for _, b := range types {
			one, other := strings.Replace(a, "%s", "n", 1), strings.Replace(b, "%s", "^n", 1)
			expectAt(t, "record r{a:"+one+";b:"+other+";}", api.ErrThere)
			expectAt(t, "record r{a:"+one+";b:[{"+other+"}];}", api.ErrThere)
			expectAt(t, "record r{a:[{"+one+"}];b:"+other+";}", api.ErrThere)
			expectAt(t, "("+one+"|"+other+")", api.ErrThere) // it is told at the NAME: the union can't know it ahead of that
			expectAt(t, "([{"+one+"}]|"+other+")", api.ErrThere)
			free := "record r{a:" + one + ";b:" + strings.Replace(b, "%s", "m", 1) + ";}"
			if got := read(t, free); got.e != api.OK {
				t.Errorf("Parse(%q): %d, %d", free, got.place, got.e)
			}
		}
		expectAt(t, "record n{a:"+strings.Replace(a, "%s", "^n", 1)+";}", api.ErrThere)
		expectAt(t, "record n{a:[{(null|"+strings.Replace(a, "%s", "^n", 1)+")}];}", api.ErrThere)
	}
	for _, s := range []string{
		"enum e<x,^x>", "enum e<x,y,^x>", "enum e<x,y,^y,z>", "enum e<" + forty + ",^" + forty + ">", "enum e<e,^e>",
		"record r{a:int;^a:int;}", "record r{a?:int;^a:int;}", "record r{a:int;^a?:text;}", "record r{a:int;b:int;c:int;^b:int;}", "record r{a:int;b:int;^b:int;}", "record r{a:[record s{a:int;}];^a:int;}", "record r{r:r;^r:r;}", "record r{a:record s{a:int;b:int;^b:int;};}",
	} {
		expectAt(t, s, api.ErrThere)
	}
	for _, s := range []string{ // each kind of names by itself
		"enum e<e>", "record r{r:int;}", "record r{a:enum a<a>;}", "record r{x:enum e<x,r>;e:enum r2<x,e>;}", "record r{a:record s{a:int;r:int;};s:int;}",
		"record r{a:int;b:enum a<x>;c:fixed b 1;d:record c{};}", "record r{e:enum e<e>;f:fixed f 1;}", "[record a{a:enum b<a,b>;b:record c{a:a;b:b;c:c;};}]",
	} {
		if got := read(t, s); got.e != api.OK {
			t.Errorf("Parse(%q): %d, %d", s, got.place, got.e)
		}
	}
}

func TestUnions(t *testing.T) { // P7.1: at a union's TYPE's first token
	plains := slices.Concat(keywords[:6], []string{"[int]", "[text]", "{int}", "{[int]}"})
	for _, a := range plains {
		for _, b := range plains {
			if a == b || a[0] == b[0] && strings.Contains("[{", a[:1]) {
				expectAt(t, "("+a+"|^"+b+")", api.ErrThere)
				expectAt(t, "("+a+"|enum e<x>|^"+b+"|null)", api.ErrThere)
				expectAt(t, "[(fixed f 1|"+a+"|^"+b+"|"+b+")]", api.ErrThere)
			} else if got := read(t, "("+a+"|"+b+")"); got.e != api.OK || len(got.o.Nodes[0].Items) != 2 {
				t.Errorf("a union of %s and %s: %d, %d", a, b, got.place, got.e)
			}
			if got := read(t, "("+a+"|record r{a:("+b+"|r);})"); got.e != api.OK { // another union's types are its own affair
				t.Errorf("unions of %s and %s: %d, %d", a, b, got.place, got.e)
			}
		}
		expectAt(t, "("+a+"|^("+a+"))", api.ErrForm)
		expectAt(t, "(record r{}|^("+a+"|null))", api.ErrForm)
	}
	for _, s := range []string{"(^(int))", "(^(int)|text)", "(^(", "([int]|^(null))", "[(int|^(text))]", "(int|^(;", "(^()"} {
		expectAt(t, s, api.ErrForm)
	}
	for _, s := range []string{
		"(enum e<x>|^e)", "(fixed f 1|^f)", "(record r{}|^r)", "(record r{a:r;}|int|^r)", "record r{a:(r|^r);}", "record r{a:(r|null|^r);}",
		"record r{a:enum e<x>;b:(e|^e);}", "record r{a:fixed f 1;b:(null|f|int|^f|f);}", "record r{a:[(record s{}|^s)];}", "(enum e<x>|enum f<x>|^e)", "(enum e<x>|enum f<x>|^f)", "(record r{}|enum e<x>|fixed f 1|^f)", "record r{a:(null|r);b:(r|^r);}",
	} {
		expectAt(t, s, api.ErrThere)
	}
	for _, x := range []struct {
		s    string
		want answer
	}{ // of enums, fixeds and records the Name tells, not the kind
		{"(enum e<x>|enum f<x>)", fine(union(1, 2), enum("e", "x"), enum("f", "x"))},
		{"(fixed e 1|fixed f 1)", fine(union(1, 2), fixed("e", 1), fixed("f", 1))},
		{"(record e{}|record f{}|enum g<e>|fixed h 1)", fine(union(1, 2, 3, 4), record("e"), record("f"), enum("g", "e"), fixed("h", 1))},
		{"record r{a:record s{};b:(r|s);}", fine(record("r", must("a", 1), must("b", 2)), record("s"), union(0, 1))},
		{"record r{a:(null|r);b:(r|null);}", fine(record("r", must("a", 1), must("b", 3)), union(2, 0), plain(0), union(0, 4), plain(0))},
		{"([(int|null)]|int|null)", fine(union(1, 5, 6), array(2), union(3, 4), plain(2), plain(0), plain(2), plain(0))},
		{"record r{a:(r|[(r|null)]|record s{a:(r|s);});}", fine(record("r", must("a", 1)), union(0, 2, 5), array(3), union(0, 4), plain(0), record("s", must("a", 6)), union(0, 5))},
	} {
		expect(t, x.s, x.want)
	}
}

// within lays s in n others.
func within(n int, s string) string {
	return strings.Repeat("[", n) + s + strings.Repeat("]", n)
}

func TestTooDeep(t *testing.T) { // P7.1: MaxDepth
	chain := func(n int, open, last, end string) string {
		return strings.Repeat(open, n) + last + strings.Repeat(end, n)
	}
	for _, x := range []struct{ open, end string }{{"[", "]"}, {"{", "}"}} {
		got := read(t, chain(19, x.open, "int", x.end))
		if got.e != api.OK || len(got.o.Nodes) != 20 {
			t.Errorf("20 TYPEs in one another: %d, %d", got.place, got.e)
		}
		expect(t, chain(20, x.open, "int", x.end), refused(20, api.ErrLong))
		expect(t, chain(21, x.open, "int", x.end), refused(20, api.ErrLong))
		expect(t, chain(400, x.open, "int", x.end), refused(20, api.ErrLong))
		expect(t, chain(400, x.open, "", ""), refused(20, api.ErrLong))
	}
	expect(t, chain(10, "([", "int", "])"), refused(20, api.ErrLong))
	expect(t, chain(9, "([", "(int)", "])"), wanted("([([([([([([([([([(int)])])])])])])])])])"))
	nest := func(n int, last string) string { // records in one another
		s := ""
		for i := range n {
			s += fmt.Sprintf("record r%d{a:", i)
		}
		return s + last + strings.Repeat(";}", n)
	}
	for _, last := range []string{"int", "r0", "r18", "enum e<x>", "fixed f 1", "record e{}"} {
		if got := read(t, nest(19, last)); got.e != api.OK {
			t.Errorf("%s in 19 records: %d, %d", last, got.place, got.e)
		}
		s := nest(20, last)
		expect(t, s, refused(strings.LastIndex(s, ":")+1, api.ErrLong))
	}
	for _, last := range []string{"null", "bool", "int", "long", "bytes", "text", "[int]", "{int}", "(int)", "enum e<x>", "fixed f 1", "record r{}", "[", "(", "enum", "record", "a", forty, "enum <", "fixed f f"} {
		expect(t, within(20, last), refused(20, api.ErrLong)) // ahead of what else is wrong there: names that are not there, all that is behind
	}
	for _, last := range []string{"", ";", ")", ">", "0", "?", forty + "a"} {
		expect(t, within(20, last), refused(20, api.ErrForm)) // what begins no TYPE is not too deep
	}
	expect(t, within(19, "a"), refused(19, api.ErrNone))
	expect(t, within(19, "[int]"), refused(20, api.ErrLong))
	expect(t, within(19, "(int|text)"), refused(20, api.ErrLong))
	expect(t, within(18, "(int|(text))"), refused(23, api.ErrForm))
	expect(t, within(18, "(int|int)"), refused(23, api.ErrThere))
	expectAt(t, "record r{a:"+strings.Repeat("[", 19)+"^r", api.ErrLong)
	expectAt(t, "record r{a:"+strings.Repeat("[", 18)+"r^;", api.ErrForm)
	expectAt(t, "record r{a:"+strings.Repeat("[", 18)+"(^r|r)", api.ErrLong)
	expectAt(t, "record r{a:"+strings.Repeat("[", 17)+"(r|^r)", api.ErrThere)
	// Fields, symbols and sizes are no TYPEs: they lie as deep as they like.
	for _, s := range []string{"enum e<x,y>", "fixed f 7", "record r{}"} {
		if got := read(t, within(19, s)); got.e != api.OK {
			t.Errorf("%s in 19 others: %d, %d", s, got.place, got.e)
		}
	}
	// What is behind is not in it.
	if s := "record r{a:" + within(18, "int") + ";b:" + within(18, "r") + ";c:{" + within(17, "text") + "};}"; read(t, s).e != api.OK {
		t.Error("several deep TYPEs side by side")
	}
}

// many: a record with n fields f0, f1 .. of int, and rest behind them.
func many(n int, rest string) string {
	var b strings.Builder
	b.WriteString("record r{")
	for i := range n {
		fmt.Fprintf(&b, "f%d:int;", i)
	}
	return b.String() + rest
}

func TestTooManyNodes(t *testing.T) { // P7.1: MaxNodes
	for _, n := range []int{198, 199} {
		got := read(t, many(n, "}"))
		if got.e != api.OK || len(got.o.Nodes) != n+1 {
			t.Errorf("%d nodes: %d, %d", n+1, got.place, got.e)
		}
	}
	for _, s := range []string{"int", "null", "[int]", "{int}", "(int)", "enum e<x>", "fixed f 1", "record s{}", "enum", "record", "record 0", "[", "((", "enum r<x>"} {
		expectAt(t, many(199, "a:^"+s+";}"), api.ErrLong)
	}
	for _, s := range []string{"", ";", "}", "0", "?", forty + "a"} {
		expectAt(t, many(199, "a:^"+s), api.ErrForm)
	}
	expectAt(t, many(199, "a:^s;}"), api.ErrNone)
	expectAt(t, many(199, "^f7:int;}"), api.ErrThere)
	expectAt(t, many(199, "^int:int;}"), api.ErrForm)
	if got := read(t, many(199, "a:r;b?:r;}")); got.e != api.OK || len(got.o.Nodes) != 200 || len(got.o.Nodes[0].Fields) != 201 {
		t.Errorf("names behind 200 nodes: %d, %d", got.place, got.e)
	}
	expectAt(t, many(196, "a:(int|^int);}"), api.ErrThere)
	expectAt(t, many(196, "a:(int|^(text));}"), api.ErrForm)
	expectAt(t, many(197, "a:(int|^int);}"), api.ErrLong)
	expectAt(t, many(197, "a:(int|^(text));}"), api.ErrLong)
	expectAt(t, many(197, "a:(int|^a);}"), api.ErrNone)
	expectAt(t, many(197, "a:(int|r|^r);}"), api.ErrThere) // a name begins no node
	expectAt(t, many(197, "a:(int|r|^int);}"), api.ErrLong)
	expectAt(t, many(197, "a:(int|r|^(text));}"), api.ErrLong)
	expectAt(t, many(196, "a:(int|text|^int);}"), api.ErrLong)
	expectAt(t, many(198, "a:[^int];}"), api.ErrLong)
	expectAt(t, many(198, "a:enum e<x>;b:e;c:^int;}"), api.ErrLong)
}

// full: a record with n fields of itself, of which those below q have a default; it has 5 + 4n + q tokens, the end among them.
func full(n, q int) string {
	var b strings.Builder
	b.WriteString("record r{")
	for i := range n {
		b.WriteString("f" + strconv.FormatInt(int64(i), 36))
		if i < q {
			b.WriteByte('?')
		}
		b.WriteString(":r;")
	}
	return b.String() + "}"
}

// long: a record whose text has n bytes.
func long(n int) string {
	var b strings.Builder
	b.WriteString("record r{")
	for i := range 1000 {
		if room := n - b.Len() - len("}"); room < 50 {
			fmt.Fprintf(&b, "z%0*d:r;}", room-len("z:r;"), 0)
			break
		}
		fmt.Fprintf(&b, "f%09d:r;", i)
	}
	return b.String()
}

func TestWordsErrors(t *testing.T) { // P7.1: lex.Words's errors ahead of all others
	for _, s := range []string{"int ^!", "; ^$", "a b c ^A", "[[[[ ^_", "enum e<x,x> ^-", "^.", strings.Repeat("[", 30) + "^=", "(int|int) # !\n ^*"} {
		expectAt(t, s, api.ErrForm)
	}
	expect(t, "int"+strings.Repeat(" ", 4093), fine(plain(2)))
	expect(t, "int"+strings.Repeat(" ", 4094), refused(0, api.ErrLong))
	expect(t, ";!"+strings.Repeat(" ", 4095), refused(0, api.ErrLong))
	for _, n := range []int{4095, 4096} {
		if s := long(n); len(s) != n || read(t, s).e != api.OK {
			t.Errorf("a text of %d bytes: %d", len(s), read(t, s).e)
		}
	}
	expect(t, long(4097), refused(0, api.ErrLong))
	expect(t, long(9999), refused(0, api.ErrLong))
	if s := full(373, 3); len(s) > 4096 || read(t, s).e != api.OK {
		t.Errorf("a text of 1500 tokens: %d", read(t, s).e)
	}
	expect(t, full(373, 4), refused(4096, api.ErrLong))
	expect(t, full(374, 0), refused(4096, api.ErrLong))
	expect(t, strings.Repeat("[", 1500), refused(4096, api.ErrLong))
	expect(t, strings.Repeat("[", 1499), refused(20, api.ErrLong))
	expect(t, strings.Repeat(";", 1500), refused(4096, api.ErrLong))
}

func TestFirstError(t *testing.T) { // P7.1: the text being gone through token by token
	for _, x := range []struct {
		s string
		e api.Errno
	}{
		{"(int|^int|a|(", api.ErrThere},
		{"(int|^a|int)", api.ErrNone},
		{"(int|^(a|a)|int", api.ErrForm},
		{"record r{a:^b;a:int;}", api.ErrNone},
		{"record r{a:int;^a:b;}", api.ErrThere},
		{"record r{a:int;^a b", api.ErrThere},
		{"record r{a:int;^a", api.ErrThere},
		{"record r{a:record ^r 0", api.ErrThere},
		{"enum e<x,^x ;", api.ErrThere},
		{"enum e<x,^int,x>", api.ErrForm},
		{"fixed ^int 007", api.ErrForm},
		{"record r{a:fixed ^r 007;}", api.ErrThere},
		{"record r{a:enum e<x>;b:(e|[^b]|e);}", api.ErrNone},
		{"(enum e<x>|[^a]|e)", api.ErrNone},
		{"(record r{a:^a;}|r|r)", api.ErrNone},
		{"(enum e<x>|enum ^e", api.ErrThere},
		{"[^a;", api.ErrNone},
		{"[int^;a", api.ErrForm},
		{"(int|^(int", api.ErrForm},
		{"a^!", api.ErrForm}, // what begins no token is told ahead of all tokens
	} {
		expectAt(t, x.s, x.e)
	}
}

func TestAsAStackTellsIt(t *testing.T) { // P7.1 of many texts, by another way
	for _, s := range whole() {
		expect(t, s, wanted(s))
	}
	r := rand.New(rand.NewSource(2))
	kinds := map[api.Errno]int{}
	for i := range 60000 {
		s := someType(r)
		if i%2 == 1 {
			s = spoilt(r, s)
		}
		if i%3 == 1 && len(s) < 1000 {
			s = spaced(r, s)
		}
		want := wanted(s)
		kinds[want.e]++
		expect(t, s, want)
	}
	pieces := slices.Concat(keywords, strings.Split("()[]{}<>|:;,?", ""), []string{"a", "b", "0", "1"})
	for range 60000 {
		var l []string
		for range r.Intn(9) {
			l = append(l, pieces[r.Intn(len(pieces))])
		}
		s := strings.Join(l, " ")
		expect(t, s, wanted(s))
	}
	if kinds[api.OK] < 20000 || kinds[api.ErrForm] < 10000 || kinds[api.ErrNone] < 1000 || kinds[api.ErrThere] < 300 || kinds[api.ErrLong] < 300 {
		t.Errorf("too few texts of a kind: %v", kinds)
	}
}

func TestEachBeginning(t *testing.T) { // P7.1: what ends too early, or goes on too far, is told at the end, or behind the whole
	for _, s := range whole()[:60] {
		words, _, _ := lex.Words(s)
		for _, w := range words[:len(words)-1] {
			ahead := strings.TrimRight(s[:w.At], " ")
			expect(t, ahead, refused(len(ahead), api.ErrForm))
		}
		for _, behind := range []string{"int", "a", ";", "0", "[", "}", ">", ")"} {
			expect(t, s+" "+behind, refused(len(s)+1, api.ErrForm))
		}
	}
}

func TestShow(t *testing.T) { // P7.2: the text has no blanks but those
	for _, s := range whole() {
		if got, e := parse.Show(read(t, s).o); got != s || e != api.OK {
			t.Errorf("Show of %q is %q, %d", s, got, e)
		}
	}
	r := rand.New(rand.NewSource(3))
	for _, s := range whole() {
		if len(s) > 600 {
			continue
		}
		if got, e := parse.Show(read(t, spaced(r, s)).o); got != s || e != api.OK {
			t.Errorf("Show of %q is %q, %d", s, got, e)
		}
	}
}

func TestDepth(t *testing.T) { // P7.2
	for s, want := range map[string]int{
		"null": 1, "bool": 1, "int": 1, "long": 1, "bytes": 1, "text": 1, "enum e<x>": 1, "fixed f 9": 1, "record r{}": 1,
		"[int]": 2, "{int}": 2, "(int)": 2, "(int|text)": 2, "[[int]]": 3, "(int|[text])": 3, "([text]|int)": 3, "record r{a:int;}": 2, "record r{a:r;}": 2, "record r{a:[r];}": 3,
		"record r{a:int;b:[int];c:text;}": 3, "record r{a:record s{};}": 2, "record r{a:record s{a:r;};b:s;}": 3, "record r{a:record s{a:[[int]];};b:s;}": 5, "[record r{}]": 2, "{(null|[{int}])}": 5,
		"record p{a?:(null|p);}": 3, "record a{a:[enum e<x>];b:{[e]};c:e;}": 4,
	} {
		if got := parse.Depth(read(t, s).o); got != want {
			t.Errorf("Depth of %q is %d, not %d", s, got, want)
		}
	}
	for n := range 20 {
		if got := parse.Depth(read(t, within(n, "int")).o); got != n+1 {
			t.Errorf("Depth of int in %d others is %d", n, got)
		}
	}
}

func TestNoText(t *testing.T) { // P7.2: schemas that no text has
	for _, o := range []api.Schema{
		{}, schema(), {Nodes: []api.Node{}},
		schema(plain(-1)), schema(plain(12)), schema(plain(13)), schema(plain(1 << 40)), schema(plain(-1 << 63)),
		schema(plain(0), plain(0)), schema(array(1), plain(2), plain(2)), schema(record("r"), plain(0)), // nodes that nothing is of
		schema(api.Node{K: 0, Name: "a"}), schema(api.Node{K: 2, Size: 1}), schema(api.Node{K: 5, Syms: []string{"a"}}), schema(api.Node{K: 3, Items: []int{0}}), schema(api.Node{K: 1, Fields: []api.Field{{}}}), schema(api.Node{K: 2, Name: " "}),
		schema(api.Node{K: 6, Items: []int{1}, Name: "a"}, plain(2)), schema(api.Node{K: 6, Items: []int{1}, Size: 1}, plain(2)), schema(api.Node{K: 7, Items: []int{1}, Syms: []string{"a"}}, plain(2)), schema(api.Node{K: 8, Items: []int{1}, Fields: []api.Field{must("a", 1)}}, plain(2)),
		schema(api.Node{K: 9, Name: "e", Syms: []string{"x"}, Size: 1}), schema(api.Node{K: 9, Name: "e", Syms: []string{"x"}, Items: []int{0}}), schema(api.Node{K: 10, Name: "f", Size: 1, Syms: []string{""}}), schema(api.Node{K: 11, Name: "r", Size: 1}), schema(api.Node{K: 11, Name: "r", Syms: []string{"x"}}), schema(api.Node{K: 11, Name: "r", Items: []int{0}}),
		schema(plain(6)), schema(plain(7)), schema(plain(8)), schema(array(0)), schema(array(1)), schema(array(-1)), schema(mapping(0)), schema(union(0)), schema(array(1<<62), plain(2)), schema(array(-1<<63), plain(2)), schema(array(2), plain(2)), schema(array(2), plain(2), plain(2)),
		schema(api.Node{K: 6, Items: []int{1, 2}}, plain(2), plain(3)), schema(api.Node{K: 7, Items: []int{1, 2}}, plain(2), plain(3)), schema(api.Node{K: 6, Items: []int{1, 1}}, plain(2)),
		schema(array(1), array(0)), schema(array(1), array(1)), schema(union(1, 1), plain(2)), schema(union(2, 1), plain(2), plain(3)), schema(union(1, 2), plain(2), plain(2)), schema(union(1, 2), plain(2), union(3), plain(3)), schema(union(1, 0), plain(0)),
		schema(union(1, 1), enum("e", "x")), schema(union(1, 2), enum("e", "x"), enum("e", "y")), schema(union(1, 2), enum("e", "x"), fixed("e", 1)),
		schema(record("r", must("a", 1), must("b", 1)), plain(2)), schema(record("r", must("a", 2), must("b", 1)), plain(2), plain(3)), schema(record("r", must("a", 1), must("a", 2)), plain(2), plain(3)), schema(record("r", must("a", 1))), schema(record("r", must("a", -1))), schema(record("r", must("a", 1), must("b", 2)), array(0), array(1)), schema(record("r", must("a", 1), must("b", 1)), array(0)),
		schema(record("r", must("", 0))), schema(record("r", must("int", 0))), schema(record("r", must("a b", 0))), schema(record("r", must("a?", 0))), schema(record("r", must("a:r;b", 0))), schema(record("r", must(" a", 0))), schema(record("r", must("a#", 0))), schema(record("r", must("A", 0))), schema(record("r", must(forty+"a", 0))),
		schema(record("")), schema(record("null")), schema(record("r ")), schema(record("r{}#")), schema(record("\nr")), schema(record(forty + "a")), schema(record("é")),
		schema(enum("e")), schema(enum("")), schema(enum("", "x")), schema(enum("e", "")), schema(enum("e", "x", "")), schema(enum("e", "x", "x")), schema(enum("e", "x", "y", "x")), schema(enum("e", "int")), schema(enum("e", "x,y")), schema(enum("e", " x")), schema(enum("e<x>#", "y")), schema(enum("enum", "x")), schema(enum("e", forty+"a")), schema(enum("e", "x#\n")), schema(enum("e#\n", "x")),
		schema(fixed("", 1)), schema(fixed("f", -1)), schema(fixed("f", 4097)), schema(fixed("f", 1<<62)), schema(fixed("f", -1<<63)), schema(fixed("fixed", 1)), schema(fixed("f 1", 1)), schema(fixed("0", 1)), schema(fixed("f 1#", 16)),
		schema(record("r", must("a", 1)), record("r")), schema(record("r", must("a", 1)), enum("r", "x")), schema(array(1), fixed("int", 3)),
	} {
		expectShown(t, o, "", 0)
	}
	for i, s := range whole()[:28] { // each of these and one node more, or less
		o := read(t, s).o
		expectShown(t, schema(append(slices.Clone(o.Nodes), plain(i%12))...), "", 0)
		expectShown(t, schema(o.Nodes[:len(o.Nodes)-1]...), "", 0)
	}
}

func TestShowAtTheLimits(t *testing.T) { // P7.2: what Parse refuses has no text
	expectShown(t, schema(record("r", must(forty, 0), may("b", 0))), "record r{"+forty+":r;b?:r;}", 2)
	expectShown(t, schema(fixed(forty, 4096)), "fixed "+forty+" 4096", 1)
	deep := func(n int) api.Schema { // n arrays, one in the other, and int
		var l []api.Node
		for i := range n {
			l = append(l, array(i+1))
		}
		return schema(append(l, plain(2))...)
	}
	expectShown(t, deep(19), within(19, "int"), 20)
	for _, n := range []int{20, 21, 150, 199, 200, 5000, 100000} {
		expectShown(t, deep(n), "", 0)
	}
	ring := deep(18)
	ring.Nodes[18] = array(0) // an array in itself
	expectShown(t, ring, "", 0)
	ring = schema(append([]api.Node{record("r", must("a", 1))}, deep(18).Nodes...)...)
	for i := range ring.Nodes[1:19] {
		ring.Nodes[i+1].Items[0]++
	}
	expectShown(t, ring, "record r{a:"+within(18, "int")+";}", 20)
	ring.Nodes[18].Items[0] = 0
	expectShown(t, schema(ring.Nodes[:19]...), "record r{a:"+within(18, "r")+";}", 20)
	wide := func(n int) api.Schema { // a record with n fields of int
		x, l := record("r"), []api.Node(nil)
		for i := range n {
			x.Fields = append(x.Fields, must("f"+strconv.Itoa(i), i+1))
			l = append(l, plain(2))
		}
		return schema(append([]api.Node{x}, l...)...)
	}
	expectShown(t, wide(199), many(199, "}"), 2)
	for _, n := range []int{200, 201, 300, 100000} {
		expectShown(t, wide(n), "", 0)
	}
	of := func(s string) api.Schema { // the schema of a record as full and long make it, worked out without Parse
		x := record("r")
		for _, f := range strings.Split(strings.TrimSuffix(strings.TrimPrefix(s, "record r{"), ":r;}"), ":r;") {
			name, has := strings.CutSuffix(f, "?")
			x.Fields = append(x.Fields, api.Field{Name: name, Has: has})
		}
		return schema(x)
	}
	for _, s := range []string{full(373, 3), full(372, 0), long(4095), long(4096)} {
		expectShown(t, of(s), s, 2)
	}
	for _, s := range []string{full(373, 4), full(374, 0), full(5000, 5), long(4097), long(4098), long(5000)} {
		expectShown(t, of(s), "", 0)
	}
}

func TestHugeSchemas(t *testing.T) { // DOC.md, Ends: what has no text is told soon, whatever it is
	name := strings.Repeat("n", 1<<26)
	same := make([]int, 1<<20)
	texts, fields := make([]string, 1<<20), make([]api.Field, 1<<20)
	for i := range texts {
		texts[i], fields[i].Name = name, name
	}
	for _, o := range []api.Schema{
		schema(api.Node{K: 8, Items: same}), schema(api.Node{K: 6, Items: same}), schema(api.Node{K: 7, Items: same, Name: "a"}), schema(api.Node{K: 8, Items: same, Name: name}),
		schema(record(name)), schema(enum(name, texts...)), schema(enum("e", texts...)), schema(enum("e", make([]string, 1<<20)...)), schema(fixed(name, 1)),
		schema(record("r", fields...)), schema(record("r", make([]api.Field, 1<<20)...)), schema(record(name, fields...)), {Nodes: make([]api.Node, 1<<20)},
		schema(record("r", must("a", 1)), api.Node{K: 8, Items: same, Name: "r"}), schema(api.Node{K: 2, Syms: texts, Items: same, Fields: fields}),
	} {
		expectShown(t, o, "", 0)
	}
}

// shown: the text that o should have, and its depth; false, if it has none: the rules held against nodes, not tokens.
type shown struct {
	nodes  []api.Node
	begun  int
	tokens int
	deep   int
	wrong  bool
}

func textOf(o api.Schema) (string, int, bool) {
	w := &shown{nodes: o.Nodes, tokens: 1}
	s := w.of(0, 1)
	names := map[string]bool{}
	for _, x := range o.Nodes {
		w.wrong = w.wrong || x.Name != "" && names[x.Name]
		names[x.Name] = true
	}
	if w.wrong || w.begun != len(o.Nodes) || len(o.Nodes) > 200 || w.tokens > 1500 || len(s) > 4096 {
		return "", 0, false
	}
	return s, w.deep, true
}

// hold: whether all of these hold.
func (w *shown) hold(all ...bool) {
	w.wrong = w.wrong || slices.Contains(all, false)
}

// good: whether a text is a NAME.
func good(s string) bool { return lex.Name(s) && !slices.Contains(keywords, s) }

// of: the text of the node n, which lies in deep TYPEs, itself among them.
func (w *shown) of(n, deep int) string {
	w.hold(n >= 0, n < len(w.nodes), n <= w.begun, deep <= 20)
	w.deep = max(w.deep, deep)
	w.tokens++
	if w.wrong {
		return ""
	}
	x := w.nodes[n]
	if n < w.begun {
		w.hold(x.K >= api.KEnum)
		return x.Name
	}
	w.begun++
	w.hold(x.K >= 0, x.K < 12, (x.Name != "") == (x.K >= 9), x.K < 9 || good(x.Name), x.K == 10 || x.Size == 0, x.Size >= 0, x.Size <= 4096,
		len(x.Syms) > 0 == (x.K == 9), len(x.Items) > 0 == (x.K >= 6 && x.K <= 8), x.K == 8 || len(x.Items) < 2, x.K == 11 || len(x.Fields) == 0)
	if w.wrong {
		return ""
	}
	w.tokens += []int{0, 0, 0, 0, 0, 0, 1, 1, len(x.Items), 2 + 2*len(x.Syms), 2, 3}[x.K]
	switch {
	case x.K < 6:
		return keywords[x.K]
	case x.K == 9:
		for i, s := range x.Syms {
			w.hold(good(s), !slices.Contains(x.Syms[:i], s))
		}
		return "enum " + x.Name + "<" + strings.Join(x.Syms, ",") + ">"
	case x.K == 10:
		return "fixed " + x.Name + " " + strconv.Itoa(x.Size)
	case x.K == 11:
		return "record " + x.Name + "{" + w.fields(x.Fields, deep) + "}"
	}
	var l []string
	for i, n := range x.Items {
		l = append(l, w.of(n, deep+1))
		for _, m := range x.Items[:i] {
			w.hold(n != m, w.wrong || w.nodes[n].K >= 9 || w.nodes[n].K != w.nodes[m].K)
		}
		w.hold(w.wrong || x.K != 8 || w.nodes[n].K != 8)
	}
	return "[{("[x.K-6:x.K-5] + strings.Join(l, "|") + "]})"[x.K-6:x.K-5]
}

// fields: the text of these.
func (w *shown) fields(l []api.Field, deep int) string {
	s := ""
	for i, f := range l {
		w.hold(good(f.Name), !slices.ContainsFunc(l[:i], func(o api.Field) bool { return o.Name == f.Name }))
		w.tokens += 3
		s += f.Name
		if f.Has {
			w.tokens++
			s += "?"
		}
		s += ":" + w.of(f.Type, deep+1) + ";"
	}
	return s
}

// bent changes something of o.
func bent(r *rand.Rand, o api.Schema) {
	n := r.Intn(len(o.Nodes))
	x := &o.Nodes[n]
	names := []string{"", "a", "x", "int", "a0", "b1", "r", "A", forty, forty + "x", o.Nodes[r.Intn(len(o.Nodes))].Name}
	name, node := names[r.Intn(len(names))], r.Intn(len(o.Nodes)+2)-1
	switch r.Intn(12) {
	case 0:
		x.K = r.Intn(14) - 1
	case 1:
		x.Name = name
	case 2:
		x.Size = []int{0, -1, 1, 4096, 4097}[r.Intn(5)]
	case 3:
		x.Syms = append(x.Syms, name)
	case 4:
		x.Items = append(x.Items, node)
	case 5:
		x.Fields = append(x.Fields, api.Field{Name: name, Has: r.Intn(2) == 0, Type: node})
	case 6:
		x.Syms = x.Syms[:r.Intn(len(x.Syms)+1)]
	case 7:
		x.Items = x.Items[:r.Intn(len(x.Items)+1)]
	case 8:
		x.Fields = x.Fields[:r.Intn(len(x.Fields)+1)]
	case 9:
		if len(x.Items) > 0 {
			x.Items[r.Intn(len(x.Items))] = node
		}
	case 10:
		if len(x.Fields) > 0 {
			f := &x.Fields[r.Intn(len(x.Fields))]
			*f = []api.Field{{Name: name, Has: f.Has, Type: f.Type}, {Name: f.Name, Has: !f.Has, Type: f.Type}, {Name: f.Name, Has: f.Has, Type: node}}[r.Intn(3)]
		}
	case 11:
		if len(x.Syms) > 0 {
			x.Syms[r.Intn(len(x.Syms))] = name
		}
	}
}

func TestBentSchemas(t *testing.T) { // P7.2 of many schemas, by another way
	r := rand.New(rand.NewSource(4))
	with, without := 0, 0
	for range 60000 {
		s := someType(r)
		got := wanted(s)
		if got.e != api.OK {
			continue
		}
		o := got.o
		for range r.Intn(3) {
			bent(r, o)
		}
		text, depth, ok := textOf(o)
		if ok {
			with++
		} else {
			without++
		}
		expectShown(t, o, text, depth)
	}
	if with < 10000 || without < 10000 {
		t.Errorf("too few schemas of a sort: %d with a text, %d without", with, without)
	}
	for _, s := range whole() { // the other way by itself
		if text, _, ok := textOf(wanted(s).o); text != s || !ok {
			t.Errorf("of %q another way tells %q", s, text)
		}
	}
}

func TestThereAndBack(t *testing.T) { // P7.3
	r := rand.New(rand.NewSource(5))
	l := whole()
	for range 5000 {
		l = append(l, someType(r))
	}
	for _, s := range l {
		got := read(t, s)
		if got.e != api.OK {
			continue
		}
		text, e := parse.Show(got.o)
		if e != api.OK || len(text) > len(s) {
			t.Fatalf("Show of Parse(%q) is %q, %d", s, text, e)
		}
		expect(t, text, got)
		if again, e := parse.Show(read(t, text).o); again != text || e != api.OK {
			t.Fatalf("Show of Parse(%q) is %q, %d", text, again, e)
		}
	}
}

func TestApart(t *testing.T) { // P7.4
	r := rand.New(rand.NewSource(6))
	by := map[string]string{}
	for range 30000 {
		got := wanted(someType(r))
		if got.e != api.OK {
			continue
		}
		for range r.Intn(2) {
			bent(r, got.o)
		}
		text, e := parse.Show(got.o)
		if e != api.OK {
			continue
		}
		if was, there := by[text]; there && was != told(got.o) {
			t.Fatalf("two schemas have the text %q", text)
		}
		by[text] = told(got.o)
	}
	if len(by) < 5000 {
		t.Errorf("too few texts: %d", len(by))
	}
}

func TestNilAndEmpty(t *testing.T) { // DOC.md, Memory: they are alike
	no, noInts, noFields := []string{}, []int{}, []api.Field{}
	for _, x := range []api.Node{plain(2), enum("e", "x"), fixed("f", 7), record("r")} {
		text, _, _ := textOf(schema(x))
		if x.Syms == nil {
			x.Syms = no
		}
		if x.Fields == nil {
			x.Fields = noFields
		}
		x.Items = noInts
		expectShown(t, schema(x), text, 1)
	}
}

// fill fills the spare room of a list.
func fill[T any](l []T, x T) {
	spare := l[len(l):cap(l)]
	for i := range spare {
		spare[i] = x
	}
}

// spoil fills the spare room of all lists of o.
func spoil(o api.Schema) {
	for _, x := range o.Nodes {
		fill(x.Syms, "spoilt")
		fill(x.Items, -7)
		fill(x.Fields, must("spoilt", -7))
	}
	fill(o.Nodes, enum("spoilt", "spoilt"))
}

func TestMemory(t *testing.T) { // DOC.md, Memory: what is handed in is neither changed nor kept; each answer is new
	for _, s := range whole() {
		b := append([]byte(s), "spare"...)
		was := slices.Clone(b)
		first, second := read(t, unsafe.String(&b[0], len(s))).o, read(t, s).o
		if !slices.Equal(b, was) {
			t.Fatalf("of %q: the argument was changed", s)
		}
		clear(b)
		want := told(second)
		if told(first) != want {
			t.Fatalf("of %q: an answer shares memory with its argument", s)
		}
		spoil(first)
		if told(first) != want {
			t.Fatalf("of %q: two lists of an answer share memory", s)
		}
		for i := range first.Nodes {
			x := &first.Nodes[i]
			clear(x.Syms)
			clear(x.Items)
			clear(x.Fields)
		}
		clear(first.Nodes)
		if told(second) != want || told(read(t, s).o) != want {
			t.Fatalf("of %q: two answers share memory", s)
		}
	}
}

func TestShowsMemory(t *testing.T) { // DOC.md, Memory: of Show and Depth
	for _, s := range whole() {
		b := []byte(s)
		words, _, _ := lex.Words(s)
		o := read(t, s).o
		lend := func(name string) string { // the same name, as a piece of b
			for _, w := range words {
				if w.S == name && name != "" {
					return unsafe.String(&b[w.At], len(name))
				}
			}
			return name
		}
		for i := range o.Nodes {
			x := &o.Nodes[i]
			x.Name = lend(x.Name)
			for j := range x.Syms {
				x.Syms[j] = lend(x.Syms[j])
			}
			for j := range x.Fields {
				x.Fields[j].Name = lend(x.Fields[j].Name)
			}
		}
		spoil(o)
		was := told(o)
		text, _ := parse.Show(o)
		parse.Depth(o)
		spare := o.Nodes[len(o.Nodes):cap(o.Nodes)]
		if told(o) != was || slices.ContainsFunc(spare, func(x api.Node) bool { return x.Name != "spoilt" }) {
			t.Fatalf("Show of %q changes its argument", s)
		}
		clear(b)
		if text != s {
			t.Fatalf("Show of %q shares memory with its argument", s)
		}
	}
}

func FuzzParse(f *testing.F) { // P7.1 to P7.4 of whatever text
	for _, s := range whole()[:60] {
		f.Add(s)
	}
	for _, s := range []string{"", "(int|int)", "(int|(text))", "enum e<x,x>", "[a]", "record r{a:int;a:int;}", within(20, "int"), many(200, "}"), full(373, 3), "fixed f 007", "fixed int 1", "a!"} {
		f.Add(s)
	}
	f.Fuzz(func(t *testing.T, s string) {
		want := wanted(s)
		expect(t, s, want)
		if want.e != api.OK {
			return
		}
		text, depth, ok := textOf(want.o)
		if !ok {
			t.Errorf("%q has a schema, but another way tells no text of it", s)
		}
		expectShown(t, want.o, text, depth)
		expect(t, text, want)
	})
}
