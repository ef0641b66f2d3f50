package resolve_test

import (
	"fmt"
	"math"
	"math/rand"
	"slices"
	"strconv"
	"strings"
	"testing"

	"suffragan/api"
	"suffragan/lex"
	"suffragan/parse"
	"suffragan/resolve"
)

// schema: the one that s is a text of.
func schema(t testing.TB, s string) api.Schema {
	t.Helper()
	o, place, e := parse.Parse(s)
	if e != api.OK {
		t.Fatalf("%q has no schema: %d, %d", s, place, e)
	}
	return o
}

// told writes a schema out whole.
func told(o api.Schema) string { return fmt.Sprintf("%+v", o) }

// short tells a text's beginning.
func short(s string) string { return fmt.Sprintf("%.300s", s) }

// rows writes a table in digits: 1 of true, a blank between two rows.
func rows(l [][]bool) string {
	var b strings.Builder
	for i, row := range l {
		if i > 0 {
			b.WriteByte(' ')
		}
		for _, is := range row {
			b.WriteString(map[bool]string{false: "0", true: "1"}[is])
		}
	}
	return b.String()
}

// ---- another way of working out the relation

// promoted: for each kind from null to text those that it reads.
var promoted = [][]int{{0}, {1}, {2}, {2, 3}, {4, 5}, {4, 5}}

// wanted: the relation of all nodes, each time worked out anew from the one before, at first from all pairs, until it stays; both must have a text.
func wanted(reader, writer api.Schema) [][]bool {
	old := make([][]bool, len(reader.Nodes))
	for r := range old {
		old[r] = slices.Repeat([]bool{true}, len(writer.Nodes))
	}
	for {
		next := make([][]bool, len(old))
		for r := range old {
			for w := range old[r] {
				next[r] = append(next[r], holds(reader, writer, old, r, w))
			}
		}
		if slices.EqualFunc(next, old, slices.Equal) {
			return old
		}
		old = next
	}
}

// holds: whether what P10.2 asks of a pair holds in that relation.
func holds(reader, writer api.Schema, in [][]bool, r, w int) bool {
	a, b := reader.Nodes[r], writer.Nodes[w]
	if b.K == 8 {
		for _, i := range b.Items {
			if !in[r][i] {
				return false
			}
		}
		return true
	}
	if a.K == 8 {
		for _, i := range a.Items {
			if in[i][w] {
				return true
			}
		}
		return false
	}
	if a.K <= 5 || b.K <= 5 {
		return a.K <= 5 && slices.Contains(promoted[a.K], b.K)
	}
	if a.K != b.K || a.Name != b.Name || a.Size != b.Size {
		return false
	}
	if a.K <= 7 {
		return in[a.Items[0]][b.Items[0]]
	}
	syms := map[string]bool{}
	for _, s := range a.Syms {
		syms[s] = true
	}
	for _, s := range b.Syms {
		if !syms[s] {
			return false
		}
	}
	places := map[string]int{}
	for _, f := range b.Fields {
		places[f.Name] = f.Type
	}
	for _, f := range a.Fields {
		if at, ok := places[f.Name]; ok && !in[f.Type][at] || !ok && !f.Has {
			return false
		}
	}
	return true
}

// expectTable holds all that is told of two schemas with a text, both ways, against the second tables of them. It answers whether the first reads the second, and the second the first.
func expectTable(t testing.TB, a, b api.Schema) (bool, bool) {
	t.Helper()
	there, back := wanted(a, b), wanted(b, a)
	expectWay(t, a, b, there)
	expectWay(t, b, a, back)
	alike := there[0][0] && back[0][0]
	if resolve.Alike(a, b) != alike || resolve.Alike(b, a) != alike {
		t.Errorf("of %s and %s: Alike is not %t", short(told(a)), short(told(b)), alike)
	}
	return there[0][0], back[0][0]
}

// expectWay holds what is told of a reader and a writer against a table.
func expectWay(t testing.TB, reader, writer api.Schema, want [][]bool) {
	t.Helper()
	if got := resolve.Pairs(reader, writer); rows(got) != rows(want) {
		t.Errorf("of %s and %s: Pairs = %s, not %s", short(told(reader)), short(told(writer)), short(rows(got)), short(rows(want)))
	}
	if got := resolve.Can(reader, writer); got != want[0][0] {
		t.Errorf("Can(%s, %s) = %t", short(told(reader)), short(told(writer)), got)
	}
}

// expect holds Can of two texts against what is wanted, and all else against the second table.
func expect(t *testing.T, reader, writer string, want bool) {
	t.Helper()
	r, w := schema(t, reader), schema(t, writer)
	if got := resolve.Can(r, w); got != want {
		t.Errorf("Can(%s, %s) = %t", reader, writer, got)
	}
	if got, _ := expectTable(t, r, w); got != want {
		t.Errorf("the second table of %s and %s tells %t", reader, writer, got)
	}
}

// expectPairs holds Pairs of two texts against rows in digits.
func expectPairs(t *testing.T, reader, writer, want string) {
	t.Helper()
	r, w := schema(t, reader), schema(t, writer)
	if got := rows(resolve.Pairs(r, w)); got != want {
		t.Errorf("Pairs(%s, %s) = %s, not %s", reader, writer, got, want)
	}
	expectTable(t, r, w)
}

// ---- the chapter's examples, and kinds

func TestExamples(t *testing.T) { // the chapter's examples, and DOC.md's seventh
	expect(t, "long", "int", true)
	expect(t, "int", "long", false)
	expect(t, "(null|int)", "int", true)
}

func TestConstants(t *testing.T) { // P10.1, P10.2: the numbers that this file writes out are those of api
	kinds := []int{api.KNull, api.KBool, api.KInt, api.KLong, api.KBytes, api.KText, api.KArray, api.KMap, api.KUnion, api.KEnum, api.KFixed, api.KRecord, api.Kinds}
	for i, k := range kinds {
		if i != k {
			t.Errorf("kind %d is %d", i, k)
		}
	}
}

func TestPromotes(t *testing.T) { // P10.1: of kinds from null to text, and of all other numbers
	l := []int{math.MinInt, math.MinInt32, math.MaxInt32, math.MaxInt, 1<<32 + 2, 1<<32 + 3}
	for k := -20; k <= 40; k++ {
		l = append(l, k)
	}
	for _, r := range l {
		for _, w := range l {
			want := r >= 0 && r <= 5 && slices.Contains(promoted[max(r, 0)%6], w)
			if got := resolve.Promotes(r, w); got != want {
				t.Errorf("Promotes(%d, %d) = %t", r, w, got)
			}
		}
	}
}

func TestKinds(t *testing.T) { // P10.2: of each kind what it reads of each kind; where there is a Name, all have the same
	kinds := []string{"null", "bool", "int", "long", "bytes", "text", "[int]", "{int}", "(int)", "enum e<x>", "fixed e 1", "record e{}"}
	want := []string{"100000000000", "010000000000", "001000001000", "001100001000", "000011000000", "000011000000", "000000100000", "000000010000", "001000001000", "000000000100", "000000000010", "000000000001"}
	for r, a := range kinds {
		for w, b := range kinds {
			is := want[r][w] == '1'
			expect(t, a, b, is)
			expect(t, "["+a+"]", "["+b+"]", is)
			expect(t, "{"+a+"}", "{"+b+"}", is)
			expect(t, "["+a+"]", "{"+b+"}", false)
			expect(t, "{"+a+"}", "["+b+"]", false)
			expect(t, "record r{a:"+a+";}", "record r{a:"+b+";}", is)
			expect(t, "record r{a?:"+a+";}", "record r{a:"+b+";}", is)
			if w != api.KUnion {
				expect(t, a, "("+b+")", is)
				expect(t, "record r{a:record s{b:[{"+a+"}];};}", "record r{a:record s{b:[{("+b+")}];};}", is)
			}
			if r != api.KUnion {
				expect(t, "("+a+")", b, is)
				expect(t, "[[("+a+")]]", "[["+b+"]]", is)
			}
		}
	}
}

// ---- what reads what, written out

// reading: a reader, what it reads, and what it does not.
type reading struct {
	reader  string
	yes, no []string
}

// readings: of each kind.
func readings() []reading {
	return []reading{
		{"[long]", []string{"[int]", "[long]", "[(int)]", "[(int|long)]", "([int])", "([(long)])"}, []string{"long", "[text]", "[[long]]", "{long}", "[(int|null)]", "([int]|{int})", "(null|[int])", "null"}},
		{"{text}", []string{"{bytes}", "{text}", "({bytes})", "{(text|bytes)}"}, []string{"[text]", "text", "{int}", "{{text}}", "([text])"}},
		{"[(int|text)]", []string{"[int]", "[text]", "[bytes]", "([int])", "[(bytes|int)]"}, []string{"[null]", "[long]", "[(int|null)]", "[[int]]", "int"}},
		{"(null|int)", []string{"null", "int", "(int|null)", "(int)", "(null)", "(null|int)"}, []string{"long", "(null|int|text)", "(text)", "bool", "[null]", "(null|long)"}},
		{"(int|text)", []string{"(text|int)", "(bytes|int)", "(int|bytes|text)", "bytes"}, []string{"(int|long)", "(text|int|null)", "null"}},
		{"(long|int)", []string{"int", "long", "(int|long)", "(long|int)"}, []string{"bool", "(bool|int)"}},
		{"long", []string{"(int|long)", "(long|int)", "(int)", "(long)"}, []string{"(int|null)", "(null|int)", "([int])", "(int|long|bool)"}},
		{"(record r{a:int;}|record s{a?:int;})", []string{"record r{a:int;}", "record s{}", "(record s{}|record r{a:int;})", "record s{a:int;b:int;}"}, []string{"record r{}", "record t{a:int;}", "record s{a:text;}", "(record s{}|record r{})"}},
		{"([int]|{int})", []string{"[int]", "{int}", "({int}|[int])"}, []string{"int", "[long]", "[[int]]", "({int}|[int]|int)"}},

		{"enum e<x>", []string{"enum e<x>", "(enum e<x>)"}, []string{"enum f<x>", "enum e<y>", "enum e<x,y>", "enum e<y,x>", "enum e1<x>", "enum e<x1>", "(enum e<x>|null)", "text"}},
		{"enum e<x,y,z>", []string{"enum e<x,y,z>", "enum e<z,y,x>", "enum e<y>", "enum e<z>", "enum e<z,x>", "enum e<y,z>"}, []string{"enum e<w>", "enum e<x,w>", "enum e<w,x>", "enum e<x,y,z,w>", "enum e<x,w,z>", "enum f<x>", "enum ee<x>", "enum e<xy>"}},
		{"fixed f 4", []string{"fixed f 4", "(fixed f 4)"}, []string{"fixed f 3", "fixed f 5", "fixed f 0", "fixed f 44", "fixed g 4", "fixed ff 4", "bytes", "enum f<x>", "record f{}"}},
		{"fixed f 0", []string{"fixed f 0"}, []string{"fixed f 1", "fixed g 0", "null", "record f{}"}},
		{"bytes", []string{"text", "(text|bytes)"}, []string{"fixed f 4", "enum e<x>", "[bytes]"}},

		{"record r{}", []string{"record r{}", "record r{a:int;}", "record r{a?:int;b:r;}", "(record r{})"}, []string{"record s{}", "record s{a:int;}", "null", "(record r{}|null)", "[record r{}]", "enum r<x>", "fixed r 0"}},
		{"record r{a:int;}", []string{"record r{a:int;}", "record r{a?:int;}", "record r{b:text;a:int;}", "record r{a:int;b:text;}", "record r{a:(int);}"}, []string{"record r{}", "record r{b:int;}", "record r{a:long;}", "record r{a?:null;}", "record s{a:int;}", "record r{a1:int;}", "record r{aa:int;}", "record r{a:[int];}", "record r{b:record a{a:int;};}"}},
		{"record r{a?:int;}", []string{"record r{}", "record r{a:int;}", "record r{a?:int;}", "record r{b:int;}", "record r{b:text;c:null;}"}, []string{"record r{a:text;}", "record r{a?:long;}", "record r{b:int;a:null;}", "record s{}", "record s{a:int;}"}},
		{"record r{a:long;b?:text;}", []string{"record r{a:int;}", "record r{a:long;}", "record r{b:bytes;a:int;}", "record r{c:null;a:int;b:text;}", "record r{c:null;a:int;}"}, []string{"record r{}", "record r{b:text;}", "record r{a:int;b:int;}", "record r{a:text;b:text;}", "record r{b:long;a:text;}"}},
		{"record r{a?:int;b:int;c?:int;}", []string{"record r{b:int;}", "record r{c:int;b:int;}", "record r{b:int;a:int;}", "record r{c:int;b:int;a:int;}"}, []string{"record r{a:int;c:int;}", "record r{a:null;b:int;}", "record r{b:int;c:long;}", "record r{b:text;}"}},
		{"record r{a:record s{b?:int;c:int;};d:s;}", []string{"record r{a:record s{c:int;};d:s;}", "record r{d:record s{c:int;b:int;};a:s;}", "record r{a:record s{c:int;};d:(s);}"}, []string{"record r{a:record s{b:int;};d:s;}", "record r{a:record s{c:int;};d:record t{c:int;};}", "record r{a:record s{c:int;};}", "record r{a:record t{c:int;};d:record s{c:int;};}", "record r{a:record s{c:int;b:text;};d:s;}"}},
		{"record r{a:enum e<x,y>;b?:[e];c?:fixed f 2;}", []string{"record r{a:enum e<y>;}", "record r{b:[enum e<x>];a:e;}", "record r{c:fixed f 2;a:enum e<y,x>;}"}, []string{"record r{a:enum e<y,z>;}", "record r{b:enum e<x>;a:e;}", "record r{c:fixed f 3;a:enum e<y>;}", "record r{a:enum f<x>;}", "record r{a:fixed e 1;}"}},
	}
}

// endless: records that hold themselves, and what reads them.
func endless() []reading {
	return []reading{
		{"record r{a:r;}", []string{"record r{a:r;}", "record r{a:r;b:int;}", "record r{b:[r];a:r;}", "record r{a:(r);}", "(record r{a:r;})"}, []string{"record r{}", "record r{a:null;}", "record r{a:[r];}", "record r{a:record s{a:r;};}", "record s{a:s;}", "record r{a:(null|r);}", "record r{b:r;}"}},
		{"record r{a?:r;}", []string{"record r{}", "record r{b:r;}", "record r{a:r;}", "record r{b:record s{a:s;};}"}, []string{"record r{a:null;}", "record r{a:record s{};}", "record s{}"}},
		{"record r{a:(null|r);}", []string{"record r{a:r;}", "record r{a:null;}", "record r{a:(r|null);}", "record r{a:(r);}", "record r{a:(null|r);b:int;}"}, []string{"record r{}", "record r{a:(null|r|int);}", "record r{a:[r];}", "record r{a:(null|record s{a:r;});}"}},
		{"record p{a?:(null|p);}", []string{"record p{}", "record p{a:p;}", "record p{a?:(p|null);}", "record p{b:int;}", "record p{a:(null);}"}, []string{"record p{a:(null|record q{});}", "record p{a?:int;}", "(null|record p{})", "null"}},
		{"(null|record p{a:(null|p);b:long;})", []string{"null", "record p{a:null;b:int;}", "(record p{b:int;a:(p|null);}|null)", "record p{a:p;b:long;}"}, []string{"record p{a:p;b:text;}", "record p{a:p;}", "(null|record p{b:long;a:(null|p|long);})"}},
		{"record r{a:[r];b:long;}", []string{"record r{a:[r];b:int;}", "record r{a:[r];b:long;}", "record r{b:(int|long);a:([r]);}"}, []string{"record r{a:[r];b:text;}", "record r{a:[r];}", "record r{a:{r};b:int;}", "record r{a:[[r]];b:int;}", "record r{a:r;b:int;}"}},
		{"record a{b:record b{a:a;n:long;};}", []string{"record a{b:record b{a:a;n:int;};}", "record a{b:record b{a:a;n:long;};}", "record a{b:record b{n:int;a:a;c:b;};}", "record a{b:record b{a:(a);n:(long|int);};c:a;}"}, []string{"record a{b:record b{a:a;n:text;};}", "record a{b:record b{a:b;n:int;};}", "record a{b:record b{a:a;};}", "record b{a:record a{b:b;};n:long;}", "record a{b:a;}"}},
		{"record a{b:record b{a:a;n?:int;};}", []string{"record a{b:record b{a:a;};}", "record a{b:record b{a:a;m:long;};}"}, []string{"record a{b:record b{a:a;n:long;};}", "record a{b:record b{a:record c{};};}"}},
		{"record a{b:record b{c:record c{d:record d{a:a;n:int;};};};}", []string{"record a{b:record b{c:record c{d:record d{a:a;n:int;};};};}", "record a{b:record b{c:record c{d:record d{a:a;n:int;m:[b];};};};}"}, []string{"record a{b:record b{c:record c{d:record d{a:a;n:long;};};};}", "record a{b:record b{c:record c{d:record d{a:b;n:int;};};};}", "record a{b:record b{c:record c{d:record d{a:a;};};};}"}},
		{"record a{x:(null|record b{y:(null|a);n?:int;});}", []string{"record a{x:record b{y:a;};}", "record a{x:record b{y:(a|null);};}", "record a{x:null;}", "record a{x:(record b{y:null;}|null);}"}, []string{"record a{x:record b{y:(a|b);};}", "record a{x:record b{y:a;n:null;};}", "record a{x:a;}"}},
		{"record t{l:(null|t);r:(null|t);v:(int|text);}", []string{"record t{l:t;r:t;v:int;}", "record t{r:null;l:(t|null);v:(bytes|int);}"}, []string{"record t{l:t;r:t;v:long;}", "record t{l:t;r:(t|bool);v:int;}", "record t{l:t;v:int;}", "record t{l:[t];r:t;v:int;}"}},
	}
}

func TestReads(t *testing.T) { // P10.2, P10.3: what is in the relation, and what is not
	for _, x := range slices.Concat(readings(), endless()) {
		expect(t, x.reader, x.reader, true)
		for _, s := range x.yes {
			expect(t, x.reader, s, true)
		}
		for _, s := range x.no {
			expect(t, x.reader, s, false)
		}
	}
}

// whole: all texts of readings and endless, one behind the other.
func whole() []string {
	var l []string
	for _, x := range slices.Concat(readings(), endless()) {
		l = append(l, x.reader)
		l = append(l, x.yes...)
		l = append(l, x.no...)
	}
	slices.Sort(l)
	return slices.Compact(l)
}

// expectAll holds each of these texts against each by the second table, and answers how many read.
func expectAll(t *testing.T, l []string) int {
	t.Helper()
	yes := 0
	for i, s := range l {
		for _, p := range l[:i+1] {
			there, back := expectTable(t, schema(t, s), schema(t, p))
			if there {
				yes++
			}
			if back && s != p {
				yes++
			}
		}
	}
	return yes
}

func TestEachOfEach(t *testing.T) { // P10.2, P10.3 of all these texts, by another way
	if yes := expectAll(t, whole()); yes < len(whole())+500 {
		t.Errorf("%d of %d texts' pairs read", yes, len(whole()))
	}
}

func TestAlike(t *testing.T) { // P10.3: Can both ways
	for _, x := range []struct {
		a, b string
		want bool
	}{
		{"int", "int", true}, {"int", "(int)", true}, {"bytes", "text", true}, {"[text]", "[bytes]", true}, {"(null|int)", "(int|null)", true}, {"enum e<x,y>", "enum e<y,x>", true}, {"record r{a:int;b:text;}", "record r{b:bytes;a:int;}", true}, {"record r{a?:int;}", "record r{}", true},
		{"record r{a:(r|null);}", "record r{a:(null|r);}", true}, {"record r{a?:int;}", "record r{b?:int;}", true}, {"record r{a:r;}", "record r{a:(r);b?:r;}", true}, {"(int|long)", "(long|int)", true}, {"(int|long)", "long", true},
		{"long", "int", false}, {"(null|int)", "int", false}, {"enum e<x,y>", "enum e<x>", false}, {"record r{a:int;}", "record r{}", false}, {"record r{a:r;}", "record r{a:(r|null);}", false}, {"null", "bool", false}, {"fixed f 1", "fixed f 2", false}, {"record r{a?:int;}", "record r{a?:long;}", false},
	} {
		a, b := schema(t, x.a), schema(t, x.b)
		if resolve.Alike(a, b) != x.want || resolve.Alike(b, a) != x.want {
			t.Errorf("of %s and %s: Alike is not %t", x.a, x.b, x.want)
		}
		expectTable(t, a, b)
	}
}

func TestPairs(t *testing.T) { // P10.3: a row of each node of the reader, in it each of the writer's
	expectPairs(t, "int", "int", "1")
	expectPairs(t, "int", "long", "0")
	expectPairs(t, "long", "[(int|null)]", "0010")
	expectPairs(t, "[(long|null)]", "int", "0 1 1 0")
	expectPairs(t, "[long]", "(int|[int])", "0010 0101")
	expectPairs(t, "(int|[int])", "[long]", "00 00 00 00")
	expectPairs(t, "([long]|null)", "[int]", "10 10 01 00")
	expectPairs(t, "{(null|text)}", "{bytes}", "10 01 00 01")
	expectPairs(t, "record p{a?:(null|p);}", "record p{a?:(null|p);}", "100 111 001")
	expectPairs(t, "record r{a:int;b:text;}", "record r{b:bytes;a:long;c:int;}", "0000 0001 0100")
	expectPairs(t, "record r{a:int;b:text;}", "record r{b:bytes;a:int;c:long;}", "1000 0010 0100")
	expectPairs(t, "record r{a:r;b:record s{};}", "record r{a:r;}", "0 0")
	expectPairs(t, "record r{a:r;}", "record r{a:r;b:record s{a:r;};}", "10")
	expectPairs(t, "enum e<x,y>", "record r{e:enum e<y>;f:[e];g:enum f<x>;}", "0100")
	expectPairs(t, "record r{e:enum e<y>;f:[e];g:enum f<x>;}", "enum e<x,y>", "0 0 0 0")
	expectPairs(t, "(fixed f 2|fixed g 2)", "[(fixed g 2|fixed f 2)]", "0111 0001 0010")
	expectPairs(t, "record a{b:record b{a:a;n:int;};}", "record a{b:record b{a:a;n:int;};}", "100 010 001")
	expectPairs(t, "record a{b:record b{a:a;n:int;};}", "record a{b:record b{a:a;n:long;};}", "000 000 000")
	expectPairs(t, "record a{b:record b{a:a;n:int;};c?:int;}", "record a{b:record b{n:int;a:a;};c:text;}", "0000 0000 0010 0010")
}

// ---- schemas without a text

// textless: schemas that no text has.
func textless() []api.Schema {
	node := func(k int, items ...int) api.Node { return api.Node{K: k, Items: items} }
	var l []api.Schema
	for _, nodes := range [][]api.Node{
		nil, {}, {node(12)}, {node(-1)}, {node(math.MaxInt)}, {node(math.MinInt)}, {node(0), node(0)}, {node(2), node(3)}, {node(6)}, {node(7)}, {node(8)}, {node(6, 0)}, {node(7, 0)}, {node(8, 0)}, {node(6, 1)}, {node(6, 2), node(0)}, {node(6, -1)}, {node(6, math.MinInt)}, {node(7, 1, 1), node(0)}, {node(8, 1, 2), node(0), node(0)}, {node(8, 1), node(8, 2), node(0)},
		{node(6, 1), node(6, 0)}, {node(8, 1), node(6, 0)}, {{K: 0, Size: 1}}, {{K: 2, Name: "x"}}, {{K: 2, Items: []int{0}}}, {{K: 5, Syms: []string{"x"}}}, {{K: 9}}, {{K: 9, Name: "e"}}, {{K: 9, Name: "int", Syms: []string{"x"}}}, {{K: 9, Name: "e", Syms: []string{"x", "x"}}}, {{K: 10, Name: "f", Size: -1}}, {{K: 10, Name: "f", Size: 4097}}, {{K: 10, Size: 1}}, {{K: 11}},
		{{K: 11, Name: "r", Fields: []api.Field{{Name: "a", Type: 5}}}}, {{K: 11, Name: "r", Fields: []api.Field{{Name: "a", Type: -1}}}}, {{K: 11, Name: "r", Fields: []api.Field{{Name: "", Type: 0}}}}, {{K: 11, Name: "r", Fields: []api.Field{{Name: "a"}, {Name: "a"}}}}, {{K: 11, Name: "r", Fields: []api.Field{{Name: "a", Type: 1}}}, {K: 11, Name: "r"}},
	} {
		l = append(l, api.Schema{Nodes: nodes})
	}
	deep := api.Schema{Nodes: []api.Node{node(0)}}
	for i := range 20 {
		deep.Nodes = slices.Insert(deep.Nodes, i, node(6, i+1))
	}
	wide := api.Schema{Nodes: []api.Node{{K: 11, Name: "r"}}}
	for i := range 200 {
		wide.Nodes[0].Fields = append(wide.Nodes[0].Fields, api.Field{Name: "f" + strconv.Itoa(i), Type: i + 1})
		wide.Nodes = append(wide.Nodes, node(0))
	}
	huge := api.Schema{Nodes: slices.Repeat([]api.Node{node(8, slices.Repeat([]int{0}, 1<<16)...)}, 1<<16)}
	long := api.Schema{Nodes: []api.Node{{K: 9, Name: "e", Syms: []string{strings.Repeat("x", 1<<24)}}}}
	return append(l, deep, wide, huge, long)
}

func TestNoText(t *testing.T) { // P10.3: nothing is told, if one of both has no text
	fine := []api.Schema{schema(t, "null"), schema(t, "int"), schema(t, "(null|[int])"), schema(t, "record r{a?:r;}"), schema(t, "enum e<x>")}
	for i, o := range textless() {
		if _, e := parse.Show(o); e != api.ErrArg {
			t.Fatalf("the %dth has a text", i)
		}
		for _, p := range append([]api.Schema{o, {}}, fine...) {
			if resolve.Can(o, p) || resolve.Can(p, o) || resolve.Alike(o, p) || resolve.Alike(p, o) {
				t.Errorf("the %dth reads %s, or is read by it", i, short(told(p)))
			}
			if l, m := resolve.Pairs(o, p), resolve.Pairs(p, o); len(l) > 0 || len(m) > 0 {
				t.Errorf("the %dth and %s have pairs: %d, %d", i, short(told(p)), len(l), len(m))
			}
		}
	}
}

// ---- many by chance

// maker makes texts of schemas by chance. Where one more may stand, at the end of a union, a record, an enum, it puts one of the marks @U, @R, @E.
type maker struct {
	r     *rand.Rand
	began []string
	most  int // how many TYPEs it may still begin
}

// text: of a TYPE that lies in deep others. Few have no schema: unions that have a type twice.
func (m *maker) text(deep int) string {
	m.most--
	if m.r.Intn(4) == 0 && len(m.began) > 0 {
		return m.began[m.r.Intn(len(m.began))]
	}
	k := m.r.Intn(14)
	if deep >= 8 || m.most <= 0 {
		k %= 6
	}
	switch k {
	case api.KArray:
		return "[" + m.text(deep+1) + "]"
	case api.KMap:
		return "{" + m.text(deep+1) + "}"
	case api.KUnion, 12:
		l := []string{m.text(deep + 1)}
		for range m.r.Intn(4) {
			if s := m.text(deep + 1); s[0] != '(' && !slices.Contains(l, s) {
				l = append(l, s)
			}
		}
		return "(" + strings.Join(l, "|") + "@U)"
	case api.KEnum:
		return "enum " + m.name() + "<" + strings.Join([]string{"x", "y", "z", "a1", "e"}[m.r.Intn(5):], ",") + "@E>"
	case api.KFixed:
		return "fixed " + m.name() + " " + []string{"0", "1"}[m.r.Intn(2)]
	case api.KRecord, 13:
		s := "record " + m.name() + "{"
		for i := range m.r.Intn(5) {
			s += string(rune('a'+i)) + []string{"", "?"}[m.r.Intn(2)] + ":" + m.text(deep+1) + ";"
		}
		return s + "@R}"
	}
	return []string{"null", "bool", "int", "long", "bytes", "text"}[k]
}

// name: one that no enum, fixed or record of the text has yet; other texts have the same.
func (m *maker) name() string {
	m.began = append(m.began, "n"+strconv.Itoa(len(m.began)))
	return m.began[len(m.began)-1]
}

// unmarked: s without the marks.
func unmarked(s string) string {
	return strings.NewReplacer("@U", "", "@R", "", "@E", "").Replace(s)
}

// someMarked: a text by chance, with marks, that has a schema without them.
func someMarked(r *rand.Rand) string {
	always := []string{"record n0{a:(null|[n0]|{n0}|n0|record n1{a:n0;b:int;@R}@U);@R}", "record n0{a?:(null|n0@U);@R}", "record n0{a:[n0];b:enum n1<x,y@E>;c:n1;@R}", "{record n0{a:{n0};b:(text|int@U);@R}}", "record n0{a:record n1{a:record n2{a:n0;b:int;@R};b:n0;@R};b:(null|n1|n2@U);@R}"}
	for {
		s := always[r.Intn(len(always))]
		if r.Intn(5) > 0 {
			s = (&maker{r: r, most: 1 + r.Intn(40)}).text(0)
		}
		if _, _, e := parse.Parse(unmarked(s)); e == api.OK {
			return s
		}
	}
}

// turned: a text that has a schema, made of s by other tokens in a few places; s itself, if none is found soon.
func turned(r *rand.Rand, s string) string {
	tokens := []string{"null", "bool", "int", "long", "bytes", "text", "n0", "n1", "n2", "n3", "a", "b", "c", "d", "x", "y", "0", "1", "?"}
	words, _, _ := lex.Words(s)
	var l []string
	for _, w := range words[:len(words)-1] {
		l = append(l, w.S)
	}
	for range 200 {
		m := slices.Clone(l)
		for range 1 + r.Intn(3) {
			i := r.Intn(len(m))
			switch r.Intn(6) {
			case 0:
				m = slices.Insert(m, i, "?")
			case 1:
				if j := i + 1 + r.Intn(4); j < len(m) {
					m = slices.Delete(m, i, j)
				}
			case 2:
				if j := r.Intn(len(m)); true {
					m[i], m[j] = m[j], m[i]
				}
			case 3:
				m = slices.Replace(m, i, i+1, "(", "null", "|", m[i], ")")
			default:
				m[i] = tokens[r.Intn(len(tokens))]
			}
			if len(m) == 0 {
				return s
			}
		}
		if x := strings.Join(m, " "); x != s {
			if _, _, e := parse.Parse(x); e == api.OK {
				return x
			}
		}
	}
	return s
}

func TestSomeSchemas(t *testing.T) { // P10.2, P10.3 of texts by chance, and of those with other tokens, by another way
	r := rand.New(rand.NewSource(10))
	yes, no, one := 0, 0, 0
	for range 4000 {
		s := unmarked(someMarked(r))
		p := unmarked(someMarked(r))
		if r.Intn(4) > 0 {
			p = turned(r, s)
		}
		a, b := schema(t, s), schema(t, p)
		there, back := expectTable(t, a, b)
		switch {
		case there && back:
			yes++
		case there || back:
			one++
		default:
			no++
		}
	}
	if yes < 300 || one < 300 || no < 300 {
		t.Errorf("both ways %d, one %d, none %d", yes, one, no)
	}
}

// ---- what it comes to

func TestItself(t *testing.T) { // P10.4
	r := rand.New(rand.NewSource(4))
	l := append(whole(), limits()...)
	for range 2000 {
		l = append(l, unmarked(someMarked(r)))
	}
	for _, s := range l {
		o := schema(t, s)
		pairs := resolve.Pairs(o, o)
		for i := range o.Nodes {
			if !pairs[i][i] {
				t.Errorf("of %s: the node %d does not read itself", short(s), i)
			}
		}
		if !resolve.Can(o, o) || !resolve.Alike(o, o) {
			t.Errorf("%s does not read itself", short(s))
		}
	}
}

// expectMore holds that the second reader reads what the first one does, and answers whether that is so of the writer.
func expectMore(t *testing.T, without, with, writer string) bool {
	t.Helper()
	a, b, w := schema(t, without), schema(t, with), schema(t, writer)
	is := resolve.Can(a, w)
	if is && !resolve.Can(b, w) {
		t.Errorf("%s reads %s, %s does not", short(without), short(writer), short(with))
	}
	return is
}

// grown: a text of the marked one in which just one mark, the nth, has become one more: a type, a field with a default, a symbol; the empty text, if there is no such mark.
func grown(s string, n int) string {
	for i := range len(s) {
		if s[i] != '@' {
			continue
		}
		if n == 0 {
			more := map[byte]string{'U': "|record more{b:int;}", 'R': "more?:int;", 'E': ",more"}[s[i+1]]
			return unmarked(s[:i] + more + s[i+2:])
		}
		n--
	}
	return ""
}

func TestMoreIsRead(t *testing.T) { // P10.5
	for _, x := range []struct{ without, with string }{
		{"(int)", "(int|null)"}, {"(null|int)", "(null|int|text)"}, {"(int|text)", "(int|text|long)"}, {"(null|record p{a:(null|p);b:long;})", "(null|record p{a:(null|p);b:long;}|int)"},
		{"record r{}", "record r{z?:int;}"}, {"record r{a:int;}", "record r{a:int;z?:r;}"}, {"record r{a:r;}", "record r{a:r;z?:int;}"}, {"record p{a?:(null|p);}", "record p{a?:(null|p);z?:p;}"},
		{"enum e<x>", "enum e<x,y>"}, {"enum e<x,y,z>", "enum e<x,y,z,w>"},
	} {
		n := 0
		for _, s := range whole() {
			if expectMore(t, x.without, x.with, s) {
				n++
			}
		}
		if n == 0 {
			t.Errorf("%s reads none", x.without)
		}
	}
	r := rand.New(rand.NewSource(5))
	n := 0
	for range 3000 {
		s := someMarked(r)
		for i := range 5 {
			with := grown(s, i)
			if with == "" {
				break
			}
			for _, w := range []string{unmarked(s), turned(r, unmarked(s))} {
				if expectMore(t, unmarked(s), with, w) {
					n++
				}
			}
			expectTable(t, schema(t, with), schema(t, unmarked(s)))
		}
	}
	if n < 4000 {
		t.Errorf("only %d are read", n)
	}
}

// ---- the limits

// chain: a text of n records, each in the one behind it, the first one of the base; the whole has all of them.
func chain(n int, base string) string {
	s := "record r{"
	for i := range n {
		s += fmt.Sprintf("f%d:record n%d{a:%s;};", i, i, base)
		base = "n" + strconv.Itoa(i)
	}
	return s + "}"
}

// web: a text of n records, each with a union of those ahead of it, the first one of the base.
func web(n int, base string) string {
	s := "record r{"
	for i := range n {
		s += fmt.Sprintf("f%d:record n%d{a:%s;b:(null", i, i, base)
		for j := max(0, i-6); j < i; j++ {
			s += "|n" + strconv.Itoa(j)
		}
		s += ");};"
		base = "n" + strconv.Itoa(i)
	}
	return s + "}"
}

// listed: n items, one behind the other.
func listed(n int, item func(i int) string, between string) string {
	var l []string
	for i := range n {
		l = append(l, item(i))
	}
	return strings.Join(l, between)
}

// limits: texts of as much as there may be, but for the first one: of tokens, nodes, symbols, fields, and as deep.
func limits() []string {
	number := strconv.Itoa
	wrapped := func(n int, before, s, after string) string {
		return strings.Repeat(before, n) + s + strings.Repeat(after, n)
	}
	return []string{
		"int",
		chain(99, "int"), chain(99, "long"), chain(99, "text"), web(50, "int"), web(50, "long"), web(50, "text"),
		wrapped(19, "[", "int", "]"), wrapped(19, "[", "long", "]"), wrapped(18, "{", "(int|long)", "}"), wrapped(9, "[(", "[int]", ")]"), wrapped(9, "([", "(text|int)", "])"),
		"record r{" + listed(199, func(i int) string { return "f" + number(i) + ":int;" }, "") + "}",
		"record r{" + listed(199, func(i int) string { return "f" + number(198-i) + ":long;" }, "") + "}",
		"record r{" + listed(99, func(i int) string { return "f" + number(i) + "?:(int);" }, "") + "}",
		"record r{" + listed(290, func(i int) string { return "f" + number(i) + "?:r;" }, "") + "}",
		"(" + listed(199, func(i int) string { return "record n" + number(i) + "{}" }, "|") + ")",
		"(" + listed(199, func(i int) string { return "record n" + number(198-i) + "{}" }, "|") + ")",
		"enum e<" + listed(700, func(i int) string { return "s" + number(i) }, ",") + ">",
		"enum e<" + listed(700, func(i int) string { return "s" + number(699-i) }, ",") + ">",
		"enum e<" + listed(700, func(i int) string { return "s" + number(i+1) }, ",") + ">",
	}
}

func TestAtTheLimits(t *testing.T) { // P10.2, P10.3, of each of these and each, by another way
	// Each reads itself. Longs read ints: of chains, webs, arrays, fields; fewer fields more; two unions, two enums each other.
	if yes, want := expectAll(t, limits()), len(limits())+4+1+2+2; yes != want {
		t.Errorf("%d read, not %d", yes, want)
	}
}

func TestFarAway(t *testing.T) { // P10.2: what a pair hangs on may be as far away as there are nodes
	for n := 1; n <= 99; n++ {
		ints, longs, texts := schema(t, chain(n, "int")), schema(t, chain(n, "long")), schema(t, chain(n, "text"))
		if !resolve.Can(longs, ints) || resolve.Can(ints, longs) || resolve.Can(texts, longs) || resolve.Alike(ints, longs) {
			t.Errorf("of %d records: Can", n)
		}
		here, there := resolve.Pairs(longs, ints), resolve.Pairs(ints, longs)
		for r := range here {
			for w := range here[r] {
				if here[r][w] != (r == w) || there[r][w] {
					t.Errorf("of %d records, of the nodes %d and %d: %t, %t", n, r, w, here[r][w], there[r][w])
				}
			}
		}
	}
}

// ---- the rules that hold everywhere

// spare fills the spare room of a list.
func spare[T any](l []T, x T) []T {
	l = append(l, x, x)[:len(l)]
	room := l[len(l):cap(l)]
	for i := range room {
		room[i] = x
	}
	return l
}

// roomy: o, with room behind each of its lists.
func roomy(o api.Schema) api.Schema {
	for i := range o.Nodes {
		x := &o.Nodes[i]
		x.Syms, x.Items, x.Fields = spare(x.Syms, "spare"), spare(x.Items, 77), spare(x.Fields, api.Field{Name: "spare"})
	}
	return api.Schema{Nodes: spare(o.Nodes, api.Node{Name: "spare"})}
}

// toldWhole is told, with the room behind each list.
func toldWhole(o api.Schema) string {
	l := o.Nodes[:cap(o.Nodes)]
	s := told(api.Schema{Nodes: l})
	for _, x := range l {
		s += fmt.Sprint(x.Syms[:cap(x.Syms)], x.Items[:cap(x.Items)], x.Fields[:cap(x.Fields)])
	}
	return s
}

func TestMemory(t *testing.T) { // DOC.md, Memory: what is handed in is neither changed nor kept; each answer is new
	for i, s := range whole() {
		p := whole()[len(whole())-1-i]
		a, b := roomy(schema(t, s)), roomy(schema(t, p))
		was, wasToo := toldWhole(a), toldWhole(b)
		want := rows(wanted(a, b))
		first, second := resolve.Pairs(a, b), resolve.Pairs(a, b)
		resolve.Can(a, b)
		resolve.Alike(a, b)
		if toldWhole(a) != was || toldWhole(b) != wasToo {
			t.Fatalf("of %s and %s: an argument was changed", s, p)
		}
		clear(a.Nodes)
		clear(b.Nodes)
		for _, x := range first {
			spare(x, true)
			spare(x, false)
		}
		spare(first, nil)
		if rows(first) != want || rows(second) != want {
			t.Fatalf("of %s and %s: an answer shares memory", s, p)
		}
		for _, x := range first {
			room := x[:cap(x)]
			for j := range room {
				room[j] = !room[j]
			}
		}
		clear(first)
		if rows(second) != want {
			t.Fatalf("of %s and %s: two answers share memory", s, p)
		}
	}
}

func TestRowsApart(t *testing.T) { // DOC.md, Memory: no two lists of an answer share any, spare room included
	for _, s := range append(whole(), limits()[:8]...) {
		o := schema(t, s)
		l, want := resolve.Pairs(o, o), resolve.Pairs(o, o)
		for i, row := range l {
			for j := range row[:cap(row)] {
				row[:cap(row)][j] = !row[:cap(row)][j]
			}
			want[i] = make([]bool, len(row))
			for j := range row {
				want[i][j] = row[j]
			}
			if rows(l) != rows(want) {
				t.Fatalf("of %s: two rows share memory", short(s))
			}
		}
	}
}

func TestNilAndEmpty(t *testing.T) { // DOC.md, Memory: they are alike
	for _, s := range whole() {
		o, p := schema(t, s), schema(t, s)
		for i := range p.Nodes {
			x := &p.Nodes[i]
			if len(x.Syms) == 0 {
				x.Syms = []string{}
			}
			if len(x.Items) == 0 {
				x.Items = []int{}
			}
			if len(x.Fields) == 0 {
				x.Fields = []api.Field{}
			}
		}
		if !resolve.Alike(o, p) || rows(resolve.Pairs(p, o)) != rows(resolve.Pairs(o, o)) || rows(resolve.Pairs(o, p)) != rows(resolve.Pairs(o, o)) {
			t.Errorf("of %s: empty lists are not as nil ones", s)
		}
	}
}

func TestArgumentsAlone(t *testing.T) { // DOC.md, From arguments alone: each time the same, whatever was asked ahead
	for _, x := range [][2]string{{chain(60, "long"), chain(60, "int")}, {web(30, "int"), web(30, "text")}, {web(30, "long"), web(30, "int")}, {web(40, "int"), web(40, "long")}} {
		a, b := schema(t, x[0]), schema(t, x[1])
		want, is := rows(wanted(a, b)), resolve.Can(a, b)
		for range 20 {
			if rows(resolve.Pairs(a, b)) != want || resolve.Can(a, b) != is {
				t.Errorf("of %s and %s: another answer", short(x[0]), short(x[1]))
			}
			resolve.Pairs(b, a)
			resolve.Alike(b, a)
			resolve.Pairs(api.Schema{}, a)
		}
	}
}

func FuzzPairs(f *testing.F) { // P10.2 to P10.4 of whatever schemas
	for i, s := range whole() {
		f.Add(s, whole()[(i+1)%len(whole())])
	}
	f.Add("", "int")
	f.Fuzz(func(t *testing.T, s, p string) {
		a, _, e := parse.Parse(s)
		b, _, no := parse.Parse(p)
		if e != api.OK || no != api.OK {
			if resolve.Can(a, b) || resolve.Alike(a, b) || len(resolve.Pairs(a, b)) > 0 {
				t.Errorf("of %q and %q: something is told", s, p)
			}
			return
		}
		expectTable(t, a, b)
		if !resolve.Can(a, a) || !resolve.Can(b, b) {
			t.Errorf("of %q and %q: one does not read itself", s, p)
		}
	})
}
