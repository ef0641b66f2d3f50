package compat_test

import (
	"fmt"
	"math"
	"math/rand"
	"slices"
	"strconv"
	"strings"
	"testing"
	"unsafe"

	"suffragan/api"
	"suffragan/compat"
	"suffragan/datum"
	"suffragan/parse"
	"suffragan/resolve"
)

// Values, as short forms.
func num(n int64) api.Datum                         { return api.Datum{N: n} }
func str(s string) api.Datum                        { return api.Datum{S: s} }
func list(l ...api.Datum) api.Datum                 { return api.Datum{L: l} }
func pick(n int64, d api.Datum) api.Datum           { return api.Datum{N: n, L: []api.Datum{d}} }
func dict(keys string, l ...api.Datum) api.Datum    { return api.Datum{Keys: strings.Fields(keys), L: l} }
func keyed(keys []string, l ...api.Datum) api.Datum { return api.Datum{Keys: keys, L: l} }
func times(n int, d api.Datum) api.Datum            { return list(slices.Repeat([]api.Datum{d}, n)...) }

// within wraps d n times.
func within(n int, d api.Datum, wrap func(api.Datum) api.Datum) api.Datum {
	for range n {
		d = wrap(d)
	}
	return d
}

// null: the value of null, and the zero value.
var null = api.Datum{}

// schema: the one that s is a text of.
func schema(t testing.TB, s string) api.Schema {
	t.Helper()
	o, place, e := parse.Parse(s)
	if e != api.OK {
		t.Fatalf("%q has no schema: %d, %d", s, place, e)
	}
	return o
}

// told writes a value out whole; of lists nil and empty are told alike.
func told(d api.Datum) string {
	var b strings.Builder
	tell(&b, d)
	return b.String()
}

func tell(b *strings.Builder, d api.Datum) {
	fmt.Fprintf(b, "%d %q %q (", d.N, d.S, d.Keys)
	for _, x := range d.L {
		tell(b, x)
		b.WriteByte(';')
	}
	b.WriteByte(')')
}

// toldSchema writes a schema out whole.
func toldSchema(o api.Schema) string { return fmt.Sprintf("%+v", o) }

// short tells a text's beginning.
func short(s string) string { return fmt.Sprintf("%.300s", s) }

// ---- another way of working out what each call answers

// goal: what is made next, deep within others: what the reader's node r reads of from, a value of the writer's node w; its default, if w is below 0.
type goal struct {
	r, w, deep int
	from       api.Datum
	to         *api.Datum
}

// machine: another way of making, without recursion: a line of goals, whose relation is resolve's.
type machine struct {
	reader, writer []api.Node
	reads          [][]bool
	goals          []goal
}

// run makes all goals, each and what follows of it; ErrLong, if there are too many, or one is too deep.
func (m *machine) run() api.Errno {
	for i := 0; i < len(m.goals); i++ {
		g := m.goals[i]
		if i == 2000 || g.deep > 100 {
			return api.ErrLong
		}
		if g.w < 0 {
			m.least(g)
		} else {
			m.step(g)
		}
	}
	return api.OK
}

// follow puts more goals behind: places for them are made in the value of g.
func (m *machine) follow(g goal, l []goal) {
	g.to.L = make([]api.Datum, len(l))
	for i, x := range l {
		x.deep, x.to = g.deep+1, &g.to.L[i]
		m.goals = append(m.goals, x)
	}
}

// least makes a default up to those that lie in it.
func (m *machine) least(g goal) {
	node := m.reader[g.r]
	switch node.K {
	case 8:
		m.follow(g, []goal{{r: node.Items[0], w: -1}})
	case 9:
		g.to.S = node.Syms[0]
	case 10:
		g.to.S = string(make([]byte, node.Size))
	case 11:
		var l []goal
		for _, f := range node.Fields {
			l = append(l, goal{r: f.Type, w: -1})
		}
		m.follow(g, l)
	}
}

// step makes what is read up to that which lies in it.
func (m *machine) step(g goal) {
	for m.writer[g.w].K == 8 {
		g.w, g.from = m.writer[g.w].Items[g.from.N], g.from.L[0]
	}
	a, b := m.reader[g.r], m.writer[g.w]
	var l []goal
	switch a.K {
	case 6, 7:
		for _, x := range g.from.L {
			l = append(l, goal{r: a.Items[0], w: b.Items[0], from: x})
		}
		g.to.Keys = append([]string{}, g.from.Keys...)
	case 8:
		for !m.reads[a.Items[g.to.N]][g.w] {
			g.to.N++
		}
		l = append(l, goal{r: a.Items[g.to.N], w: g.w, from: g.from})
	case 11:
		at := map[string]int{}
		for i, f := range b.Fields {
			at[f.Name] = i
		}
		for _, f := range a.Fields {
			if i, ok := at[f.Name]; ok {
				l = append(l, goal{r: f.Type, w: b.Fields[i].Type, from: g.from.L[i]})
			} else {
				l = append(l, goal{r: f.Type, w: -1})
			}
		}
	default:
		g.to.N, g.to.S = g.from.N, g.from.S
	}
	m.follow(g, l)
}

// wanted: what Read should answer of schemas with a text.
func wanted(reader, writer api.Schema, d api.Datum) (api.Datum, api.Errno) {
	if !datum.Fits(writer, d) {
		return null, api.ErrArg
	}
	if !resolve.Can(reader, writer) {
		return null, api.ErrForm
	}
	var to api.Datum
	m := machine{reader: reader.Nodes, writer: writer.Nodes, reads: resolve.Pairs(reader, writer), goals: []goal{{deep: 1, from: d, to: &to}}}
	if e := m.run(); e != api.OK {
		return null, e
	}
	return to, api.OK
}

// wantedDefault: what Default should answer of a schema with a text.
func wantedDefault(o api.Schema) (api.Datum, api.Errno) {
	var to api.Datum
	m := machine{reader: o.Nodes, goals: []goal{{w: -1, deep: 1, to: &to}}}
	if e := m.run(); e != api.OK {
		return null, e
	}
	return to, api.OK
}

// ---- what is held of each answer

// expectDefault holds Default of o against what is wanted.
func expectDefault(t testing.TB, o api.Schema, want api.Datum, no api.Errno) {
	t.Helper()
	d, e := compat.Default(o)
	if e != no || told(d) != told(want) {
		t.Errorf("Default(%s) = %s, %d, not %s, %d", short(toldSchema(o)), short(told(d)), e, short(told(want)), no)
	}
	if e == api.OK && !datum.Fits(o, d) {
		t.Errorf("of %s: its default does not fit", short(toldSchema(o)))
	}
}

// expectOnlyRead holds Read against what is wanted, and that what is read fits (P11.4).
func expectOnlyRead(t testing.TB, reader, writer api.Schema, d, want api.Datum, no api.Errno) {
	t.Helper()
	got, e := compat.Read(reader, writer, d)
	if e != no || told(got) != told(want) {
		t.Errorf("Read(%s, %s, %s) = %s, %d, not %s, %d", short(toldSchema(reader)), short(toldSchema(writer)), short(told(d)), short(told(got)), e, short(told(want)), no)
	}
	if e == api.OK && !datum.Fits(reader, got) {
		t.Errorf("what %s reads does not fit it: %s", short(toldSchema(reader)), short(told(got)))
	}
}

// expectAsWanted holds Read of schemas with a text against the second way, P11.4 and P11.6 of it. It answers the error.
func expectAsWanted(t testing.TB, reader, writer api.Schema, d api.Datum) api.Errno {
	t.Helper()
	want, e := wanted(reader, writer, d)
	expectOnlyRead(t, reader, writer, d, want, e)
	return e
}

// expectRead holds Read of texts against a value, and the second way against the same.
func expectRead(t *testing.T, reader, writer string, d, want api.Datum) {
	t.Helper()
	r, w := schema(t, reader), schema(t, writer)
	expectOnlyRead(t, r, w, d, want, api.OK)
	if got, e := wanted(r, w, d); e != api.OK || told(got) != told(want) {
		t.Errorf("the second way of %s, %s and %s tells %s, %d", reader, writer, short(told(d)), short(told(got)), e)
	}
}

// expectRefused holds that Read of texts is refused for that reason.
func expectRefused(t *testing.T, reader, writer string, d api.Datum, no api.Errno) {
	t.Helper()
	r, w := schema(t, reader), schema(t, writer)
	expectOnlyRead(t, r, w, d, null, no)
	if _, e := wanted(r, w, d); e != no {
		t.Errorf("the second way of %s, %s and %s tells %d, not %d", reader, writer, short(told(d)), e, no)
	}
}

// ---- the chapter's example, and the numbers

func TestExample(t *testing.T) { // the chapter's example
	expectRead(t, "(null|long)", "int", num(5), pick(1, num(5)))
}

func TestConstants(t *testing.T) { // P11.1, P11.2: the numbers that this file writes out are those of api
	kinds := []int{api.KNull, api.KBool, api.KInt, api.KLong, api.KBytes, api.KText, api.KArray, api.KMap, api.KUnion, api.KEnum, api.KFixed, api.KRecord, api.Kinds}
	for i, k := range kinds {
		if i != k {
			t.Errorf("kind %d is %d", i, k)
		}
	}
	if api.MaxParts != 2000 || api.MaxDeep != 100 || api.MaxBytes != 65536 || api.MaxSize != 4096 {
		t.Error("package api has other numbers")
	}
}

// ---- defaults

// least: a schema's default.
type least struct {
	s string
	d api.Datum
}

// defaults: of each kind, in themselves and in one another.
func defaults() []least {
	return []least{
		{"null", null}, {"bool", num(0)}, {"int", num(0)}, {"long", num(0)}, {"bytes", str("")}, {"text", str("")},
		{"[int]", list()}, {"[enum e<x>]", list()}, {"[record r{a:r;}]", list()}, {"{int}", dict("")}, {"{record r{a:r;}}", dict("")}, {"[[text]]", list()},
		{"(null)", pick(0, null)}, {"(int|null)", pick(0, num(0))}, {"(enum e<y,x>|null|text)", pick(0, str("y"))}, {"(null|enum e<y,x>)", pick(0, null)}, {"(fixed f 2|null)", pick(0, str("\x00\x00"))}, {"([int]|int)", pick(0, list())}, {"(record r{a:enum e<x>;}|e)", pick(0, list(str("x")))},
		{"enum e<x>", str("x")}, {"enum e<z,a,b>", str("z")}, {"enum e<e>", str("e")},
		{"fixed f 0", str("")}, {"fixed f 1", str("\x00")}, {"fixed f 5", str("\x00\x00\x00\x00\x00")}, {"fixed f 4096", str(strings.Repeat("\x00", 4096))},
		{"record r{}", list()}, {"record r{a:int;}", list(num(0))}, {"record r{a?:int;}", list(num(0))}, {"record r{a:text;b?:enum e<x,y>;c:e;d?:fixed f 1;}", list(str(""), str("x"), str("x"), str("\x00"))}, {"record r{a:null;b:bool;c:record s{d:{r};e?:long;};f:s;}", list(null, num(0), list(dict(""), num(0)), list(dict(""), num(0)))},
		{"record p{a?:(null|p);}", list(pick(0, null))}, {"record p{a:[p];b:{p};c:(int|p);}", list(list(), dict(""), pick(0, num(0)))}, {"(null|record r{a:r;})", pick(0, null)}, {"record a{b:record b{a:(null|a);c?:enum e<x>;};d:[b];}", list(list(pick(0, null), str("x")), list())},
		{"[(record r{a:r;}|null)]", list()}, {"record t{a:record n{b:(enum e<x>|n);};b:(n|null);}", list(list(pick(0, str("x"))), pick(0, list(pick(0, str("x")))))},
	}
}

func TestDefaults(t *testing.T) { // P11.1
	for _, x := range defaults() {
		o := schema(t, x.s)
		expectDefault(t, o, x.d, api.OK)
		if d, e := wantedDefault(o); e != api.OK || told(d) != told(x.d) {
			t.Errorf("the second default of %s is %s, %d", x.s, told(d), e)
		}
	}
}

func TestFilled(t *testing.T) { // P11.2: what a record reads where the writer has no field is its type's default
	for _, x := range defaults() {
		expectRead(t, "record q{z?:"+x.s+";}", "record q{}", list(), list(x.d))
		expectRead(t, "record q{b:int;z?:"+x.s+";a:bool;}", "record q{a:bool;c:text;b:int;}", list(num(1), str("c"), num(7)), list(num(7), x.d, num(1)))
		expectRead(t, "[record q{z?:"+x.s+";a:int;}]", "[record q{a:int;}]", list(list(num(3)), list(num(4))), list(list(x.d, num(3)), list(x.d, num(4))))
	}
}

// manyParts: a text whose default has n parts, at least 3 and at most 2500.
func manyParts(n int) string {
	// Ten parts at once by the record w, the rest one by one.
	s := "record r{w:[record w{a:null;b:int;c:text;d:[r];e:bool;f:{w};g:(null);h:long;}];"
	n -= 2
	for i := range n / 10 {
		s += "w" + strconv.Itoa(i) + ":w;"
	}
	for i := range n % 10 {
		s += "n" + strconv.Itoa(i) + ":null;"
	}
	return s + "}"
}

// deepLeast: a text whose default is n deep, and has n + 1 parts; n from 3 to 150.
func deepLeast(n int, base string) string {
	s, name := "record r{w:[record h{a:record n0{a:"+base+";};", "n0"
	for i := 1; i <= n-3; i++ {
		s += fmt.Sprintf("a%d:record n%d{a:%s;};", i, i, name)
		name = "n" + strconv.Itoa(i)
	}
	return s + "}];z:" + name + ";}"
}

// endless: texts that have no default: records that hold themselves, or too much.
func endless() []string {
	doubled := "record r{w:[record h{a0:record n0{};"
	for i := range 80 {
		doubled += fmt.Sprintf("a%d:record n%d{a:n%d;b:n%d;};", i+1, i+1, i, i)
	}
	doubled += "}];"
	return []string{
		"record r{a:r;}", "record r{a?:r;}", "record r{a:int;b:r;}", "record r{a:(r|null);}", "(record r{a:(r);})", "(record r{a:r;}|null)", "record a{b:record b{a:a;};}", "record a{b:record b{c:record c{d:(record d{a:b;}|null);};};}", "record r{a:r;b:r;}", "record r{" + strings.Repeat("a", 40) + ":r;b:r;c:r;d:r;}",
		"record r{a:null;b:[r];c:record s{d:null;e:s;};}", doubled + "z:n80;}", doubled + "z:(n40|null);}", doubled + "y:n12;x:n30;}",
	}
}

func TestNoDefault(t *testing.T) { // P11.1: ErrLong, and that it ends
	for _, s := range endless() {
		expectDefault(t, schema(t, s), null, api.ErrLong)
		if _, e := wantedDefault(schema(t, s)); e != api.ErrLong {
			t.Errorf("the second default of %s: %d", short(s), e)
		}
		// A default is made only where the writer has no field.
		expectRefused(t, "record q{a?:"+s+";}", "record q{}", list(), api.ErrLong)
		expectRefused(t, "[record q{b:null;a?:"+s+";}]", "[record q{b:null;}]", list(list(null), list(null)), api.ErrLong)
		expectRead(t, "[record q{b:null;a?:"+s+";}]", "[record q{b:null;}]", list(), list())
		expectRead(t, "record q{a?:[("+strings.Trim(s, "()")+")];}", "record q{}", list(), list(list()))
	}
}

func TestDefaultMaxParts(t *testing.T) { // P11.1: as many parts as there may be, and more
	for n := 1980; n <= 2020; n++ {
		o := schema(t, manyParts(n))
		want, e := wantedDefault(o)
		if n > 2000 {
			expectDefault(t, o, null, api.ErrLong)
			continue
		}
		expectDefault(t, o, want, api.OK)
		if e != api.OK || datum.Parts(want) != n {
			t.Errorf("of %d parts: %d, %d", n, datum.Parts(want), e)
		}
	}
}

func TestDefaultMaxDeep(t *testing.T) { // P11.1: as deep as a value may be, and deeper, with each kind there
	for _, base := range []string{"null", "int", "text", "[int]", "{int}", "enum e<x,y>", "fixed f 2", "record s{}"} {
		for n := 95; n <= 105; n++ {
			o := schema(t, deepLeast(n, base))
			want, e := wantedDefault(o)
			if n > 100 {
				expectDefault(t, o, null, api.ErrLong)
				continue
			}
			expectDefault(t, o, want, api.OK)
			if e != api.OK || datum.Deep(want) != n {
				t.Errorf("%d deep: %d, %d", n, datum.Deep(want), e)
			}
		}
		// A union counts, too.
		expectDefault(t, schema(t, deepLeast(100, "("+base+")")), null, api.ErrLong)
		if _, e := compat.Default(schema(t, deepLeast(99, "("+base+"|bool)"))); e != api.OK {
			t.Errorf("of a union with %s in it: %d", base, e)
		}
	}
}

// ---- what is read

// reading: a value of a writer, and what a reader reads of it.
type reading struct {
	reader, writer string
	d, want        api.Datum
}

// plain: of kinds from null to text, of enums and fixeds.
func plain() []reading {
	long := strings.Repeat("x", 65536)
	return []reading{
		{"null", "null", null, null}, {"bool", "bool", num(1), num(1)}, {"bool", "bool", num(0), num(0)}, {"int", "int", num(-3), num(-3)}, {"int", "int", num(math.MinInt32), num(math.MinInt32)}, {"long", "long", num(math.MaxInt64), num(math.MaxInt64)}, {"long", "long", num(math.MinInt64), num(math.MinInt64)},
		{"long", "int", num(5), num(5)}, {"long", "int", num(math.MaxInt32), num(math.MaxInt32)}, {"long", "int", num(math.MinInt32), num(math.MinInt32)},
		{"bytes", "bytes", str("\x00\xff"), str("\x00\xff")}, {"text", "text", str("ab"), str("ab")}, {"bytes", "text", str("\u00e9"), str("\u00e9")}, {"text", "bytes", str("\xff\xc0"), str("\xff\xc0")}, {"text", "bytes", str(""), str("")}, {"text", "bytes", str(long), str(long)},
		{"enum e<x,y>", "enum e<x,y>", str("y"), str("y")}, {"enum e<y,x>", "enum e<x,y>", str("y"), str("y")}, {"enum e<a,b,y>", "enum e<y>", str("y"), str("y")},
		{"fixed f 0", "fixed f 0", str(""), str("")}, {"fixed f 3", "fixed f 3", str("a\x00c"), str("a\x00c")},
		{"[long]", "[int]", list(num(1), num(-1), num(1)), list(num(1), num(-1), num(1))}, {"[text]", "[bytes]", list(str("b"), str("a"), str("")), list(str("b"), str("a"), str(""))}, {"[int]", "[int]", list(), list()}, {"[[long]]", "[[int]]", list(list(), list(num(2), num(1))), list(list(), list(num(2), num(1)))},
		{"{long}", "{int}", dict("a b", num(1), num(2)), dict("a b", num(1), num(2))}, {"{int}", "{int}", dict(""), dict("")}, {"{bytes}", "{text}", keyed([]string{"", "\x00", "\xff"}, str("z"), str("y"), str("")), keyed([]string{"", "\x00", "\xff"}, str("z"), str("y"), str(""))}, {"{[long]}", "{[int]}", dict("k l", list(num(1)), list()), dict("k l", list(num(1)), list())},
	}
}

// unions: on either side, and on both.
func unions() []reading {
	return []reading{
		{"(null|int)", "int", num(5), pick(1, num(5))}, {"(null|int)", "null", null, pick(0, null)}, {"(int)", "int", num(0), pick(0, num(0))},
		{"(int|long)", "int", num(5), pick(0, num(5))}, {"(long|int)", "int", num(5), pick(0, num(5))}, {"(int|long)", "long", num(5), pick(1, num(5))}, {"(null|text|long|int)", "int", num(5), pick(2, num(5))}, {"(null|text|int|long)", "int", num(5), pick(2, num(5))},
		{"(bytes|text)", "text", str("a"), pick(0, str("a"))}, {"(text|bytes)", "text", str("a"), pick(0, str("a"))}, {"(int|text|bytes)", "bytes", str("a"), pick(1, str("a"))},
		{"int", "(int)", pick(0, num(5)), num(5)}, {"long", "(int|long)", pick(0, num(5)), num(5)}, {"long", "(int|long)", pick(1, num(5)), num(5)}, {"text", "(bytes|text)", pick(1, str("t")), str("t")}, {"long", "(int|long)", pick(1, num(math.MaxInt64)), num(math.MaxInt64)},
		{"(null|int)", "(int|null)", pick(0, num(5)), pick(1, num(5))}, {"(null|int)", "(int|null)", pick(1, null), pick(0, null)}, {"(null|int)", "(null|int)", pick(1, num(5)), pick(1, num(5))}, {"(int|long)", "(long|int)", pick(0, num(5)), pick(1, num(5))}, {"(int|long)", "(long|int)", pick(1, num(5)), pick(0, num(5))}, {"(long|int)", "(long|int)", pick(1, num(5)), pick(0, num(5))},
		{"(null|[long]|{(null|text)})", "({bytes}|null|[int])", pick(0, dict("a b", str("x"), str(""))), pick(2, dict("a b", pick(1, str("x")), pick(1, str(""))))}, {"(null|[long]|{(null|text)})", "({bytes}|null|[int])", pick(2, list(num(1), num(2))), pick(1, list(num(1), num(2)))},
		{"[(null|int)]", "[int]", list(num(1), num(2)), list(pick(1, num(1)), pick(1, num(2)))}, {"[int]", "[(int)]", list(pick(0, num(1)), pick(0, num(2))), list(num(1), num(2))}, {"[(null|long)]", "[(int|null)]", list(pick(0, num(1)), pick(1, null), pick(0, num(2))), list(pick(1, num(1)), pick(0, null), pick(1, num(2)))},
		{"([int])", "[int]", list(num(1)), pick(0, list(num(1)))}, {"[int]", "([int])", pick(0, list(num(1))), list(num(1))}, {"([(long)])", "[int]", list(num(1)), pick(0, list(pick(0, num(1))))}, {"[(int|[int])]", "([(int)])", pick(0, list(pick(0, num(1)))), list(pick(0, num(1)))},
		{"{(text|int)}", "{(int|bytes)}", dict("a b", pick(0, num(1)), pick(1, str("x"))), dict("a b", pick(1, num(1)), pick(0, str("x")))},
		{"(enum e<x>|enum f<x,y>|null)", "enum f<y>", str("y"), pick(1, str("y"))}, {"(fixed f 1|fixed g 1)", "(fixed g 1|fixed f 1)", pick(0, str("a")), pick(1, str("a"))}, {"(record r{a:int;}|record s{a?:text;})", "record s{}", list(), pick(1, list(str("")))}, {"(record r{a:int;}|record s{a?:text;})", "(record s{b:null;}|record r{a:int;})", pick(1, list(num(7))), pick(0, list(num(7)))},
	}
}

// records: their fields in other places, more of them, fewer; and those that hold themselves.
func records() []reading {
	return []reading{
		{"record r{}", "record r{}", list(), list()}, {"record r{}", "record r{a:int;b:text;}", list(num(1), str("x")), list()}, {"record r{a:int;b:text;}", "record r{a:int;b:text;}", list(num(1), str("x")), list(num(1), str("x"))},
		{"record r{b:text;a:int;}", "record r{a:int;b:text;}", list(num(1), str("x")), list(str("x"), num(1))}, {"record r{a:int;b:int;c:int;}", "record r{c:int;a:int;b:int;}", list(num(3), num(1), num(2)), list(num(1), num(2), num(3))}, {"record r{c:int;}", "record r{a:int;b:int;c:int;d:int;}", list(num(1), num(2), num(3), num(4)), list(num(3))},
		{"record r{a?:int;}", "record r{a:int;}", list(num(9)), list(num(9))}, {"record r{a?:int;}", "record r{}", list(), list(num(0))}, {"record r{a:int;b?:enum e<y,x>;}", "record r{a:int;}", list(num(9)), list(num(9), str("y"))}, {"record r{b?:fixed f 2;a:long;}", "record r{c:text;a:int;}", list(str("c"), num(9)), list(str("\x00\x00"), num(9))}, {"record r{b?:(text|null);a:(null|int);}", "record r{a:(int|null);}", list(pick(0, num(4))), list(pick(0, str("")), pick(1, num(4)))},
		{"record r{a:record s{b?:int;c:long;};d:s;}", "record r{d:record s{c:int;e:null;};a:s;}", list(list(num(1), null), list(num(2), null)), list(list(num(0), num(2)), list(num(0), num(1)))},
		{"record r{a:enum e<x,y>;b?:[e];}", "record r{c:enum e<y>;a:e;}", list(str("y"), str("y")), list(str("y"), list())},
		{"[record r{b:int;a?:null;}]", "[record r{a:null;b:int;}]", list(list(null, num(1)), list(null, num(2))), list(list(num(1), null), list(num(2), null))},
		{"record l{v:long;n:(null|l);}", "record l{n:(l|null);v:int;}", list(pick(0, list(pick(0, list(pick(1, null), num(3))), num(2))), num(1)), list(num(1), pick(1, list(num(2), pick(1, list(num(3), pick(0, null))))))},
		{"record l{n:(null|l);}", "record l{v:int;n:null;}", list(num(1), null), list(pick(0, null))}, {"record p{a?:(null|p);}", "record p{}", list(), list(pick(0, null))}, {"record p{a?:(null|p);b:[p];}", "record p{b:[p];}", list(list(list(list()), list(list(list(list()))))), list(pick(0, null), list(list(pick(0, null), list()), list(pick(0, null), list(list(pick(0, null), list())))))},
		{"record t{l:[(null|t)];v?:int;}", "record t{l:[t];}", list(list(list(list()), list(list(list(list()))))), list(list(pick(1, list(list(), num(0))), pick(1, list(list(pick(1, list(list(), num(0)))), num(0)))), num(0))},
		{"record a{b:record b{n?:enum e<x>;a:(null|a);};}", "record a{b:record b{a:(a|null);};c:(null|b);}", list(list(pick(0, list(list(pick(1, null)), pick(0, null)))), pick(1, list(pick(1, null)))), list(list(str("x"), pick(1, list(list(str("x"), pick(0, null))))))},
		{"record r{a:{r};}", "record r{z:null;a:{r};}", list(null, dict("k l", list(null, dict("")), list(null, dict("m", list(null, dict("")))))), list(dict("k l", list(dict("")), list(dict("m", list(dict(""))))))},
		{"(null|record r{a:(null|r);})", "record r{a:(r|null);}", list(pick(0, list(pick(1, null)))), pick(1, list(pick(1, list(pick(0, null)))))},
	}
}

// readings: all of them.
func readings() []reading { return slices.Concat(plain(), unions(), records()) }

func TestReadings(t *testing.T) { // P11.2; P11.4 of them
	for _, x := range readings() {
		expectRead(t, x.reader, x.writer, x.d, x.want)
	}
}

func TestReadInOthers(t *testing.T) { // P11.2: within arrays, maps, unions and records
	for _, x := range readings() {
		a, b := x.reader, x.writer
		expectRead(t, "["+a+"]", "["+b+"]", list(x.d, x.d, x.d), list(x.want, x.want, x.want))
		expectRead(t, "{["+a+"]}", "{["+b+"]}", dict("a b c", list(x.d), list(), list(x.d, x.d)), dict("a b c", list(x.want), list(), list(x.want, x.want)))
		expectRead(t, "record q{y:bool;a:"+a+";z?:bool;}", "record q{a:"+b+";y:bool;}", list(x.d, num(1)), list(num(1), x.want, num(0)))
		if a[0] != '(' && a != "bool" {
			expectRead(t, "(bool|"+a+")", b, x.d, pick(1, x.want))
		}
		if b[0] != '(' {
			expectRead(t, a, "("+b+")", pick(0, x.d), x.want)
			expectRead(t, "["+a+"]", "([("+b+")])", pick(0, list(pick(0, x.d), pick(0, x.d))), list(x.want, x.want))
		}
	}
}

func TestItself(t *testing.T) { // P11.5, where no union has a type ahead that reads another one
	for _, x := range readings() {
		w := schema(t, x.writer)
		if !ahead(w, x.d) {
			expectRead(t, x.writer, x.writer, x.d, x.d)
		}
		r := schema(t, x.reader)
		if !ahead(r, x.want) {
			expectRead(t, x.reader, x.reader, x.want, x.want)
		}
	}
	// And where one has: the first one that reads it.
	expectRead(t, "(long|int)", "(long|int)", pick(1, num(5)), pick(0, num(5)))
	expectRead(t, "(long|int)", "(long|int)", pick(0, num(5)), pick(0, num(5)))
	expectRead(t, "(int|long)", "(int|long)", pick(1, num(5)), pick(1, num(5)))
	expectRead(t, "(bytes|text)", "(bytes|text)", pick(1, str("x")), pick(0, str("x")))
	expectRead(t, "(text|null|bytes)", "(text|null|bytes)", pick(2, str("x")), pick(0, str("x")))
	expectRead(t, "[(null|bytes|long|int|text)]", "[(null|bytes|long|int|text)]", list(pick(0, null), pick(3, num(1)), pick(4, str("x")), pick(2, num(1))), list(pick(0, null), pick(2, num(1)), pick(1, str("x")), pick(2, num(1))))
}

// ahead tells whether d, a value of o, has in it one of a union that has, ahead of the value's type, one that reads that.
func ahead(o api.Schema, d api.Datum) bool {
	reads := resolve.Pairs(o, o)
	type at struct {
		n int
		d api.Datum
	}
	for l := []at{{0, d}}; len(l) > 0; l = l[1:] {
		node, d := o.Nodes[l[0].n], l[0].d
		for i, x := range d.L {
			switch node.K {
			case api.KUnion:
				for _, other := range node.Items[:d.N] {
					if reads[other][node.Items[d.N]] {
						return true
					}
				}
				l = append(l, at{node.Items[d.N], x})
			case api.KRecord:
				l = append(l, at{node.Fields[i].Type, x})
			default:
				l = append(l, at{node.Items[0], x})
			}
		}
	}
	return false
}

// ---- what is refused

func TestRefused(t *testing.T) { // P11.2: each error, and which is the first
	for _, x := range []struct {
		reader, writer string
		d              api.Datum
		e              api.Errno
	}{
		{"int", "long", num(5), api.ErrForm}, {"int", "text", str("5"), api.ErrForm}, {"null", "int", num(0), api.ErrForm}, {"[int]", "[long]", list(), api.ErrForm}, {"[int]", "{int}", dict(""), api.ErrForm}, {"{int}", "[int]", list(), api.ErrForm}, {"[int]", "int", num(0), api.ErrForm},
		{"int", "(int|null)", pick(0, num(5)), api.ErrForm}, {"int", "(int|null)", pick(1, null), api.ErrForm}, {"int", "(int|long)", pick(0, num(5)), api.ErrForm}, {"(null|int)", "long", num(5), api.ErrForm}, {"(null|int)", "(int|text)", pick(0, num(5)), api.ErrForm},
		{"enum e<x>", "enum e<x,y>", str("x"), api.ErrForm}, {"enum e<x>", "enum f<x>", str("x"), api.ErrForm}, {"fixed f 2", "fixed f 3", str("abc"), api.ErrForm}, {"fixed f 2", "fixed g 2", str("ab"), api.ErrForm}, {"fixed f 2", "bytes", str("ab"), api.ErrForm}, {"bytes", "fixed f 2", str("ab"), api.ErrForm},
		{"record r{a:int;}", "record r{}", list(), api.ErrForm}, {"record r{a?:int;}", "record r{a:text;}", list(str("")), api.ErrForm}, {"record r{}", "record s{}", list(), api.ErrForm}, {"record l{n:(null|l);}", "record l{n:(null|l|int);}", list(pick(0, null)), api.ErrForm}, {"record r{a?:r;}", "record s{}", list(), api.ErrForm},
		{"int", "int", num(1 << 31), api.ErrArg}, {"int", "int", str("x"), api.ErrArg}, {"long", "int", num(1 << 31), api.ErrArg}, {"long", "int", list(), api.OK}, {"text", "bytes", num(1), api.ErrArg}, {"text", "text", str(strings.Repeat("x", 65537)), api.ErrArg},
		{"[long]", "[int]", list(num(1), num(1<<31)), api.ErrArg}, {"{int}", "{int}", dict("b a", num(1), num(2)), api.ErrArg}, {"{int}", "{int}", dict("a", num(1), num(2)), api.ErrArg}, {"(null|int)", "int", pick(1, num(5)), api.ErrArg}, {"int", "(int)", num(5), api.ErrArg}, {"int", "(int)", pick(1, num(5)), api.ErrArg}, {"int", "(int)", pick(-1, num(5)), api.ErrArg}, {"(int|null)", "(null|int)", pick(2, null), api.ErrArg},
		{"enum e<x,y>", "enum e<x>", str("y"), api.ErrArg}, {"fixed f 2", "fixed f 2", str("abc"), api.ErrArg}, {"record r{a?:int;}", "record r{}", list(num(1)), api.ErrArg}, {"record r{}", "record r{a:int;}", list(), api.ErrArg}, {"record r{}", "record r{a:int;}", list(str("x")), api.ErrArg}, {"record r{b:int;}", "record r{a:int;b:int;}", list(num(1<<31), num(1)), api.ErrArg},
		{"int", "long", str("5"), api.ErrArg}, {"int", "text", num(5), api.ErrArg}, {"[int]", "{int}", list(num(1)), api.ErrArg}, {"record r{a:int;}", "record r{}", list(num(1)), api.ErrArg}, {"record r{}", "record s{}", list(null), api.ErrArg},
		{"[null]", "[null]", times(1999, null), api.OK}, {"[null]", "[null]", times(2000, null), api.ErrArg}, {"[(null)]", "[null]", times(2000, null), api.ErrArg}, {"[int]", "[null]", times(2000, null), api.ErrArg}, {"[int]", "[null]", times(1999, null), api.ErrForm}, {"[(int)]", "[null]", times(1999, null), api.ErrForm}, {"[(null)]", "[null]", times(1999, null), api.ErrLong},
		{"record r{a?:r;}", "record r{}", list(), api.ErrLong}, {"record r{a?:r;}", "record r{}", list(null), api.ErrArg}, {"record r{a?:r;b:int;}", "record r{b:text;}", list(str("")), api.ErrForm}, {"record r{a?:r;b:int;}", "record r{b:int;}", list(num(1)), api.ErrLong}, {"[record r{a?:r;}]", "[record r{}]", list(), api.OK}, {"(null|record r{a?:r;})", "(null|record r{})", pick(0, null), api.OK}, {"(null|record r{a?:r;})", "(null|record r{})", pick(1, list()), api.ErrLong},
	} {
		if x.e != api.OK {
			expectRefused(t, x.reader, x.writer, x.d, x.e)
		} else if e := expectAsWanted(t, schema(t, x.reader), schema(t, x.writer), x.d); e != api.OK {
			t.Errorf("of %s, %s and %s: %d", x.reader, x.writer, short(told(x.d)), e)
		}
	}
}

// ---- schemas without a text

// textless: schemas that no text has.
func textless() []api.Schema {
	node := func(k int, items ...int) api.Node { return api.Node{K: k, Items: items} }
	field := func(name string, n int) api.Node {
		return api.Node{K: 11, Name: "r", Fields: []api.Field{{Name: name, Type: n}}}
	}
	var l []api.Schema
	for _, nodes := range [][]api.Node{
		nil, {}, {node(12)}, {node(-1)}, {node(math.MaxInt)}, {node(math.MinInt)}, {node(0), node(0)}, {node(2), node(3)}, {node(6)}, {node(7)}, {node(8)}, {node(6, 0)}, {node(7, 0)}, {node(8, 0)}, {node(6, 1)}, {node(6, 2), node(0)}, {node(6, -1)}, {node(6, math.MinInt)}, {node(7, 1, 1), node(0)}, {node(8, 1, 2), node(0), node(0)}, {node(8, 1), node(8, 2), node(0)}, {node(8, 1), node(6, 0)},
		{{K: 0, Size: 1}}, {{K: 2, Name: "x"}}, {{K: 2, Items: []int{0}}}, {{K: 5, Syms: []string{"x"}}}, {{K: 9}}, {{K: 9, Name: "e"}}, {{K: 9, Name: "int", Syms: []string{"x"}}}, {{K: 9, Name: "e", Syms: []string{"x", "x"}}}, {{K: 10, Name: "f", Size: -1}}, {{K: 10, Name: "f", Size: 4097}}, {{K: 10, Name: "f", Size: math.MaxInt}}, {{K: 10, Size: 1}}, {{K: 11}},
		{field("a", 5)}, {field("a", -1)}, {field("", 0)}, {field("int", 0)}, {field("a", 1)}, {field("a", 0), node(0)}, {{K: 11, Name: "r", Fields: []api.Field{{Name: "a"}, {Name: "a"}}}}, {field("a", 1), {K: 11, Name: "r"}},
		slices.Repeat([]api.Node{node(6, 1)}, 21),
	} {
		l = append(l, api.Schema{Nodes: nodes})
	}
	huge := api.Schema{Nodes: slices.Repeat([]api.Node{node(8, slices.Repeat([]int{0}, 1<<16)...)}, 1<<16)}
	long := api.Schema{Nodes: []api.Node{{K: 9, Name: "e", Syms: []string{strings.Repeat("x", 1<<24)}}}}
	return append(l, huge, long)
}

func TestNoText(t *testing.T) { // P11.1, P11.2, P11.3: a schema that no text has, on either side, ahead of all else
	fine := []api.Schema{schema(t, "null"), schema(t, "int"), schema(t, "[int]"), schema(t, "record r{}"), schema(t, "record r{a?:r;}"), schema(t, "enum e<x>")}
	values := []api.Datum{null, num(1), num(1 << 40), str("x"), str("ab"), list(), list(null), pick(0, null), dict("a", null)}
	for i, o := range textless() {
		if _, e := parse.Show(o); e != api.ErrArg {
			t.Fatalf("the %dth has a text", i)
		}
		expectDefault(t, o, null, api.ErrArg)
		for _, p := range append([]api.Schema{o, {}}, fine...) {
			for _, d := range values {
				expectOnlyRead(t, o, p, d, null, api.ErrArg)
				expectOnlyRead(t, p, o, d, null, api.ErrArg)
			}
			if l, m := compat.Field(o, p), compat.Field(p, o); len(l) > 0 || len(m) > 0 {
				t.Errorf("the %dth has fields: %v, %v", i, l, m)
			}
		}
	}
}

// ---- fields

func TestField(t *testing.T) { // P11.3
	for _, x := range []struct {
		reader, writer string
		want           []int
	}{
		{"record r{}", "record r{}", nil}, {"record r{}", "record r{a:int;}", nil}, {"record r{a:int;}", "record r{}", []int{-1}}, {"record r{a:int;}", "record r{a:int;}", []int{0}}, {"record r{a:int;b:int;}", "record r{b:int;a:int;}", []int{1, 0}}, {"record r{a:int;b:int;c:int;}", "record r{c:int;d:int;a:int;}", []int{2, -1, 0}},
		{"record r{a?:int;}", "record r{}", []int{-1}}, {"record r{a?:int;}", "record r{b:int;a:int;}", []int{1}}, {"record r{a:int;}", "record s{a:text;}", []int{0}}, {"record r{a:r;r:r;}", "record s{s:null;r:[s];}", []int{-1, 1}}, {"record r{a:int;}", "record r{aa:int;b:record a{a:int;};}", []int{-1}}, {"record r{aa:int;a1:int;a:int;}", "record r{a:int;a1:int;}", []int{-1, 1, 0}},
		{"record r{a:record s{b:int;};b:s;}", "record r{b:record s{a:int;};}", []int{-1, 0}}, {"record r{s0:int;s1:int;s2:int;s3:int;}", "record t{s3:int;s2:int;s1:int;}", []int{-1, 2, 1, 0}},
	} {
		if got := compat.Field(schema(t, x.reader), schema(t, x.writer)); !slices.Equal(got, x.want) {
			t.Errorf("Field(%s, %s) = %v", x.reader, x.writer, got)
		}
	}
	r := schema(t, "record r{a:int;}")
	for _, s := range []string{"null", "int", "text", "[record r{a:int;}]", "{record r{a:int;}}", "(record r{a:int;})", "enum a<a>", "fixed a 1"} {
		o := schema(t, s)
		if l, m, n := compat.Field(r, o), compat.Field(o, r), compat.Field(o, o); len(l)+len(m)+len(n) > 0 {
			t.Errorf("of %s: fields %v, %v, %v", s, l, m, n)
		}
	}
}

func TestFieldMost(t *testing.T) { // P11.3: as many fields as a record may have
	var a, b string
	for i := range 290 {
		a += "f" + strconv.Itoa(i) + "?:r;"
		b += "f" + strconv.Itoa(289-i) + "?:r;"
	}
	l := compat.Field(schema(t, "record r{"+a+"}"), schema(t, "record r{"+b+"}"))
	for i, at := range l {
		if at != 289-i {
			t.Errorf("the field %d is %d", i, at)
		}
	}
	if len(l) != 290 {
		t.Errorf("%d fields", len(l))
	}
}

// ---- the limits

func TestMaxParts(t *testing.T) { // P11.2: as many parts as a value may have, and more: by unions, by defaults, and fewer again
	for _, x := range []struct {
		reader, writer string
		one            api.Datum // an item of the array that writer's values are
		more           int       // how many parts an item that is read has
	}{
		{"[(null)]", "[null]", null, 2}, {"[(bool|null)]", "[null]", null, 2}, {"[record r{a?:int;}]", "[record r{}]", list(), 2}, {"[record r{a?:int;b?:enum e<x>;}]", "[record r{}]", list(), 3}, {"[record r{a?:(int|null);b:[(bool)];}]", "[record r{b:[bool];}]", list(list(num(1))), 6}, {"[(null|record r{a?:[int];b?:fixed f 9;})]", "[(record r{})]", pick(0, list()), 4},
		{"[(null|int)]", "[(int|null)]", pick(0, num(1)), 2}, {"[null]", "[(null)]", pick(0, null), 1}, {"[record r{}]", "[record r{a:(null|int);}]", list(pick(0, null)), 1}, {"[(record r{b?:[int];})]", "[record r{a:[null];}]", list(list(null, null)), 3}, {"[{(null|text)}]", "[{text}]", dict("a b", str("x"), str("y")), 5},
	} {
		r, w := schema(t, x.reader), schema(t, x.writer)
		reached := 0
		for n := 1; n < 2000; n++ {
			made, given := 1+n*x.more, 1+n*datum.Parts(x.one)
			if (made < 1980 || made > 2020) && (given < 1980 || given > 2020) {
				continue
			}
			want := api.OK
			switch {
			case given > 2000:
				want = api.ErrArg
			case made > 2000:
				want = api.ErrLong
			}
			reached |= 1 << want
			if e := expectAsWanted(t, r, w, times(n, x.one)); e != want {
				t.Errorf("of %s, %s and %d items: %d", x.reader, x.writer, n, e)
			}
		}
		beyond := api.ErrArg
		if x.more > datum.Parts(x.one) {
			beyond = api.ErrLong
		}
		if reached&(1<<api.OK) == 0 || reached&(1<<beyond) == 0 {
			t.Errorf("of %s and %s: the limit is not looked at", x.reader, x.writer)
		}
	}
}

func TestDefaultsMaxParts(t *testing.T) { // P11.2: as many parts as a value may have, by one default
	w := schema(t, "record q{a:[null];}")
	for _, n := range []int{1, 7, 50} {
		for parts := 1940; parts < 2010; parts++ {
			r := schema(t, "record q{z?:"+manyParts(parts)+";a:[null];}")
			want := api.OK
			if 2+n+parts > 2000 {
				want = api.ErrLong
			}
			if e := expectAsWanted(t, r, w, list(times(n, null))); e != want {
				t.Errorf("of %d items and a default of %d parts: %d", n, parts, e)
			}
		}
	}
}

func TestMaxDeep(t *testing.T) { // P11.2: as deep as a value may be, and deeper, by each kind that has others in it
	for _, x := range []struct {
		reader, writer string
		wrap           func(api.Datum) api.Datum
		d              api.Datum // the innermost one
		more           int       // how much deeper a wrap makes what is read
		end            int       // how deep what is read of the innermost one is
	}{
		{"record l{n:(null|l);}", "record l{n:(l|null);}", func(d api.Datum) api.Datum { return list(pick(0, d)) }, list(pick(1, null)), 2, 3},
		{"record l{n:([l]);}", "record l{n:[l];}", inList, list(list()), 3, 3},
		{"record l{n:[(null|l)];}", "record l{n:[l];}", inList, list(list()), 3, 2},
		{"record l{n:({(l)});}", "record l{n:{l};}", func(d api.Datum) api.Datum { return list(dict("k", d)) }, list(dict("")), 4, 3},
		{"record l{n:[l];d?:(int|l);}", "record l{n:[l];}", inList, list(list()), 2, 3},
		{"record l{d?:record k{a:([int]);};n:[l];}", "record l{n:[l];}", inList, list(list()), 2, 4},
		{"record l{n:[l];}", "record l{n:([l]);}", func(d api.Datum) api.Datum { return list(pick(0, list(d))) }, list(pick(0, list())), 2, 2},
		{"record l{n:[l];}", "record l{n:[l];v:(l|[[[[[[[[int]]]]]]]]|null);}", func(d api.Datum) api.Datum { return list(list(d), pick(2, null)) }, list(list(), pick(1, within(7, list(), func(d api.Datum) api.Datum { return list(d) }))), 2, 2},
	} {
		r, w := schema(t, x.reader), schema(t, x.writer)
		reached := 0
		for n := range 60 {
			d := within(n, x.d, x.wrap)
			e := expectAsWanted(t, r, w, d)
			reached |= 1 << e
			if !datum.Fits(w, d) {
				continue
			}
			got, _ := compat.Read(r, w, d)
			if is := n*x.more+x.end <= 100; is != (e == api.OK) || is && datum.Deep(got) != n*x.more+x.end {
				t.Errorf("of %s and %s, %d times: %d, %d deep", x.reader, x.writer, n, e, datum.Deep(got))
			}
		}
		if reached&(1<<api.OK) == 0 || reached == 1<<api.OK {
			t.Errorf("of %s and %s: the limit is not looked at", x.reader, x.writer)
		}
	}
}

func TestDeepestKinds(t *testing.T) { // P11.2: each depth around the limit, with each kind there
	for kind, leaf := range map[string]api.Datum{"null": null, "bool": num(1), "int": num(-1), "long": num(1 << 40), "bytes": str("b"), "text": str(""), "[int]": list(), "{int}": dict(""), "enum e<x>": str("x"), "fixed f 2": str("ab"), "record s{}": list()} {
		for outer := range 4 {
			around := func(s string) string { return strings.Repeat("[", outer) + s + strings.Repeat("]", outer) }
			r, w := schema(t, around("record l{n:([l]);v:[["+kind+"]];}")), schema(t, around("record l{n:[l];v:[["+kind+"]];}"))
			last := list(list(leaf))
			for n := range 40 {
				d := within(n, list(list(), last), func(d api.Datum) api.Datum { return list(list(d), last) })
				d = within(outer, d, func(d api.Datum) api.Datum { return list(d) })
				want := api.OK
				if outer+3*n+4 > 100 {
					want = api.ErrLong
				}
				if e := expectAsWanted(t, r, w, d); e != want {
					t.Errorf("of %s, %d and %d deep: %d", kind, outer, n, e)
				}
			}
		}
	}
}

func TestDefaultsMaxDeep(t *testing.T) { // P11.2: as deep as a value may be, by a default that lies deep in what is read
	for deep := 20; deep <= 40; deep++ {
		r, w := schema(t, "record l{z?:"+deepLeast(deep, "enum e<x>")+";n:[l];}"), schema(t, "record l{n:[l];}")
		for n := range 50 {
			want := api.OK
			if 2*n+1+deep > 100 || (n+1)*(deep+3) > 2000 {
				want = api.ErrLong
			}
			if e := expectAsWanted(t, r, w, within(n, list(list()), inList)); e != want {
				t.Errorf("of a default %d deep, %d times: %d", deep, n, e)
			}
		}
	}
}

// inList: a record of an array of d.
func inList(d api.Datum) api.Datum { return list(list(d)) }

func TestMost(t *testing.T) { // P11.2: as many bytes as a value may have
	s := strings.Repeat("x", 65536)
	d := times(1999, str(s))
	got, e := compat.Read(schema(t, "[bytes]"), schema(t, "[text]"), d)
	if e != api.OK || !datum.Same(got, d) {
		t.Errorf("Read = %s, %d", short(told(got)), e)
	}
	expectRead(t, "{(null)}", "{null}", keyed([]string{"a", s}, null, null), keyed([]string{"a", s}, pick(0, null), pick(0, null)))
}

// ---- many by chance

// shape: a TYPE; of an enum, a fixed, a record its name alone, as what it is stands in the world.
type shape struct {
	k    int
	name string
	of   []shape
}

// member: a field.
type member struct {
	name string
	has  bool
	of   shape
}

// def: what a name stands for.
type def struct {
	k, size int
	syms    []string
	fields  []member
}

// world: a schema in a form of which others can be made that read it.
type world struct {
	r    *rand.Rand
	top  shape
	defs map[string]def
	most int // how many TYPEs it may still begin
}

// basic: a shape from null to text.
func (w *world) basic() shape { return shape{k: w.r.Intn(6)} }

// shape: one that lies in deep others.
func (w *world) shape(deep int) shape {
	w.most--
	name := "n" + strconv.Itoa(w.r.Intn(len(w.defs)+2))
	if d, ok := w.defs[name]; ok {
		return shape{k: d.k, name: name}
	}
	k := w.r.Intn(14)
	if deep >= 6 || w.most <= 0 {
		k %= 6
	}
	switch k {
	case 6, 7:
		return shape{k: k, of: []shape{w.shape(deep + 1)}}
	case 8, 12:
		l := []shape{w.shape(deep + 1)}
		for range w.r.Intn(4) {
			l = append(l, w.shape(deep+1))
		}
		return union(l)
	case 9:
		w.defs[name] = def{k: 9, syms: []string{"x", "y", "z", "a1", "e"}[w.r.Intn(5):]}
		return shape{k: 9, name: name}
	case 10:
		w.defs[name] = def{k: 10, size: w.r.Intn(3)}
		return shape{k: 10, name: name}
	case 11, 13:
		w.defs[name] = def{k: 11}
		var l []member
		for i := range w.r.Intn(5) {
			l = append(l, member{string(rune('a' + i)), w.r.Intn(2) == 0, w.shape(deep + 1)})
		}
		w.defs[name] = def{k: 11, fields: l}
		return shape{k: 11, name: name}
	}
	return shape{k: k}
}

// union: one of those of l that may stand in it together; the first, if that is a union.
func union(l []shape) shape {
	if l[0].k == 8 {
		return l[0]
	}
	u := shape{k: 8}
	for _, s := range l {
		if s.k != 8 && !slices.ContainsFunc(u.of, func(x shape) bool { return x.k == s.k && x.name == s.name }) {
			u.of = append(u.of, s)
		}
	}
	return u
}

// text: of the world; a name is told whole where it stands first.
func (w *world) text() string {
	began := map[string]bool{}
	var of func(s shape) string
	joined := func(l []shape) string {
		var texts []string
		for _, x := range l {
			texts = append(texts, of(x))
		}
		return strings.Join(texts, "|")
	}
	of = func(s shape) string {
		d := w.defs[s.name]
		switch {
		case s.name != "" && began[s.name]:
			return s.name
		case s.k < 6:
			return []string{"null", "bool", "int", "long", "bytes", "text"}[s.k]
		case s.k < 9:
			return "[{("[s.k-6:s.k-5] + joined(s.of) + "]})"[s.k-6:s.k-5]
		}
		began[s.name] = true
		switch s.k {
		case 9:
			return "enum " + s.name + "<" + strings.Join(d.syms, ",") + ">"
		case 10:
			return "fixed " + s.name + " " + strconv.Itoa(d.size)
		}
		text := "record " + s.name + "{"
		for _, f := range d.fields {
			text += f.name + map[bool]string{true: "?"}[f.has] + ":" + of(f.of) + ";"
		}
		return text + "}"
	}
	return of(w.top)
}

// other: another world, which reads what the first one writes, but for something else in a few places, or none, by chance.
func (w *world) other() *world {
	r := w.r
	bad := []int{0, 0, 30, 100}[r.Intn(4)]
	n := &world{r: r, defs: map[string]def{}}
	n.top = n.changed(w.top, false, bad)
	for name := range len(w.defs) + 2 {
		name := "n" + strconv.Itoa(name)
		d, ok := w.defs[name]
		if !ok {
			continue
		}
		d.syms, d.fields = slices.Clone(d.syms), slices.Clone(d.fields)
		if d.k == 9 && r.Intn(2) == 0 {
			d.syms = append(d.syms, "new")
			r.Shuffle(len(d.syms), func(i, j int) { d.syms[i], d.syms[j] = d.syms[j], d.syms[i] })
		}
		for i, f := range d.fields {
			d.fields[i].of = n.changed(f.of, false, bad)
		}
		if len(d.fields) > 0 && r.Intn(3) == 0 {
			d.fields = d.fields[1:]
		}
		for i := range r.Intn(3) {
			d.fields = append(d.fields, member{"z" + strconv.Itoa(i), bad == 0 || r.Intn(bad) > 0, n.changed(n.basic(), false, bad)})
			if len(w.defs) > 0 && r.Intn(3) == 0 {
				d.fields[len(d.fields)-1].of = n.changed(w.top, false, bad)
			}
		}
		if r.Intn(2) == 0 {
			r.Shuffle(len(d.fields), func(i, j int) { d.fields[i], d.fields[j] = d.fields[j], d.fields[i] })
		}
		n.defs[name] = d
	}
	return n
}

// changed: a shape that reads s, or, by chance, another one; no union, if it lies in one.
func (w *world) changed(s shape, inUnion bool, bad int) shape {
	r := w.r
	if bad > 0 && r.Intn(bad) == 0 {
		return w.basic()
	}
	switch {
	case s.k == 2 && r.Intn(3) == 0:
		s.k = 3
	case (s.k == 4 || s.k == 5) && r.Intn(3) == 0:
		s.k ^= 1
	case s.k == 6 || s.k == 7:
		s.of = []shape{w.changed(s.of[0], false, bad)}
	case s.k == 8 && len(s.of) == 1 && r.Intn(2) == 0:
		return w.changed(s.of[0], inUnion, bad)
	case s.k == 8:
		var l []shape
		for _, x := range s.of {
			l = append(l, w.changed(x, true, bad))
		}
		if r.Intn(2) == 0 {
			l = append(l, w.basic())
		}
		if r.Intn(2) == 0 {
			r.Shuffle(len(l), func(i, j int) { l[i], l[j] = l[j], l[i] })
		}
		return union(l)
	}
	if !inUnion && s.k != 8 && r.Intn(4) == 0 {
		return union([][]shape{{s}, {w.basic(), s}, {s, w.basic()}, {w.basic(), {k: 3}, s, w.basic()}, {{k: 4}, s}}[r.Intn(5)])
	}
	return s
}

// always: schemas of values that lie deep in one another, and readers of theirs that are larger or smaller.
func always() [][2]string {
	return [][2]string{
		{"record r{a:(null|[r]|{r}|r|record s{a:r;b:int;});}", "record r{b?:(int|r);a:(record s{b:(text|long);a:(r);z?:int;}|{(r)}|[(null|r)]|r|null);}"},
		{"record p{a?:(null|p);}", "record p{a:(p|null);}"}, {"record l{n:[l];}", "record l{n:([(l)]);d?:record k{a:[l];b:(l|null);};}"}, {"record l{n:[l];v:(int);}", "record l{v:long;n:[(l)];}"}, {"record l{n:(l|null);}", "(record l{d?:int;n:(null|l);})"},
		{"{record r{a:{r};b:text;}}", "{record r{b:(bytes|text);a:{(r)};}}"}, {"[[[null]]]", "[[[(null)]]]"}, {"[[(null|bool)]]", "[([(bool|null)])]"}, {"[record r{a:[r];}]", "[record r{a:[(null|r)];b?:r;}]"}, {"[(record r{})]", "[(record r{a?:int;b?:int;})]"}, {"[record r{a:(r|null);b:(r|null);}]", "[record r{}]"},
	}
}

// someTexts: those of a writer and of a reader by chance, both with a schema.
func someTexts(r *rand.Rand) (writer, reader string) {
	for {
		x := always()[r.Intn(len(always()))]
		if i := r.Intn(2); r.Intn(4) == 0 {
			return x[i], x[r.Intn(2)]
		}
		w := &world{r: r, defs: map[string]def{}, most: 1 + r.Intn(30)}
		w.top = w.shape(0)
		s, p := w.text(), w.other().text()
		_, _, e := parse.Parse(s)
		if _, _, no := parse.Parse(p); e == api.OK && no == api.OK {
			return s, p
		}
	}
}

// valuer makes values of a schema by chance.
type valuer struct {
	r     *rand.Rand
	nodes []api.Node
	begun int
	flat  int // from where on it makes no more than it must
}

// someValue: a value of o; false, if none was found.
func someValue(r *rand.Rand, o api.Schema) (api.Datum, bool) {
	v := &valuer{r: r, nodes: o.Nodes, flat: 1 + r.Intn(12)}
	if r.Intn(6) == 0 {
		v.flat = 20 + r.Intn(80)
	}
	return v.value(0, 1)
}

// value: of the node n, that lies deep; some are too deep, or have too many parts.
func (v *valuer) value(n, deep int) (api.Datum, bool) {
	if v.begun++; v.begun > 3000 || deep > 104 {
		return null, false
	}
	node := v.nodes[n]
	switch node.K {
	case 1:
		return num(v.r.Int63n(2)), true
	case 2, 3:
		long := []int64{math.MaxInt64, math.MinInt64, int64(v.r.Uint64())}
		l := append([]int64{0, 1, -1, math.MaxInt32, math.MinInt32, int64(int32(v.r.Uint32()))}, long[:3*(node.K-2)]...)
		return num(l[v.r.Intn(len(l))]), true
	case 4, 5:
		return str(v.text()), true
	case 6, 7:
		return v.several(node, deep)
	case 8:
		return v.union(node, deep)
	case 9:
		return str(node.Syms[v.r.Intn(len(node.Syms))]), true
	case 10:
		return str(strings.Repeat(string([]byte{byte(v.r.Intn(256))}), node.Size)), true
	case 11:
		var d api.Datum
		for _, f := range node.Fields {
			x, ok := v.value(f.Type, deep+1)
			if !ok {
				return null, false
			}
			d.L = append(d.L, x)
		}
		return d, true
	}
	return null, true
}

func (v *valuer) text() string {
	return []string{"", "a", "b", "ab", "\x00", "\xff", "\u00e9", strings.Repeat("y", v.r.Intn(130)), strconv.Itoa(v.r.Intn(100))}[v.r.Intn(9)]
}

// several: of an array, a map.
func (v *valuer) several(node api.Node, deep int) (api.Datum, bool) {
	var d api.Datum
	most := v.r.Intn(4)
	switch {
	case deep > v.flat:
		most = 0
	case v.flat >= 20:
		most = 1
	case v.r.Intn(30) == 0:
		most = v.r.Intn(1000)
	}
	var keys []string
	for range most {
		keys = append(keys, v.text())
	}
	if node.K == api.KMap {
		slices.Sort(keys)
		keys = slices.Compact(keys)
	}
	for _, s := range keys {
		x, ok := v.value(node.Items[0], deep+1)
		if !ok {
			break
		}
		d.L = append(d.L, x)
		if node.K == api.KMap {
			d.Keys = append(d.Keys, s)
		}
	}
	return d, true
}

// union: of the first of its types that has a value, tried by chance, or, deep within, the simplest first.
func (v *valuer) union(node api.Node, deep int) (api.Datum, bool) {
	at := v.r.Perm(len(node.Items))
	if deep > v.flat {
		slices.SortFunc(at, func(a, b int) int { return v.nodes[node.Items[a]].K - v.nodes[node.Items[b]].K })
	} else if v.flat >= 20 {
		slices.SortFunc(at, func(a, b int) int { return v.nodes[node.Items[b]].K - v.nodes[node.Items[a]].K })
	}
	for _, i := range at {
		if x, ok := v.value(node.Items[i], deep+1); ok {
			return pick(int64(i), x), true
		}
	}
	return null, false
}

func TestSomeReadings(t *testing.T) { // P11.1, P11.2, P11.4 to P11.6 of schemas and values by chance
	r := rand.New(rand.NewSource(11))
	seen, leasts, same, another := map[api.Errno]int{}, map[api.Errno]int{}, 0, 0
	for range 5000 {
		s, p := someTexts(r)
		writer, reader := schema(t, s), schema(t, p)
		for _, o := range []api.Schema{writer, reader} {
			d, e := wantedDefault(o)
			expectDefault(t, o, d, e)
			leasts[e]++
		}
		for i := range 4 {
			from := []api.Schema{writer, writer, writer, reader}[i]
			d, ok := someValue(r, from)
			if !ok {
				continue
			}
			seen[expectAsWanted(t, reader, writer, d)]++
			e := expectAsWanted(t, from, from, d)
			if e != api.OK || ahead(from, d) {
				another++
				continue
			}
			same++
			expectOnlyRead(t, from, from, d, d, api.OK)
		}
	}
	if seen[api.OK] < 5000 || seen[api.ErrArg] < 500 || seen[api.ErrForm] < 500 || seen[api.ErrLong] < 100 || len(seen) != 4 {
		t.Errorf("too few of a sort: %v", seen)
	}
	if leasts[api.OK] < 5000 || leasts[api.ErrLong] < 200 || len(leasts) != 2 || same < 5000 || another < 200 {
		t.Errorf("too few of a sort: defaults %v, the same %d, another %d", leasts, same, another)
	}
}

func TestSomeFields(t *testing.T) { // P11.3 of schemas by chance
	r := rand.New(rand.NewSource(3))
	some := 0
	for range 3000 {
		s, p := someTexts(r)
		a, b := schema(t, s), schema(t, p)
		var want []int
		if a.Nodes[0].K == 11 && b.Nodes[0].K == 11 {
			at := map[string]int{}
			for i, f := range b.Nodes[0].Fields {
				at[f.Name] = i + 1
			}
			for _, f := range a.Nodes[0].Fields {
				want = append(want, at[f.Name]-1)
			}
		}
		if got := compat.Field(a, b); !slices.Equal(got, want) {
			t.Errorf("Field(%s, %s) = %v", s, p, got)
		}
		some += len(want)
	}
	if some < 500 {
		t.Errorf("only %d fields", some)
	}
}

// ---- the rules that hold everywhere

// all: d and all that lies in it, to be changed.
func all(d *api.Datum) []*api.Datum {
	l := []*api.Datum{d}
	for i := range d.L {
		l = append(l, all(&d.L[i])...)
	}
	return l
}

// fill fills the spare room of a list.
func fill[T any](l []T, x T) {
	spare := l[len(l):cap(l)]
	for i := range spare {
		spare[i] = x
	}
}

// lender lends texts in bytes that may be changed.
type lender struct{ bodies [][]byte }

func (l *lender) text(s string) string {
	b := append([]byte(s), 0)
	l.bodies = append(l.bodies, b)
	return unsafe.String(&b[0], len(s))
}

// texts: each of them lent, with room behind them.
func (l *lender) texts(few []string) []string {
	m := make([]string, 0, len(few)+3)
	for _, s := range few {
		m = append(m, l.text(s))
	}
	fill(m, "spare")
	return m
}

// datum: d in other lists and texts.
func (l *lender) datum(d api.Datum) api.Datum {
	x := api.Datum{N: d.N, S: l.text(d.S), Keys: l.texts(d.Keys), L: make([]api.Datum, 0, len(d.L)+3)}
	for _, y := range d.L {
		x.L = append(x.L, l.datum(y))
	}
	fill(x.L, str("spare"))
	return x
}

// schema: o in other lists and texts.
func (l *lender) schema(o api.Schema) api.Schema {
	nodes := make([]api.Node, 0, len(o.Nodes)+3)
	for _, x := range o.Nodes {
		fields := make([]api.Field, 0, len(x.Fields)+3)
		for _, f := range x.Fields {
			fields = append(fields, api.Field{Name: l.text(f.Name), Has: f.Has, Type: f.Type})
		}
		fill(fields, api.Field{Name: "spare"})
		items := append(make([]int, 0, len(x.Items)+3), x.Items...)
		fill(items, 77)
		nodes = append(nodes, api.Node{K: x.K, Name: l.text(x.Name), Size: x.Size, Syms: l.texts(x.Syms), Items: items, Fields: fields})
	}
	fill(nodes, api.Node{Name: "spare"})
	return api.Schema{Nodes: nodes}
}

// spoil puts other bytes into all that was lent.
func (l *lender) spoil() {
	for _, b := range l.bodies {
		for i := range b {
			b[i] = '!'
		}
	}
}

// wholeSchema tells o with the room behind each list.
func wholeSchema(o api.Schema) string {
	l := o.Nodes[:cap(o.Nodes)]
	s := toldSchema(api.Schema{Nodes: l})
	for _, x := range l {
		s += fmt.Sprint(x.Syms[:cap(x.Syms)], x.Items[:cap(x.Items)], x.Fields[:cap(x.Fields)])
	}
	return s
}

// wholeDatum tells d with the room behind each list.
func wholeDatum(d api.Datum) string {
	s := ""
	for _, x := range all(&d) {
		s += fmt.Sprintf("%d %q %q %d ", x.N, x.S, x.Keys[:cap(x.Keys)], len(x.L))
		for _, y := range x.L[len(x.L):cap(x.L)] {
			s += told(y)
		}
	}
	return s
}

func TestMemory(t *testing.T) { // DOC.md, Memory: what is handed in is neither changed nor kept
	for _, x := range readings() {
		var l lender
		r, w, d := l.schema(schema(t, x.reader)), l.schema(schema(t, x.writer)), l.datum(x.d)
		was := wholeSchema(r) + wholeSchema(w) + wholeDatum(d)
		got, e := compat.Read(r, w, d)
		least, no := compat.Default(r)
		wantLeast, _ := wantedDefault(schema(t, x.reader))
		places, want := compat.Field(r, w), compat.Field(schema(t, x.reader), schema(t, x.writer))
		if e != api.OK || no != api.OK || wholeSchema(r)+wholeSchema(w)+wholeDatum(d) != was {
			t.Fatalf("of %s and %s: an argument was changed: %d, %d", x.reader, x.writer, e, no)
		}
		l.spoil()
		for _, y := range slices.Backward(all(&d)) {
			clear(y.Keys[:cap(y.Keys)])
			clear(y.L[:cap(y.L)])
		}
		clear(r.Nodes)
		clear(w.Nodes)
		if told(got) != told(x.want) || told(least) != told(wantLeast) || !slices.Equal(places, want) {
			t.Fatalf("of %s and %s: an answer shares memory with an argument", x.reader, x.writer)
		}
	}
}

// expectApart holds that no two lists of d share any memory, spare room included, and that d2, the same in another answer, shares none with them.
func expectApart(t *testing.T, d, d2 api.Datum) {
	t.Helper()
	want := told(d)
	for _, x := range all(&d) {
		fill(x.L, str("spoilt"))
		fill(x.Keys, "spoilt")
	}
	if told(d) != want {
		t.Errorf("two lists of %s share memory", short(want))
	}
	for _, x := range slices.Backward(all(&d)) {
		clear(x.Keys)
		clear(x.L)
	}
	if told(d2) != want {
		t.Errorf("two answers of %s share memory", short(want))
	}
}

func TestListsMemory(t *testing.T) { // DOC.md, Memory: each answer is new, no two lists share any
	for _, x := range readings() {
		r, w := schema(t, x.reader), schema(t, x.writer)
		for _, y := range []struct {
			r, w api.Schema
			d    api.Datum
		}{{r, w, x.d}, {w, w, x.d}, {r, r, x.want}} {
			first, _ := compat.Read(y.r, y.w, y.d)
			second, _ := compat.Read(y.r, y.w, y.d)
			expectApart(t, first, second)
		}
		one, _ := compat.Default(r)
		two, _ := compat.Default(r)
		expectApart(t, one, two)
		l, m := compat.Field(r, w), compat.Field(r, w)
		want := slices.Clone(m)
		fill(l, 77)
		clear(l)
		if !slices.Equal(m, want) {
			t.Errorf("of %s and %s: two Fields share memory", x.reader, x.writer)
		}
	}
}

func TestNilAndEmpty(t *testing.T) { // DOC.md, Memory: they are alike
	for _, x := range readings() {
		r, w := schema(t, x.reader), schema(t, x.writer)
		for _, o := range []api.Schema{r, w} {
			for i, y := range o.Nodes {
				o.Nodes[i].Syms, o.Nodes[i].Items, o.Nodes[i].Fields = append([]string{}, y.Syms...), append([]int{}, y.Items...), append([]api.Field{}, y.Fields...)
			}
		}
		d := (&lender{}).datum(x.d)
		for _, y := range all(&d) {
			y.Keys, y.L = append([]string{}, y.Keys...), append([]api.Datum{}, y.L...)
		}
		expectOnlyRead(t, r, w, d, x.want, api.OK)
		want, e := wantedDefault(schema(t, x.reader))
		expectDefault(t, r, want, e)
	}
}

func TestArgumentsAlone(t *testing.T) { // DOC.md, From arguments alone: what was asked or refused ahead changes nothing
	for range 5 {
		expectRead(t, "record l{v:long;n:(null|l);}", "record l{n:(l|null);v:int;}", list(pick(0, list(pick(1, null), num(2))), num(1)), list(num(1), pick(1, list(num(2), pick(0, null)))))
		expectRefused(t, "[(null)]", "[null]", times(1500, null), api.ErrLong)
		expectDefault(t, schema(t, "record r{a:r;}"), null, api.ErrLong)
		expectDefault(t, schema(t, "record r{a?:(text|r);}"), list(pick(0, str(""))), api.OK)
		expectRefused(t, "int", "long", num(1), api.ErrForm)
	}
}

func TestEnds(t *testing.T) { // DOC.md, Ends: values far beyond the limits, also ones that lie in themselves; readers far larger than what they read
	self := list(null)
	self.L[0] = pick(3, self)
	twice := null
	for range 90 {
		twice = times(2, twice)
	}
	deep := within(1<<16-1, null, func(d api.Datum) api.Datum { return list(d) })
	wide := times(1<<20, null)
	for _, s := range []string{"null", "int", "[int]", "[[null]]", "(null|[null])", "record r{a:r;}", "record r{a:[r];}", "record r{a:r;b:r;}", "record r{a:(null|[r]|{r}|r);}"} {
		for _, d := range []api.Datum{self, twice, deep, wide} {
			for _, p := range []string{s, "(int|" + s + ")", "bool", "record q{}"} {
				if o, _, e := parse.Parse(p); e == api.OK {
					if got, e := compat.Read(o, schema(t, s), d); e != api.ErrArg || told(got) != told(null) {
						t.Errorf("of %s and %s: %d", p, s, e)
					}
				}
			}
		}
	}
	many := "e?:enum e<x>;"
	for i := range 280 {
		many += "f" + strconv.Itoa(i) + "?:e;"
	}
	expectRefused(t, "[record r{"+many+"}]", "[record r{}]", times(1999, list()), api.ErrLong)
	expectRefused(t, "[record r{"+many+"}]", "[record r{}]", times(8, list()), api.ErrLong)
	expectRefused(t, "[record r{"+strings.ReplaceAll(many, ":e;", ":r;")+"}]", "[record r{}]", times(1, list()), api.ErrLong)
	filled := times(281, str("x"))
	expectRead(t, "[record r{"+many+"}]", "[record r{}]", times(7, list()), times(7, filled))
}

func FuzzRead(f *testing.F) { // P11.1 to P11.6 of whatever schemas and values
	for _, x := range readings() {
		o, _, _ := parse.Parse(x.writer)
		if b, e := datum.Put(o, x.d); e == api.OK && len(b) < 1000 {
			f.Add(x.reader, x.writer, b)
		}
	}
	f.Add("", "int", []byte{0})
	f.Fuzz(func(t *testing.T, s, p string, b []byte) {
		r, _, e := parse.Parse(s)
		w, _, no := parse.Parse(p)
		if e != api.OK || no != api.OK {
			expectOnlyRead(t, r, w, null, null, api.ErrArg)
			return
		}
		want, e := wantedDefault(r)
		expectDefault(t, r, want, e)
		d, e := datum.Take(w, b)
		if e != api.OK {
			return
		}
		expectAsWanted(t, r, w, d)
		if expectAsWanted(t, w, w, d) == api.OK && !ahead(w, d) {
			expectOnlyRead(t, w, w, d, d, api.OK)
		}
	})
}
