package datum_test

import (
	"bytes"
	"encoding/binary"
	"encoding/hex"
	"fmt"
	"math"
	"math/rand"
	"slices"
	"strconv"
	"strings"
	"testing"
	"unsafe"

	"suffragan/api"
	"suffragan/datum"
	"suffragan/parse"
)

// Values, as short forms.
func num(n int64) api.Datum                         { return api.Datum{N: n} }
func str(s string) api.Datum                        { return api.Datum{S: s} }
func list(l ...api.Datum) api.Datum                 { return api.Datum{L: l} }
func pick(n int64, d api.Datum) api.Datum           { return api.Datum{N: n, L: []api.Datum{d}} }
func dict(keys string, l ...api.Datum) api.Datum    { return api.Datum{Keys: strings.Fields(keys), L: l} }
func keyed(keys []string, l ...api.Datum) api.Datum { return api.Datum{Keys: keys, L: l} }
func times(n int, d api.Datum) api.Datum            { return list(slices.Repeat([]api.Datum{d}, n)...) }
func nested(n int, d api.Datum) api.Datum {
	return within(n, d, func(x api.Datum) api.Datum { return list(x) })
}

// within wraps d n times.
func within(n int, d api.Datum, wrap func(api.Datum) api.Datum) api.Datum {
	for range n {
		d = wrap(d)
	}
	return d
}

// null: the value of null, and the zero value.
var null = api.Datum{}

// schema: the one that s is a text of.
func schema(t testing.TB, s string) api.Schema {
	t.Helper()
	o, place, e := parse.Parse(s)
	if e != api.OK {
		t.Fatalf("%q has no schema: %d, %d", s, place, e)
	}
	return o
}

// unhex: the bytes that digits tell, blanks between them.
func unhex(t testing.TB, digits string) []byte {
	t.Helper()
	b, err := hex.DecodeString(strings.ReplaceAll(digits, " ", ""))
	if err != nil {
		t.Fatal(err)
	}
	return b
}

// told writes a value out whole; of lists nil and empty are told alike.
func told(d api.Datum) string {
	var b strings.Builder
	tell(&b, d)
	return b.String()
}

func tell(b *strings.Builder, d api.Datum) {
	fmt.Fprintf(b, "%d %q %q (", d.N, d.S, d.Keys)
	for _, x := range d.L {
		tell(b, x)
		b.WriteByte(';')
	}
	b.WriteByte(')')
}

// toldSchema writes a schema out whole.
func toldSchema(o api.Schema) string { return fmt.Sprintf("%+v", o) }

// ---- another way of working out what each call answers

// number: n's bytes as chapter 1 has them.
func number(n int) []byte {
	switch {
	case n < 1<<6:
		return []byte{byte(n)}
	case n < 1<<14:
		return binary.BigEndian.AppendUint16(nil, uint16(n)|1<<14)
	case n < 1<<30:
		return binary.BigEndian.AppendUint32(nil, uint32(n)|2<<30)
	}
	return binary.BigEndian.AppendUint64(nil, uint64(n)|3<<62)
}

// text: a text's bytes.
func text(s string) []byte { return append(number(len(s)), s...) }

// level: the values that lie in as many others, and the nodes that they should fit.
type level struct {
	values []api.Datum
	nodes  []int
}

// names: for each kind which fields its values have.
var names = []string{"", "N", "N", "N", "S", "S", "L", "Keys L", "N L", "S", "S", "L"}

// fitting: another Fits, level by level, without recursion; o must have a text.
func fitting(o api.Schema, d api.Datum) bool {
	parts := 0
	for at, deep := (level{[]api.Datum{d}, []int{0}}), 1; len(at.values) > 0; deep++ {
		parts += len(at.values)
		if parts > 2000 || deep > 100 {
			return false
		}
		var below level
		for i, x := range at.values {
			node := o.Nodes[at.nodes[i]]
			has := map[string]bool{"N": x.N != 0, "S": x.S != "", "Keys": len(x.Keys) > 0, "L": len(x.L) > 0}
			for name, is := range has {
				if is && !slices.Contains(strings.Fields(names[node.K]), name) {
					return false
				}
			}
			l, ok := inner(node, x)
			if !ok {
				return false
			}
			below.nodes = append(below.nodes, l...)
			below.values = append(below.values, x.L...)
		}
		at = below
	}
	return true
}

// inner: the nodes that x's L should fit; false, if x can't be a value of node whatever they are.
func inner(node api.Node, x api.Datum) ([]int, bool) {
	l := []int{}
	switch node.K {
	case 1:
		return nil, x.N|1 == 1
	case 2:
		return nil, x.N >= math.MinInt32 && x.N <= math.MaxInt32
	case 4, 5:
		return nil, len(x.S) <= 65536
	case 6, 7:
		for range x.L {
			l = append(l, node.Items[0])
		}
		sorted := slices.Compact(slices.Sorted(slices.Values(x.Keys)))
		long := slices.ContainsFunc(x.Keys, func(s string) bool { return len(s) > 65536 })
		return l, node.K == 6 || len(x.Keys) == len(x.L) && slices.Equal(sorted, x.Keys) && !long
	case 8:
		if x.N < 0 || x.N >= int64(len(node.Items)) || len(x.L) != 1 {
			return nil, false
		}
		return []int{node.Items[x.N]}, true
	case 9:
		return nil, slices.Contains(node.Syms, x.S)
	case 10:
		return nil, len(x.S) == node.Size
	case 11:
		for _, f := range node.Fields {
			l = append(l, f.Type)
		}
		return l, len(x.L) == len(l)
	}
	return nil, true
}

// pieces: the bytes of a value that fits, another time.
func pieces(o api.Schema, n int, d api.Datum) []byte {
	node := o.Nodes[n]
	var b []byte
	switch node.K {
	case 1:
		b = []byte{"\x00\x01"[d.N]}
	case 2:
		b = binary.BigEndian.AppendUint32(nil, uint32(d.N))
	case 3:
		b = binary.BigEndian.AppendUint64(nil, uint64(d.N))
	case 4, 5:
		b = text(d.S)
	case 6:
		b = number(len(d.L))
	case 7:
		b = number(len(d.Keys))
	case 8:
		return append(number(int(d.N)), pieces(o, node.Items[d.N], d.L[0])...)
	case 9:
		b = number(slices.Index(node.Syms, d.S))
	case 10:
		b = []byte(d.S)
	}
	below, _ := inner(node, d)
	for i, x := range d.L {
		if node.K == 7 {
			b = append(b, text(d.Keys[i])...)
		}
		b = append(b, pieces(o, below[i], x)...)
	}
	return b
}

// goal: what is read next: a value of the node node that lies in deep others, or the key of one.
type goal struct {
	node, deep int
	to         *api.Datum
	key, ahead *string // where the key is put, and the one ahead of it
}

// machine: another way of reading, without recursion: a stack of goals.
type machine struct {
	o     api.Schema
	b     []byte
	goals []goal
	begun int
}

// wanted: what Take should answer, of a schema with a text.
func wanted(o api.Schema, b []byte) (api.Datum, api.Errno) {
	var d api.Datum
	m := &machine{o: o, b: b, goals: []goal{{to: &d}}}
	for len(m.goals) > 0 {
		g := m.goals[len(m.goals)-1]
		m.goals = m.goals[:len(m.goals)-1]
		if e := m.step(g); e != api.OK {
			return api.Datum{}, e
		}
	}
	if len(m.b) > 0 {
		return api.Datum{}, api.ErrForm
	}
	return d, api.OK
}

// bytes: the next n.
func (m *machine) bytes(n int) ([]byte, api.Errno) {
	if n > len(m.b) {
		return nil, api.ErrShort
	}
	b := m.b[:n]
	m.b = m.b[n:]
	return b, api.OK
}

// number: the next one, as chapter 1 has it.
func (m *machine) number() (uint64, api.Errno) {
	if len(m.b) == 0 {
		return 0, api.ErrShort
	}
	size := []int{1, 2, 4, 8}[m.b[0]>>6]
	b, e := m.bytes(size)
	if e != api.OK {
		return 0, e
	}
	full := append(make([]byte, 8-size), b...)
	full[8-size] &= 0x3f
	n := binary.BigEndian.Uint64(full)
	if len(number(int(n))) != size {
		return 0, api.ErrForm
	}
	return n, api.OK
}

// text: the next one, as chapter 1 has it.
func (m *machine) text() (string, api.Errno) {
	n, e := m.number()
	if e != api.OK {
		return "", e
	}
	if n > 65536 {
		return "", api.ErrLong
	}
	b, e := m.bytes(int(n))
	return string(b), e
}

// step reads one value up to those that lie in it, or one key.
func (m *machine) step(g goal) (e api.Errno) {
	if g.key != nil {
		*g.key, e = m.text()
		if e == api.OK && g.ahead != nil && strings.Compare(*g.ahead, *g.key) >= 0 {
			e = api.ErrForm
		}
		return e
	}
	if g.deep == 100 || m.begun == 2000 {
		return api.ErrLong
	}
	m.begun++
	node, d := m.o.Nodes[g.node], g.to
	var b []byte
	var n uint64
	switch node.K {
	case 1:
		if b, e = m.bytes(1); e == api.OK {
			d.N = int64(b[0])
			if b[0] > 1 {
				e = api.ErrForm
			}
		}
	case 2:
		if b, e = m.bytes(4); e == api.OK {
			d.N = int64(int32(binary.BigEndian.Uint32(b)))
		}
	case 3:
		if b, e = m.bytes(8); e == api.OK {
			d.N = int64(binary.BigEndian.Uint64(b))
		}
	case 4, 5:
		d.S, e = m.text()
	case 6, 7:
		if n, e = m.number(); e == api.OK && n > 2000 {
			e = api.ErrLong
		}
		if e == api.OK {
			m.follow(g, slices.Repeat(node.Items, int(n)), node.K == 7)
		}
	case 8, 9:
		if n, e = m.number(); e == api.OK && n >= uint64(len(node.Items)+len(node.Syms)) {
			e = api.ErrForm
		}
		if e == api.OK && node.K == 8 {
			d.N = int64(n)
			m.follow(g, node.Items[n:n+1], false)
		} else if e == api.OK {
			d.S = node.Syms[n]
		}
	case 10:
		b, e = m.bytes(node.Size)
		d.S = string(b)
	case 11:
		var l []int
		for _, f := range node.Fields {
			l = append(l, f.Type)
		}
		m.follow(g, l, false)
	}
	return e
}

// follow puts what lies in a value on the stack, the first on top.
func (m *machine) follow(g goal, nodes []int, keys bool) {
	g.to.L = make([]api.Datum, len(nodes))
	if keys {
		g.to.Keys = make([]string, len(nodes))
	}
	for i, n := range slices.Backward(nodes) {
		m.goals = append(m.goals, goal{node: n, deep: g.deep + 1, to: &g.to.L[i]})
		if keys {
			k := goal{key: &g.to.Keys[i]}
			if i > 0 {
				k.ahead = &g.to.Keys[i-1]
			}
			m.goals = append(m.goals, k)
		}
	}
}

// ---- what is held of each value, and of all bytes

// short tells a text's or a value's beginning.
func short(s string) string { return fmt.Sprintf("%.200s", s) }

// expectFit holds Fits and Put of d against what is wanted: the bytes want, and both ways (P9.4).
func expectFit(t *testing.T, o api.Schema, d api.Datum, want []byte) {
	t.Helper()
	if !datum.Fits(o, d) {
		t.Errorf("of %s: %s does not fit", short(toldSchema(o)), short(told(d)))
	}
	b, e := datum.Put(o, d)
	if e != api.OK || !bytes.Equal(b, want) {
		t.Errorf("of %s: Put(%s) = %.40x, %d, not %.40x", short(toldSchema(o)), short(told(d)), b, e, want)
	}
	expectTaken(t, o, want, d)
}

// expectUnfit holds that d does not fit.
func expectUnfit(t *testing.T, o api.Schema, d api.Datum) {
	t.Helper()
	if datum.Fits(o, d) {
		t.Errorf("of %s: %s fits", short(toldSchema(o)), short(told(d)))
	}
	if b, e := datum.Put(o, d); e != api.ErrArg || len(b) > 0 {
		t.Errorf("of %s: Put(%s) = %.40x, %d", short(toldSchema(o)), short(told(d)), b, e)
	}
}

// expectTaken holds Take of b against what is wanted.
func expectTaken(t *testing.T, o api.Schema, b []byte, want api.Datum) {
	t.Helper()
	got, e := datum.Take(o, b)
	if e != api.OK || told(got) != told(want) {
		t.Errorf("of %s: Take(%.40x) = %s, %d, not %s", short(toldSchema(o)), b, short(told(got)), e, short(told(want)))
	}
}

// expectRefused holds that Take of b is none, for that reason.
func expectRefused(t *testing.T, o api.Schema, b []byte, want api.Errno) {
	t.Helper()
	got, e := datum.Take(o, b)
	if e != want || told(got) != told(null) {
		t.Errorf("of %s: Take(%.40x) of %d bytes = %s, %d, not %d", short(toldSchema(o)), b, len(b), short(told(got)), e, want)
	}
}

// expectBeginnings holds P9.5, of all that is missing behind, and that a byte too many is told.
func expectBeginnings(t *testing.T, o api.Schema, b []byte) {
	t.Helper()
	for n := range b {
		expectRefused(t, o, b[:n:n], api.ErrShort)
	}
	for _, c := range []byte{0, 1, 0xff} {
		expectRefused(t, o, append(bytes.Clone(b), c), api.ErrForm)
	}
}

// ---- the chapter's examples, and values of each kind

func TestExamples(t *testing.T) { // the chapter's examples
	expectFit(t, schema(t, "int"), num(-3), []byte{0xff, 0xff, 0xff, 0xfd})
	expectFit(t, schema(t, "text"), str("ab"), []byte{2, 0x61, 0x62})
}

func TestConstants(t *testing.T) { // P9.1: the numbers that this file writes out are those of api
	kinds := []int{api.KNull, api.KBool, api.KInt, api.KLong, api.KBytes, api.KText, api.KArray, api.KMap, api.KUnion, api.KEnum, api.KFixed, api.KRecord, api.Kinds}
	for i, k := range kinds {
		if i != k {
			t.Errorf("kind %d is %d", i, k)
		}
	}
	if api.MaxParts != 2000 || api.MaxDeep != 100 || api.MaxBytes != 65536 || api.MaxSize != 4096 {
		t.Error("package api has other numbers")
	}
}

// sample: a value of a schema, and its bytes.
type sample struct {
	s      string
	d      api.Datum
	digits string
}

// samples: of each kind, in themselves and in one another.
func samples() []sample {
	return []sample{
		{"null", null, ""},
		{"bool", num(0), "00"}, {"bool", num(1), "01"},
		{"int", num(0), "00000000"}, {"int", num(1), "00000001"}, {"int", num(-1), "ffffffff"}, {"int", num(256), "00000100"}, {"int", num(0x12345678), "12345678"}, {"int", num(-0x12345678), "edcba988"},
		{"int", num(1<<31 - 1), "7fffffff"}, {"int", num(-1 << 31), "80000000"},
		{"long", num(0), "0000000000000000"}, {"long", num(-3), "fffffffffffffffd"}, {"long", num(0x123456789abcdef0), "123456789abcdef0"}, {"long", num(1 << 31), "0000000080000000"}, {"long", num(-1<<31 - 1), "ffffffff7fffffff"},
		{"long", num(1<<63 - 1), "7fffffffffffffff"}, {"long", num(-1 << 63), "8000000000000000"},
		{"bytes", str(""), "00"}, {"bytes", str("\x00\xff\x00"), "03 00ff00"}, {"text", str(""), "00"}, {"text", str("a"), "01 61"}, {"text", str("\xff\xc0 no runes"), "0b ffc0 206e6f2072756e6573"}, {"text", str("\u00e9"), "02 c3a9"},
		{"text", str(strings.Repeat("x", 63)), "3f" + strings.Repeat("78", 63)}, {"text", str(strings.Repeat("x", 64)), "4040" + strings.Repeat("78", 64)}, {"bytes", str(strings.Repeat("x", 16384)), "80004000" + strings.Repeat("78", 16384)},
		{"[int]", list(), "00"}, {"[int]", list(num(7)), "01 00000007"}, {"[int]", list(num(7), num(-7), num(7)), "03 00000007 fffffff9 00000007"}, {"[null]", list(), "00"}, {"[null]", list(null, null), "02"}, {"[null]", times(63, null), "3f"}, {"[null]", times(64, null), "4040"}, {"[null]", times(1999, null), "47cf"},
		{"[[bool]]", list(list(), list(num(1)), list(num(0), num(1))), "03 00 01 01 02 00 01"}, {"[text]", list(str("b"), str("a"), str("")), "03 01 62 01 61 00"},
		{"{int}", dict(""), "00"}, {"{int}", dict("a", num(1)), "01 01 61 00000001"}, {"{bool}", dict("a b c", num(1), num(0), num(1)), "03 01 61 01 01 62 00 01 63 01"}, {"{null}", dict("a b", null, null), "02 01 61 01 62"},
		{"{null}", keyed([]string{""}, null), "01 00"}, {"{null}", keyed([]string{"", "\x00", "\x00\x00", "\x01", "a", "a\x00", "aa", "b", "\x7f", "\x80", "\xff", "\xff\xff"}, slices.Repeat([]api.Datum{null}, 12)...), "0c 00 01 00 02 00 00 01 01 01 61 02 61 00 02 61 61 01 62 01 7f 01 80 01 ff 02 ff ff"},
		{"{{text}}", dict("x y", dict("b", str("")), dict("")), "02 01 78 01 01 62 00 01 79 00"}, {"{text}", dict("B a", str("a"), str("B")), "02 01 42 01 61 01 61 01 42"},
		{"(null)", pick(0, null), "00"}, {"(null|int)", pick(0, null), "00"}, {"(null|int)", pick(1, num(5)), "01 00000005"}, {"(int|long|text)", pick(1, num(5)), "01 0000000000000005"}, {"(int|long|text)", pick(2, str("5")), "02 01 35"}, {"([null]|{null})", pick(0, list(null)), "00 01"}, {"([null]|{null})", pick(1, dict("k", null)), "01 01 01 6b"},
		{"enum e<x>", str("x"), "00"}, {"enum e<x,y,z>", str("x"), "00"}, {"enum e<x,y,z>", str("y"), "01"}, {"enum e<z,e,a>", str("a"), "02"}, {"enum e<z,e,a>", str("e"), "01"},
		{"fixed f 0", str(""), ""}, {"fixed f 1", str("\x00"), "00"}, {"fixed f 3", str("a\x00c"), "61 00 63"}, {"fixed f 4096", str(strings.Repeat("ab", 2048)), strings.Repeat("6162", 2048)},
		{"record r{}", list(), ""}, {"record r{a:int;}", list(num(1)), "00000001"}, {"record r{a?:int;b:text;}", list(num(1), str("b")), "00000001 01 62"}, {"record r{b:text;a?:int;}", list(str("b"), num(1)), "01 62 00000001"}, {"record r{a:null;b:null;c:record s{};}", list(null, null, list()), ""},
		{"record p{a?:(null|p);}", list(pick(0, null)), "00"}, {"record p{a?:(null|p);}", list(pick(1, list(pick(1, list(pick(0, null)))))), "01 01 00"}, {"record r{a:[r];}", list(list(list(list()), list(list(list(list()))))), "02 00 01 00"}, {"record r{a:{r};}", list(dict("k", list(dict("")))), "01 01 6b 00"},
		{"record r{a:enum e<x,y>;b:e;c:fixed f 2;d:[f];e:(f|e|r|null);}", list(str("y"), str("x"), str("\x00\x01"), list(str("ab"), str("cd")), pick(1, str("y"))), "01 00 0001 02 6162 6364 01 01"},
		{"(null|bool|int|long|bytes|text|[int]|{int}|enum e<x>|fixed g 1|record r{})", pick(10, list()), "0a"}, {"(null|bool|int|long|bytes|text|[int]|{int}|enum e<x>|fixed g 1|record r{})", pick(8, str("x")), "08 00"},
	}
}

func TestValues(t *testing.T) { // P9.1, P9.2, P9.3: values that fit, with their bytes; P9.4, P9.5 of them
	for _, x := range samples() {
		o, b := schema(t, x.s), unhex(t, x.digits)
		expectFit(t, o, x.d, b)
		expectBeginnings(t, o, b)
	}
}

func TestPlaces(t *testing.T) { // P9.2: places of two bytes
	var syms, fields []string
	for i := range 130 {
		syms = append(syms, "s"+strconv.Itoa(i))
		fields = append(fields, "record r"+strconv.Itoa(i)+"{}")
	}
	enum, union := schema(t, "enum e<"+strings.Join(syms, ",")+">"), schema(t, "("+strings.Join(fields, "|")+")")
	for i := range 130 {
		expectFit(t, enum, str(syms[i]), number(i))
		expectFit(t, union, pick(int64(i), list()), number(i))
		expectBeginnings(t, enum, number(i))
	}
	for _, i := range []int{130, 131, 255, 256, 386, 1 << 14, 1<<30 - 1} {
		expectRefused(t, enum, number(i), api.ErrForm)
		expectRefused(t, union, number(i), api.ErrForm)
		expectUnfit(t, enum, str("s"+strconv.Itoa(i)))
		expectUnfit(t, union, pick(int64(i), list()))
	}
}

// ---- values that do not fit

func TestUnfit(t *testing.T) { // P9.1: of each kind what it does not have
	long := strings.Repeat("x", 65537)
	for s, l := range map[string][]api.Datum{
		"null":                     {num(1), num(-1), str("x"), list(null), keyed([]string{""}), dict("a", null), pick(1, null)},
		"bool":                     {num(2), num(-1), num(256), num(1 << 32), num(1<<63 - 1), num(-1 << 63)},
		"int":                      {num(1 << 31), num(-1<<31 - 1), num(1 << 32), num(1<<32 + 5), num(-1 << 32), num(1<<63 - 1), num(-1 << 63)},
		"bytes":                    {str(long), num(1), list(str(""))},
		"text":                     {str(long), num(1), list(str(""))},
		"[int]":                    {num(0x100000000), str("x"), list(num(1 << 31)), list(num(1), str("x")), dict("a", num(1)), list(list(num(1)))},
		"[bool]":                   {list(num(1), num(2)), list(num(2), num(1)), list(num(0), num(1), num(-1))},
		"{int}":                    {list(num(1)), dict("a"), dict("a b", num(1)), dict("a", num(1), num(2)), dict("b a", num(1), num(2)), dict("a a", num(1), num(2)), dict("a c b", num(1), num(2), num(3)), dict("a b b", num(1), num(2), num(3)), dict("a", str("x")), dict("a b", num(1), num(1<<31)), keyed([]string{"", ""}, num(1), num(2)), keyed([]string{"a", ""}, num(1), num(2)), keyed([]string{long}, num(1)), keyed([]string{"a", long}, num(1), num(2)), keyed([]string{"\xff", "a"}, num(1), num(2)), keyed([]string{"aa", "a"}, num(1), num(2))},
		"(null|int)":               {null, num(0), num(1), pick(0, num(1)), pick(1, str("x")), pick(1, num(1<<31)), pick(2, null), pick(-1, null), pick(1<<32, null), pick(1<<32+1, num(1)), pick(-1<<63, null), pick(1<<63-1, null), {N: 1, L: []api.Datum{num(1), num(2)}}, {N: 0, L: []api.Datum{null, null}}, {N: 1, L: []api.Datum{pick(1, num(1))}}, str("null"), {N: 1, S: "x", L: []api.Datum{num(1)}}, {N: 1, Keys: []string{"a"}, L: []api.Datum{num(1)}}},
		"enum e<x,y>":              {str(""), str("z"), str("X"), str("xy"), str("x,y"), str("e"), str("x "), num(0), num(1), list(), null, {N: 1, S: "x"}, {S: "x", L: []api.Datum{null}}},
		"fixed f 2":                {str(""), str("a"), str("abc"), null, {N: 2, S: "ab"}, {N: 2}, list(num(1), num(2))},
		"fixed f 0":                {str("a"), str("\x00"), num(1)},
		"record r{}":               {list(null), num(1), str("r"), keyed([]string{"a"})},
		"record r{a:int;b?:text;}": {list(), list(num(1)), list(num(1), str("b"), null), list(str("b"), num(1)), list(num(1), num(1)), list(num(1<<31), str("b")), list(num(1), str(long)), dict("a b", num(1), str("b")), keyed([]string{"b"}, num(1), str("b")), null, num(1), str("r")},
		"record p{a?:(null|p);}":   {list(), list(null), list(pick(0, num(1))), list(pick(1, null)), list(pick(1, list(pick(2, null)))), list(pick(1, list(pick(1, list()))))},
		"record r{a:r;}":           {null, list(), list(list()), list(list(list(null))), nested(99, null), nested(100, null), nested(3000, null)},
	} {
		for _, d := range l {
			expectUnfit(t, schema(t, s), d)
		}
	}
}

func TestNotNamed(t *testing.T) { // P9.1: what the kind does not name must be zero; an empty list is
	for _, x := range samples() {
		o := schema(t, x.s)
		named := names[o.Nodes[0].K]
		for name, d := range map[string]api.Datum{
			"N": {N: 1, S: x.d.S, Keys: x.d.Keys, L: x.d.L}, "S": {N: x.d.N, S: "x", Keys: x.d.Keys, L: x.d.L},
			"Keys": {N: x.d.N, S: x.d.S, Keys: []string{""}, L: x.d.L}, "L": {N: x.d.N, S: x.d.S, Keys: x.d.Keys, L: []api.Datum{null}},
		} {
			if !slices.Contains(strings.Fields(named), name) {
				expectUnfit(t, o, d)
			}
		}
		d := x.d
		if d.Keys == nil {
			d.Keys = make([]string, 0, 3)
		}
		if d.L == nil {
			d.L = make([]api.Datum, 0, 3)
		}
		expectFit(t, o, d, unhex(t, x.digits))
	}
}

func TestNoText(t *testing.T) { // P9.1, P9.2, P9.3: a schema that no text has, ahead of all else
	node := func(k int, items ...int) api.Node { return api.Node{K: k, Items: items} }
	for _, l := range [][]api.Node{
		nil, {}, {node(12)}, {node(-1)}, {node(0), node(0)}, {node(2), node(2)}, {node(6)}, {node(6, 0)}, {node(6, 1)}, {node(6, 2), node(0)}, {node(6, -1)}, {node(6, 1, 1), node(0)}, {node(7)}, {node(8)}, {node(8, 1, 2), node(0), node(0)}, {node(8, 1), node(8, 2), node(0)},
		{{K: 0, Size: 1}}, {{K: 2, Name: "x"}}, {{K: 2, Items: []int{0}}}, {{K: 9}}, {{K: 9, Name: "e"}}, {{K: 9, Name: "int", Syms: []string{"x"}}}, {{K: 9, Name: "e", Syms: []string{"x", "x"}}}, {{K: 10, Name: "f", Size: -1}}, {{K: 10, Name: "f", Size: 4097}}, {{K: 10, Size: 1}}, {{K: 11}}, {{K: 11, Name: "r", Fields: []api.Field{{Name: "a", Type: 5}}}}, {{K: 11, Name: "r", Fields: []api.Field{{Name: "a", Type: -1}}}}, {{K: 11, Name: "r", Fields: []api.Field{{Name: "", Type: 0}}}},
		slices.Repeat([]api.Node{node(6, 1)}, 21),
	} {
		o := api.Schema{Nodes: l}
		if _, e := parse.Show(o); e != api.ErrArg {
			t.Fatalf("%s has a text", toldSchema(o))
		}
		for _, d := range []api.Datum{null, num(1), num(1 << 40), str("x"), str("ab"), list(), list(null), pick(0, null), pick(0, pick(0, null)), dict("a", null), nested(2999, null)} {
			expectUnfit(t, o, d)
		}
		for _, b := range [][]byte{nil, {0}, {1}, {0, 0}, {0x80, 1, 0, 1}, {0, 0, 0, 0}, {0xff, 0xff, 0xff, 0xff}, bytes.Repeat([]byte{0xff}, 5000)} {
			expectRefused(t, o, b, api.ErrArg)
		}
	}
}

// ---- Parts, Deep, Same

func TestPartsAndDeep(t *testing.T) { // P9.1
	for _, x := range []struct {
		d           api.Datum
		parts, deep int
	}{
		{null, 1, 1}, {num(5), 1, 1}, {str("abc"), 1, 1}, {keyed([]string{"a", "b", "c"}), 1, 1}, {api.Datum{L: []api.Datum{}}, 1, 1},
		{list(null), 2, 2}, {list(null, null, null), 4, 2}, {pick(3, num(1)), 2, 2}, {dict("a b", num(1), num(2)), 3, 2},
		{list(list(), list(list(null)), list()), 6, 4}, {list(list(list(null)), list(), list()), 6, 4}, {list(list(), list(), list(list(null))), 6, 4}, {list(list(null, null), list(null, null, null)), 8, 3},
		{nested(99, null), 100, 100}, {nested(100, null), 101, 101}, {times(1999, null), 2000, 2}, {times(2000, null), 2001, 2}, {times(1000, nested(2, null)), 3001, 4},
		{nested(1<<16-1, null), 1 << 16, 1 << 16}, {times(1<<20, str("x")), 1<<20 + 1, 2}, {times(1<<10, times(1<<10, null)), 1<<20 + 1<<10 + 1, 3},
	} {
		if n := datum.Parts(x.d); n != x.parts {
			t.Errorf("Parts = %d, not %d", n, x.parts)
		}
		if n := datum.Deep(x.d); n != x.deep {
			t.Errorf("Deep = %d, not %d", n, x.deep)
		}
	}
}

func TestSame(t *testing.T) { // P9.1: the same in all; nil is empty
	l := []api.Datum{
		null, num(1), num(-1), num(1 << 32), num(1 << 62), str("a"), str("b"), str("ab"), str("\x00"), keyed([]string{""}), keyed([]string{"a"}), keyed([]string{"a", "b"}), keyed([]string{"b", "a"}), keyed([]string{"ab"}),
		list(null), list(null, null), list(num(1)), list(str("a")), list(num(1), num(2)), list(num(2), num(1)), list(num(1), num(2), num(3)), list(list(null)), list(list(null), null), list(null, list(null)), list(list(null, null)), list(keyed([]string{"a"})),
		pick(1, num(1)), pick(1, null), {N: 1, S: "a"}, {N: 1, S: "a", Keys: []string{"a"}}, {N: 1, S: "a", Keys: []string{"a"}, L: []api.Datum{null}}, {S: "a", Keys: []string{"a"}, L: []api.Datum{null}}, dict("a", null), dict("a", num(1)), dict("b", null), dict("a b", null, null), dict("a", null, null), dict("a b", null),
		nested(50, num(1)), nested(50, num(2)), nested(51, num(1)), times(100, num(1)), list(append(slices.Repeat([]api.Datum{num(1)}, 99), num(2))...), list(append([]api.Datum{num(2)}, slices.Repeat([]api.Datum{num(1)}, 99)...)...),
	}
	for i, a := range l {
		for j, b := range l {
			if got := datum.Same(a, empties(b)); got != (i == j) {
				t.Errorf("Same(%s, %s) = %t", short(told(a)), short(told(b)), got)
			}
			if got := datum.Same(empties(a), b); got != (i == j) {
				t.Errorf("Same(%s, %s) = %t", short(told(a)), short(told(b)), got)
			}
		}
	}
	deep, wide := nested(1<<16-1, num(1)), times(1<<18, num(1))
	if !datum.Same(deep, nested(1<<16-1, num(1))) || datum.Same(deep, nested(1<<16-1, num(2))) || datum.Same(deep, nested(1<<16-2, num(1))) {
		t.Error("Same of deep values")
	}
	if !datum.Same(wide, times(1<<18, num(1))) || datum.Same(wide, times(1<<18-1, num(1))) || datum.Same(wide, list(append(slices.Repeat([]api.Datum{num(1)}, 1<<18-1), null)...)) {
		t.Error("Same of wide values")
	}
}

// empties: a copy of d whose lists are empty where d's are nil, and nil where d's are empty.
func empties(d api.Datum) api.Datum {
	keys, l := []string{}, []api.Datum{}
	if d.Keys != nil && len(d.Keys) == 0 {
		keys = nil
	}
	if d.L != nil && len(d.L) == 0 {
		l = nil
	}
	for _, x := range d.L {
		l = append(l, empties(x))
	}
	return api.Datum{N: d.N, S: d.S, Keys: append(keys, d.Keys...), L: l}
}

// ---- bytes that are no value's

func TestRefused(t *testing.T) { // P9.3: each error, and which is the first
	long := strings.Repeat("78", 65537)
	for _, x := range []struct {
		s, digits string
		e         api.Errno
	}{
		{"null", "00", api.ErrForm}, {"null", "ffff", api.ErrForm},
		{"bool", "", api.ErrShort}, {"bool", "02", api.ErrForm}, {"bool", "80", api.ErrForm}, {"bool", "ff", api.ErrForm}, {"bool", "0001", api.ErrForm},
		{"int", "", api.ErrShort}, {"int", "000000", api.ErrShort}, {"int", "0000000000", api.ErrForm}, {"long", "00000000000000", api.ErrShort}, {"long", "00000000", api.ErrShort}, {"long", "000000000000000000", api.ErrForm},
		{"text", "", api.ErrShort}, {"text", "01", api.ErrShort}, {"text", "40", api.ErrShort}, {"text", "800000", api.ErrShort}, {"text", "c0000000000000", api.ErrShort}, {"text", "0000", api.ErrForm}, {"text", "016161", api.ErrForm},
		{"text", "4001 61", api.ErrForm}, {"text", "403f", api.ErrForm}, {"text", "80003fff", api.ErrForm}, {"text", "c00000003fffffff", api.ErrForm}, {"text", "c000000000010001", api.ErrForm},
		{"text", "80010000", api.ErrShort}, {"text", "80010000" + long[:2*65535], api.ErrShort}, {"text", "80010000" + long, api.ErrForm}, {"text", "80010001", api.ErrLong}, {"bytes", "80010001" + long, api.ErrLong}, {"bytes", "bfffffff", api.ErrLong}, {"bytes", "c000000040000000", api.ErrLong}, {"bytes", "ffffffffffffffff", api.ErrLong},
		{"[int]", "", api.ErrShort}, {"[int]", "40", api.ErrShort}, {"[int]", "4001 00000001", api.ErrForm}, {"[int]", "01", api.ErrShort}, {"[int]", "02 00000001 000000", api.ErrShort}, {"[int]", "01 0000000100", api.ErrForm}, {"[int]", "00 00", api.ErrForm},
		{"[int]", "47d0", api.ErrShort}, {"[int]", "47d1", api.ErrLong}, {"[int]", "80010001", api.ErrLong}, {"[int]", "ffffffffffffffff", api.ErrLong}, {"[int]", "c000000100000001 00000001", api.ErrLong}, {"[null]", "47d0", api.ErrLong}, {"[null]", "47d1", api.ErrLong}, {"[null]", "47cf 00", api.ErrForm}, {"[null]", "47d0 00", api.ErrLong},
		{"[bool]", "02 02", api.ErrForm}, {"[bool]", "02 00 02", api.ErrForm}, {"[bool]", "02 00", api.ErrShort}, {"[bool]", "03 00 02 05 05", api.ErrForm}, {"[text]", "02 80010001", api.ErrLong}, {"[text]", "02 01 61 4000", api.ErrForm},
		{"{int}", "", api.ErrShort}, {"{int}", "01", api.ErrShort}, {"{int}", "01 01", api.ErrShort}, {"{int}", "01 0161 000000", api.ErrShort}, {"{int}", "4001", api.ErrForm}, {"{int}", "47d0", api.ErrShort}, {"{int}", "47d1", api.ErrLong}, {"{int}", "ffffffffffffffff", api.ErrLong}, {"{int}", "01 4001 61", api.ErrForm}, {"{int}", "01 80010001", api.ErrLong}, {"{null}", "01 80010001" + long, api.ErrLong},
		{"{int}", "02 0161 00000001 0161", api.ErrForm}, {"{int}", "02 0162 00000001 0161 00000001", api.ErrForm}, {"{int}", "02 0161 00000001 00", api.ErrForm}, {"{null}", "02 00 00", api.ErrForm}, {"{null}", "02 026161 0161", api.ErrForm}, {"{null}", "03 0161 0163 0162", api.ErrForm}, {"{null}", "03 0161 0162 0161", api.ErrForm}, {"{null}", "02 01ff 0161", api.ErrForm}, {"{null}", "02 0161", api.ErrShort}, {"{bool}", "02 0161 02 0161", api.ErrForm}, {"{bool}", "02 0161 00 0161", api.ErrForm}, {"{null}", "00 00", api.ErrForm},
		{"(null|int)", "", api.ErrShort}, {"(null|int)", "02", api.ErrForm}, {"(null|int)", "3f", api.ErrForm}, {"(null|int)", "4001", api.ErrForm}, {"(null|int)", "40", api.ErrShort}, {"(null|int)", "ffffffffffffffff", api.ErrForm}, {"(null|int)", "c000000100000001", api.ErrForm}, {"(null|int)", "01 000000", api.ErrShort}, {"(null|int)", "00 00", api.ErrForm}, {"(null)", "01", api.ErrForm},
		{"enum e<x,y>", "", api.ErrShort}, {"enum e<x,y>", "02", api.ErrForm}, {"enum e<x,y>", "4000", api.ErrForm}, {"enum e<x,y>", "c0", api.ErrShort}, {"enum e<x,y>", "ffffffffffffffff", api.ErrForm}, {"enum e<x,y>", "c000000100000000", api.ErrForm}, {"enum e<x,y>", "01 00", api.ErrForm}, {"enum e<x>", "01", api.ErrForm},
		{"fixed f 2", "61", api.ErrShort}, {"fixed f 2", "", api.ErrShort}, {"fixed f 2", "616161", api.ErrForm}, {"fixed f 0", "61", api.ErrForm}, {"fixed f 4096", "61", api.ErrShort}, {"record r{}", "00", api.ErrForm},
		{"record r{a:bool;b:int;c:bool;}", "01 00000001 02", api.ErrForm}, {"record r{a:bool;b:int;c:bool;}", "02", api.ErrForm}, {"record r{a:bool;b:int;c:bool;}", "01 0000", api.ErrShort}, {"record r{a:bool;b:int;c:bool;}", "01 00000001", api.ErrShort}, {"record r{a:bool;b:int;c:bool;}", "01 00000001 0100", api.ErrForm},
		{"record r{a:r;}", "", api.ErrLong}, {"record r{a:r;}", "00", api.ErrLong}, {"record r{a:bool;b:r;}", "", api.ErrShort}, {"record r{a:bool;b:r;}", strings.Repeat("01", 98), api.ErrShort}, {"record r{a:bool;b:r;}", strings.Repeat("01", 99), api.ErrLong}, {"record r{a:bool;b:r;}", strings.Repeat("01", 99) + "02", api.ErrLong}, {"record r{a:bool;b:r;}", strings.Repeat("01", 100), api.ErrLong}, {"record r{a:bool;b:r;}", strings.Repeat("01", 98) + "02", api.ErrForm}, {"record r{b:r;a:bool;}", "02", api.ErrLong},
		{"[[null]]", "02 47cd 00", api.OK}, {"[[null]]", "02 47ce 00", api.ErrLong}, {"[[null]]", "02 47ce", api.ErrLong}, {"[[null]]", "02 47cd", api.ErrShort}, {"[[null]]", "02 47ce 47d1", api.ErrLong}, {"[[null]]", "02 47cd 47d1", api.ErrLong}, {"[[null]]", "02 47cd 01", api.ErrLong}, {"[[null]]", "02 47cd 4001", api.ErrForm},
		{"record r{a:[null];b:bool;}", "47cd 01", api.OK}, {"record r{a:[null];b:bool;}", "47ce 02", api.ErrLong}, {"record r{a:[null];b:bool;}", "47cd 02", api.ErrForm}, {"record r{a:[null];b:(bool);}", "47cc 00 01", api.OK}, {"record r{a:[null];b:(bool);}", "47cd 00 01", api.ErrLong}, {"record r{a:[null];b:(bool);}", "47cd 01", api.ErrForm}, {"record r{a:[null];b:(bool);}", "47cd", api.ErrShort}, {"record r{a:[null];b:record s{};}", "47cd", api.OK}, {"record r{a:[null];b:record s{};}", "47ce", api.ErrLong},
	} {
		o, b := schema(t, x.s), unhex(t, x.digits)
		if d, e := wanted(o, b); e != x.e {
			t.Errorf("of %s: the second reading of %.40x is %s, %d, not %d", x.s, b, short(told(d)), e, x.e)
		}
		if d, _ := wanted(o, b); x.e == api.OK {
			expectFit(t, o, d, b)
		} else {
			expectRefused(t, o, b, x.e)
		}
	}
}

// manyKeys: the bytes of a map of n nulls, and its keys, which rise.
func manyKeys(n int) ([]byte, []string) {
	b, keys := number(n), []string{}
	for i := range n {
		keys = append(keys, fmt.Sprintf("%04d", i))
		b = append(b, text(keys[i])...)
	}
	return b, keys
}

func TestLastKey(t *testing.T) { // P9.3: a key is read ahead of its value, which may be one too many
	o := schema(t, "{null}")
	b, keys := manyKeys(1999)
	expectFit(t, o, keyed(keys, make([]api.Datum, 1999)...), b)
	b, keys = manyKeys(2000)
	expectUnfit(t, o, keyed(keys, make([]api.Datum, 2000)...))
	expectRefused(t, o, b, api.ErrLong)
	expectRefused(t, o, append(bytes.Clone(b), 0), api.ErrLong)
	expectRefused(t, o, b[:len(b)-1], api.ErrShort)
	expectRefused(t, o, b[:len(b)-5], api.ErrShort)
	expectRefused(t, o, slices.Concat(b[:len(b)-5], text("1998")), api.ErrForm)
	expectRefused(t, o, slices.Concat(b[:len(b)-5], text("1998x")), api.ErrLong)
	expectRefused(t, o, slices.Concat(b[:len(b)-5], number(65537)), api.ErrLong)
	expectRefused(t, o, slices.Concat(b[:len(b)-5], []byte{0x40, 1}), api.ErrForm)
}

// ---- the limits

func TestMaxParts(t *testing.T) { // P9.1, P9.3: as many parts as there may be, of each kind, and one more
	for _, x := range samples() {
		o, one := schema(t, "["+x.s+"]"), unhex(t, x.digits)
		parts := datum.Parts(x.d)
		if parts > 1999 {
			continue
		}
		most := 1999 / parts
		expectFit(t, o, times(most, x.d), append(number(most), bytes.Repeat(one, most)...))
		expectUnfit(t, o, times(most+1, x.d))
		b := append(number(most+1), bytes.Repeat(one, most+1)...)
		expectRefused(t, o, b, api.ErrLong)
		// Values begin ahead of their bytes: without those of the one too many it may be told all the same.
		expectAsWanted(t, o, b[:len(b)-len(one)])
	}
	o := schema(t, "(null|[(null|bool)])")
	for n := 990; n <= 1010; n++ {
		d, b := pick(1, times(n, pick(0, null))), append(append([]byte{1}, number(n)...), make([]byte, n)...)
		if datum.Parts(d) <= 2000 {
			expectFit(t, o, d, b)
		} else {
			expectUnfit(t, o, d)
			expectRefused(t, o, b, api.ErrLong)
		}
	}
}

func TestMaxDeep(t *testing.T) { // P9.1, P9.3: as deep as a value may be, and deeper, by each kind that has others in it
	for _, x := range []struct {
		s    string // a schema whose values lie in one another
		wrap func(api.Datum) api.Datum
		d    api.Datum // the innermost one
		by   int       // how many deeper a wrap makes it
		b    string    // a wrap's bytes, and those of the innermost one
		end  string
	}{
		{"record r{a:[r];}", func(d api.Datum) api.Datum { return list(list(d)) }, list(list()), 2, "\x01", "\x00"},
		{"[record r{a:[r];}]", func(d api.Datum) api.Datum { return list(list(d)) }, list(), 2, "\x01", "\x00"},
		{"record r{a:{r};}", func(d api.Datum) api.Datum { return list(dict("k", d)) }, list(dict("")), 2, "\x01\x01k", "\x00"},
		{"{record r{a:{r};}}", func(d api.Datum) api.Datum { return dict("k", list(d)) }, dict(""), 2, "\x01\x01k", "\x00"},
		{"record r{a:(null|r);}", func(d api.Datum) api.Datum { return list(pick(1, d)) }, list(pick(0, null)), 2, "\x01", "\x00"},
		{"record r{a:(bool|r);}", func(d api.Datum) api.Datum { return list(pick(1, d)) }, list(pick(0, num(1))), 2, "\x01", "\x00\x01"},
		{"record r{a:(null|record s{a:r;});}", func(d api.Datum) api.Datum { return list(pick(1, list(d))) }, list(pick(0, null)), 3, "\x01", "\x00"},
		{"record r{a:[[(text|r)]];}", func(d api.Datum) api.Datum { return list(list(list(pick(1, d)))) }, list(list(list(pick(0, str("x"))))), 4, "\x01\x01\x01", "\x01\x01\x00\x01x"},
		{"(enum e<x>|record r{a:(e|r);})", func(d api.Datum) api.Datum { return pick(1, list(d)) }, pick(0, str("x")), 2, "\x01", "\x00\x00"},
		{"(record s{}|record r{a:(s|r);})", func(d api.Datum) api.Datum { return pick(1, list(d)) }, pick(0, list()), 2, "\x01", "\x00"},
	} {
		o := schema(t, x.s)
		reached := false
		for n := range 60 {
			d := within(n, x.d, x.wrap)
			b := []byte(strings.Repeat(x.b, n) + x.end)
			deep := datum.Deep(d)
			if deep <= 100 {
				expectFit(t, o, d, b)
				expectBeginnings(t, o, b)
				reached = reached || deep > 100-x.by
				continue
			}
			expectUnfit(t, o, d)
			expectRefused(t, o, b, api.ErrLong)
		}
		if !reached {
			t.Errorf("of %s: the limit is not looked at", x.s)
		}
		expectUnfit(t, o, within(20000, x.d, x.wrap))
		expectRefused(t, o, []byte(strings.Repeat(x.b, 20000)+x.end), api.ErrLong)
	}
}

func TestDeepAtTheLimit(t *testing.T) { // P9.1, P9.3: each depth around the limit, with each kind there; what is too deep is told ahead of what it is
	for _, kind := range []string{"null", "bool", "int", "long", "bytes", "text", "[int]", "{int}", "enum e<x>", "fixed f 2", "record s{}"} {
		for _, form := range []string{"record r{a:[(%s|r)];}", "[record r{a:[(%s|r)];}]", "([record r{a:[(%s|r)];}])"} {
			o := schema(t, fmt.Sprintf(form, kind))
			for n := 30; n <= 36; n++ {
				// n times: an array of one r, of the place 1.
				head := bytes.Repeat([]byte{1, 1}, n)
				if form[0] != 'r' {
					head = append([]byte{1}, head...)
				}
				if form[0] == '(' {
					head = append([]byte{0}, head...)
				}
				for _, end := range []string{"", "\x00", "\x01", "\x00\x00", "\x01\x00", "\x01\x00\x00", "\x01\x00\x01", "\x01\x00\x02", "\x01\x00ab", "\x01\x00\x00\x00\x00\x01", "\x01\x00\x00\x00\x00\x00\x00\x00\x00\x01", "\x01\x00\x01\x00\x00\x00\x01", "\x01\x00\x01\x01k\x00\x00\x00\x01", "\x01\x02"} {
					expectAsWanted(t, o, append(bytes.Clone(head), end...))
				}
			}
		}
	}
}

// expectAsWanted holds Take of b against the second reading, and, of a value, all that P9.1 to P9.5 say of it. It answers the error.
func expectAsWanted(t *testing.T, o api.Schema, b []byte) api.Errno {
	t.Helper()
	d, e := wanted(o, b)
	if e != api.OK {
		expectRefused(t, o, b, e)
		return e
	}
	expectFit(t, o, d, b)
	if len(b) > 0 {
		expectRefused(t, o, b[:len(b)-1], api.ErrShort)
	}
	return e
}

func TestMaxBytes(t *testing.T) { // P9.1, P9.3: texts and keys as long as one may be, and longer
	for _, n := range []int{65535, 65536, 65537, 1 << 17, 1 << 24} {
		s := strings.Repeat("x", n)
		for form, x := range map[string]struct {
			d api.Datum
			b []byte
		}{
			"text": {str(s), text(s)}, "bytes": {str(s), text(s)}, "[bytes]": {list(str(s)), slices.Concat([]byte{1}, text(s))}, "{null}": {dict(s, null), slices.Concat([]byte{1}, text(s))},
			"{bool}": {dict("a "+s, num(0), num(1)), slices.Concat([]byte{2, 1, 'a', 0}, text(s), []byte{1})}, "record r{a:text;b:text;}": {list(str(s), str("b")), slices.Concat(text(s), []byte{1, 'b'})},
		} {
			o := schema(t, form)
			if n <= 65536 {
				expectFit(t, o, x.d, x.b)
				continue
			}
			expectUnfit(t, o, x.d)
			expectRefused(t, o, x.b, api.ErrLong)
		}
	}
}

func TestMost(t *testing.T) { // P9.1 to P9.3: as many bytes as a value may have, and short texts ahead of many bytes
	o := schema(t, "[text]")
	d := times(1999, str(strings.Repeat("x", 65536)))
	b, e := datum.Put(o, d)
	if e != api.OK || len(b) != 2+1999*(4+65536) || !bytes.Equal(b[:100], pieces(o, 0, d)[:100]) {
		t.Errorf("Put = %d bytes, %d", len(b), e)
	}
	if got, e := datum.Take(o, b); e != api.OK || !datum.Same(got, d) {
		t.Errorf("Take = %s, %d", short(told(got)), e)
	}
	expectRefused(t, o, b[:len(b)-1], api.ErrShort)
	many := append([]byte{0x47, 0xcf}, make([]byte, 1<<26)...)
	expectRefused(t, o, many, api.ErrForm)
	expectTaken(t, o, many[:2+1999], times(1999, str("")))
}

// ---- many by chance

// maker makes texts of schemas by chance.
type maker struct {
	r     *rand.Rand
	began []string
	most  int // how many TYPEs it may still begin
}

// text: of a TYPE that lies in deep others. Few have no schema: unions that have a type twice.
func (m *maker) text(deep int) string {
	m.most--
	if m.r.Intn(4) == 0 && len(m.began) > 0 {
		return m.began[m.r.Intn(len(m.began))]
	}
	k := m.r.Intn(12)
	if deep >= 8 || m.most <= 0 {
		k %= 6
	}
	switch k {
	case api.KArray:
		return "[" + m.text(deep+1) + "]"
	case api.KMap:
		return "{" + m.text(deep+1) + "}"
	case api.KUnion:
		l := []string{m.text(deep + 1)}
		for range m.r.Intn(4) {
			if s := m.text(deep + 1); s[0] != '(' && !slices.Contains(l, s) {
				l = append(l, s)
			}
		}
		return "(" + strings.Join(l, "|") + ")"
	case api.KEnum:
		return "enum " + m.name() + "<" + strings.Join([]string{"x", "y", "z", "a1", "e"}[m.r.Intn(5):], ",") + ">"
	case api.KFixed:
		return "fixed " + m.name() + " " + []string{"0", "1", "3", "70"}[m.r.Intn(4)]
	case api.KRecord:
		s := "record " + m.name() + "{"
		for i := range m.r.Intn(5) {
			s += string(rune('a'+i)) + []string{"", "?"}[m.r.Intn(2)] + ":" + m.text(deep+1) + ";"
		}
		return s + "}"
	}
	return []string{"null", "bool", "int", "long", "bytes", "text"}[k]
}

// name: one that no enum, fixed or record has yet.
func (m *maker) name() string {
	m.began = append(m.began, "n"+strconv.Itoa(len(m.began)))
	return m.began[len(m.began)-1]
}

// someSchema: a schema by chance.
func someSchema(r *rand.Rand) api.Schema {
	always := []string{"record r{a:(null|[r]|{r}|r|record s{a:r;b:int;});}", "record p{a?:(null|p);}", "record r{a:[r];b:bool;}", "{record r{a:{r};b:text;}}", "[[[null]]]", "[{(null|bool)}]"}
	for {
		s := always[r.Intn(len(always))]
		if r.Intn(5) > 0 {
			s = (&maker{r: r, most: 1 + r.Intn(40)}).text(0)
		}
		if o, _, e := parse.Parse(s); e == api.OK {
			return o
		}
	}
}

// valuer makes values of a schema by chance.
type valuer struct {
	r     *rand.Rand
	nodes []api.Node
	begun int
	flat  int // from where on it makes no more than it must
}

// someValue: a value of o; false, if none was found.
func someValue(r *rand.Rand, o api.Schema) (api.Datum, bool) {
	v := &valuer{r: r, nodes: o.Nodes, flat: 1 + r.Intn(12)}
	if r.Intn(8) == 0 {
		v.flat = 120
	}
	return v.value(0, 1)
}

// value: of the node n, that lies deep; some are too deep, or have too many parts.
func (v *valuer) value(n, deep int) (api.Datum, bool) {
	if v.begun++; v.begun > 4000 || deep > 110 {
		return null, false
	}
	node := v.nodes[n]
	switch node.K {
	case 1:
		return num(v.r.Int63n(2)), true
	case 2:
		return num([]int64{0, 1, -1, math.MaxInt32, math.MinInt32, int64(int32(v.r.Uint32()))}[v.r.Intn(6)]), true
	case 3:
		return num([]int64{0, 1, -1, math.MaxInt64, math.MinInt64, int64(v.r.Uint64())}[v.r.Intn(6)]), true
	case 4, 5:
		return str(v.text()), true
	case 6, 7:
		return v.several(node, deep)
	case 8:
		return v.union(node, deep)
	case 9:
		return str(node.Syms[v.r.Intn(len(node.Syms))]), true
	case 10:
		return str(strings.Repeat(string([]byte{byte(v.r.Intn(256))}), node.Size)), true
	case 11:
		var d api.Datum
		for _, f := range node.Fields {
			x, ok := v.value(f.Type, deep+1)
			if !ok {
				return null, false
			}
			d.L = append(d.L, x)
		}
		return d, true
	}
	return null, true
}

func (v *valuer) text() string {
	return []string{"", "a", "b", "ab", "\x00", "\xff", "\u00e9", strings.Repeat("y", v.r.Intn(130)), strconv.Itoa(v.r.Intn(100))}[v.r.Intn(9)]
}

// several: of an array, a map.
func (v *valuer) several(node api.Node, deep int) (api.Datum, bool) {
	var d api.Datum
	most := v.r.Intn(4)
	switch {
	case deep > v.flat:
		most = 0
	case v.flat > 100:
		most = 1
	case v.r.Intn(30) == 0:
		most = v.r.Intn(300)
	}
	var keys []string
	for range most {
		keys = append(keys, v.text())
	}
	if node.K == api.KMap {
		slices.Sort(keys)
		keys = slices.Compact(keys)
		most = len(keys)
	}
	for i := range most {
		x, ok := v.value(node.Items[0], deep+1)
		if !ok {
			break
		}
		d.L = append(d.L, x)
		if node.K == api.KMap {
			d.Keys = append(d.Keys, keys[i])
		}
	}
	return d, true
}

// union: of the first of its types that has a value, tried by chance, or, deep within, the simplest first.
func (v *valuer) union(node api.Node, deep int) (api.Datum, bool) {
	at := v.r.Perm(len(node.Items))
	if deep > v.flat {
		slices.SortFunc(at, func(a, b int) int { return v.nodes[node.Items[a]].K - v.nodes[node.Items[b]].K })
	} else if v.flat > 100 {
		slices.SortFunc(at, func(a, b int) int { return v.nodes[node.Items[b]].K - v.nodes[node.Items[a]].K })
	}
	for _, i := range at {
		if x, ok := v.value(node.Items[i], deep+1); ok {
			return pick(int64(i), x), true
		}
	}
	return null, false
}

// copied: d in other lists.
func copied(d api.Datum) api.Datum {
	d.Keys = slices.Clone(d.Keys)
	d.L = slices.Clone(d.L)
	for i := range d.L {
		d.L[i] = copied(d.L[i])
	}
	return d
}

// all: d and all that lies in it, to be changed.
func all(d *api.Datum) []*api.Datum {
	l := []*api.Datum{d}
	for i := range d.L {
		l = append(l, all(&d.L[i])...)
	}
	return l
}

// bent: a copy of d, one part of it another one.
func bent(r *rand.Rand, d api.Datum) api.Datum {
	d = copied(d)
	parts := all(&d)
	x, y := parts[r.Intn(len(parts))], parts[r.Intn(len(parts))]
	at := 0
	if len(x.L) > 0 {
		at = r.Intn(len(x.L))
	}
	switch r.Intn(9) {
	case 0:
		x.N = []int64{0, 1, 2, -1, x.N + 1, x.N - 1, math.MaxInt32, math.MaxInt32 + 1, math.MinInt32, math.MinInt32 - 1, math.MaxInt64, math.MinInt64}[r.Intn(12)]
	case 1:
		x.S = []string{"", "a", "x", "y", "e", x.S + "a", strings.ToUpper(x.S), strings.Repeat("x", 65536), strings.Repeat("x", 65537), y.S}[r.Intn(10)]
	case 2:
		x.Keys = append(x.Keys, []string{"", "a", "\xff\xff\xff", y.S}[r.Intn(4)])
	case 3:
		if len(x.Keys) > 0 {
			x.Keys[r.Intn(len(x.Keys))] = []string{"", "a", "ab", "b", "\xff\xff", strings.Repeat("x", 65537), x.Keys[0]}[r.Intn(7)]
		}
	case 4:
		slices.Reverse(x.Keys)
	case 5:
		x.L = append(x.L, copied(*y))
	case 6:
		if len(x.L) > 0 {
			x.L = slices.Delete(x.L, at, at+1)
			if len(x.Keys) > at {
				x.Keys = slices.Delete(x.Keys, at, at+1)
			}
		}
	case 7:
		*x = copied(*y)
	case 8:
		slices.Reverse(x.L)
	}
	return d
}

// spoilt: b with a few bytes put out, in, or in others' places.
func spoilt(r *rand.Rand, b []byte) []byte {
	b = bytes.Clone(b)
	for range 1 + r.Intn(3) {
		i := r.Intn(len(b) + 1)
		put := [][]byte{{0}, {1}, {2}, {3}, {0x3f}, {0x40}, {0x40, 1}, {0x80}, {0xff}, {0x47, 0xcf}, {0x47, 0xd0}, {0x47, 0xd1}, number(65536), number(65537), number(1 << 40), {byte(r.Intn(256))}}[r.Intn(16)]
		switch r.Intn(6) {
		case 0:
			b = slices.Insert(b, i, put...)
		case 1:
			b = b[:i]
		case 2:
			b = append(b, put...)
		case 3:
			b = slices.Delete(b, i, min(len(b), i+1+r.Intn(3)))
		default:
			b = slices.Replace(b, i, min(len(b), i+len(put)), put...)
		}
	}
	return b
}

func TestSomeValues(t *testing.T) { // P9.1 to P9.5 of values by chance, and of those bent
	r := rand.New(rand.NewSource(1))
	fit, unfit, bentFit, tooMuch := 0, 0, 0, 0
	for range 6000 {
		o := someSchema(r)
		d, ok := someValue(r, o)
		if !ok {
			continue
		}
		for i := range 4 {
			x := d
			if i > 0 {
				x = bent(r, d)
			}
			if !fitting(o, x) {
				unfit++
				if i == 0 {
					tooMuch++
				}
				expectUnfit(t, o, x)
				continue
			}
			fit++
			if i > 0 {
				bentFit++
			}
			b := pieces(o, 0, x)
			expectFit(t, o, x, b)
			if len(b) > 0 {
				expectRefused(t, o, b[:len(b)-1], api.ErrShort)
			}
			expectRefused(t, o, append(b, byte(r.Intn(256))), api.ErrForm)
		}
	}
	if fit < 5000 || unfit < 5000 || bentFit < 500 || tooMuch < 20 {
		t.Errorf("too few values of a sort: %d fit, %d do not, %d bent ones do, %d are too deep or have too many parts", fit, unfit, bentFit, tooMuch)
	}
}

func TestSomeBytes(t *testing.T) { // P9.3, P9.4, P9.5 of bytes by chance
	r := rand.New(rand.NewSource(2))
	seen := map[api.Errno]int{}
	for range 8000 {
		o := someSchema(r)
		d, ok := someValue(r, o)
		var b []byte
		if ok && fitting(o, d) {
			b = pieces(o, 0, d)
		}
		for range 4 {
			seen[expectAsWanted(t, o, spoilt(r, b))]++
		}
		b = make([]byte, r.Intn(40))
		r.Read(b)
		for i := range b {
			b[i] &= []byte{1, 3, 0x43, 0xff}[r.Intn(4)]
		}
		seen[expectAsWanted(t, o, b)]++
	}
	if seen[api.OK] < 1000 || seen[api.ErrShort] < 3000 || seen[api.ErrForm] < 5000 || seen[api.ErrLong] < 500 || len(seen) != 4 {
		t.Errorf("too few bytes of a sort: %v", seen)
	}
}

func TestShortBytes(t *testing.T) { // P9.3, P9.4: each byte, and some of few
	for _, s := range []string{"null", "bool", "int", "text", "[null]", "[bool]", "{null}", "{bool}", "(null|bool)", "enum e<x,y>", "fixed f 1", "record r{}", "record r{a:bool;b:bool;}", "record p{a?:(null|p);}", "record r{a:[r];}", "[[null]]"} {
		o := schema(t, s)
		expectAsWanted(t, o, nil)
		for i := range 1 << 8 {
			expectAsWanted(t, o, []byte{byte(i)})
		}
		few := []byte{0, 1, 2, 0x40, 0x61, 0xff}
		for i := range 6 << 8 {
			expectAsWanted(t, o, []byte{byte(i / 6), few[i%6]})
		}
		for i := range 6 * 6 * 6 * 6 * 6 {
			expectAsWanted(t, o, []byte{few[i%6], few[i/6%6], few[i/36%6], few[i/216%6], few[i/1296]})
		}
	}
}

func TestApart(t *testing.T) { // P9.4: no two values have the same bytes
	r := rand.New(rand.NewSource(3))
	for range 300 {
		o := someSchema(r)
		by := map[string]api.Datum{}
		for range 30 {
			d, ok := someValue(r, o)
			if b, e := datum.Put(o, d); ok && e == api.OK {
				if was, there := by[string(b)]; there && !datum.Same(was, d) {
					t.Errorf("of %s: %s and %s have the bytes %.40x", short(toldSchema(o)), short(told(was)), short(told(d)), b)
				}
				by[string(b)] = d
			}
		}
	}
}

// ---- the rules that hold everywhere

// lent: s in bytes that may be changed.
func lent(s string) (string, []byte) {
	b := append([]byte(s), 0)
	return unsafe.String(&b[0], len(s)), b
}

// fill fills the spare room of a list.
func fill[T any](l []T, x T) {
	spare := l[len(l):cap(l)]
	for i := range spare {
		spare[i] = x
	}
}

func TestMemory(t *testing.T) { // DOC.md, Memory: what is handed in is neither changed nor kept; each answer is new
	for _, x := range samples() {
		o, want := schema(t, x.s), unhex(t, x.digits)
		form := toldSchema(o)
		var bodies [][]byte
		for i, node := range o.Nodes {
			for j, s := range node.Syms {
				var b []byte
				o.Nodes[i].Syms[j], b = lent(s)
				bodies = append(bodies, b)
			}
		}
		room := append(bytes.Clone(want), "spare"...)
		d, value := copied(x.d), told(x.d)
		for _, y := range all(&d) {
			fill(y.L, str("spare"))
			fill(y.Keys, "spare")
		}
		got, e := datum.Take(o, room[:len(want)])
		b, _ := datum.Put(o, d)
		datum.Fits(o, d)
		datum.Same(d, got)
		datum.Parts(d)
		datum.Deep(d)
		if e != api.OK || toldSchema(o) != form || told(d) != value || string(room) != string(want)+"spare" {
			t.Fatalf("of %s: an argument was changed", x.s)
		}
		for _, y := range all(&d) {
			clear(y.Keys)
		}
		clear(d.L)
		clear(room)
		for _, body := range bodies {
			clear(body)
		}
		if told(got) != value || !bytes.Equal(b, want) {
			t.Fatalf("of %s: an answer shares memory with an argument", x.s)
		}
	}
}

func TestListsMemory(t *testing.T) { // DOC.md, Memory: no two lists share any, spare room included
	for _, x := range samples() {
		o, b := schema(t, x.s), unhex(t, x.digits)
		first, _ := datum.Take(o, b)
		second, _ := datum.Take(o, b)
		for _, y := range all(&first) {
			fill(y.L, str("spoilt"))
			fill(y.Keys, "spoilt")
		}
		if told(first) != told(x.d) {
			t.Fatalf("of %s: two lists of an answer share memory", x.s)
		}
		for _, y := range slices.Backward(all(&first)) {
			clear(y.Keys)
			clear(y.L)
		}
		one, _ := datum.Put(o, x.d)
		two, _ := datum.Put(o, x.d)
		fill(one, 0xee)
		clear(one)
		if told(second) != told(x.d) || !bytes.Equal(two, b) {
			t.Fatalf("of %s: two answers share memory", x.s)
		}
	}
}

func TestArgumentsAlone(t *testing.T) { // DOC.md, From arguments alone: what was refused ahead changes nothing
	o := schema(t, "{(null|text)}")
	b := unhex(t, "02 0161 00 0162 01 0178")
	d := dict("a b", pick(0, null), pick(1, str("x")))
	for range 3 {
		expectFit(t, o, d, b)
		expectRefused(t, o, b[:5], api.ErrShort)
		expectRefused(t, o, append(bytes.Clone(b), 0), api.ErrForm)
		expectUnfit(t, o, dict("b a", pick(0, null), pick(1, str("x"))))
	}
}

func TestEnds(t *testing.T) { // DOC.md, Ends: values far beyond the limits, also ones that lie in themselves
	o := schema(t, "record r{a:(null|[r]|{r}|r);}")
	self := list(null)
	self.L[0] = pick(3, self)
	deep := nested(1<<16-1, null)
	wide := times(1<<20, times(1, null))
	twice := null
	for range 90 {
		twice = times(2, twice)
	}
	for _, s := range []string{"null", "int", "text", "[int]", "[[null]]", "{int}", "(null|[null])", "enum e<x>", "fixed f 1", "record r{a:r;}", "record r{a:[r];}", "record r{a:r;b:r;}"} {
		for _, d := range []api.Datum{self, deep, wide, twice, {N: 1, L: []api.Datum{deep}}, {L: []api.Datum{twice, twice}}} {
			expectOnlyUnfit(t, schema(t, s), d)
		}
	}
	expectOnlyUnfit(t, o, self)
	many := make([]string, 1<<20)
	for i := range many {
		many[i] = strconv.Itoa(1<<20 + i)
	}
	expectOnlyUnfit(t, schema(t, "{null}"), keyed(many, make([]api.Datum, 1<<20)...))
	expectOnlyUnfit(t, schema(t, "{null}"), keyed(many))
	for _, b := range [][]byte{make([]byte, 1<<24), bytes.Repeat([]byte{1}, 1<<24), bytes.Repeat([]byte{0xff}, 1<<24), bytes.Repeat([]byte{0x47, 0xd0}, 1<<23), bytes.Repeat([]byte{2}, 1<<20)} {
		for _, s := range []string{"null", "bool", "[[[null]]]", "record r{a:[r];}", "record r{a:(null|r);b:[r];}", "record r{a:{r};}", "record r{a:r;b:r;}", "[record s{}]"} {
			expectAsWanted(t, schema(t, s), b)
		}
	}
}

// expectOnlyUnfit is expectUnfit of a value that can't be told.
func expectOnlyUnfit(t *testing.T, o api.Schema, d api.Datum) {
	t.Helper()
	if datum.Fits(o, d) {
		t.Errorf("of %s: a value fits", short(toldSchema(o)))
	}
	if b, e := datum.Put(o, d); e != api.ErrArg || len(b) > 0 {
		t.Errorf("of %s: Put = %.40x, %d", short(toldSchema(o)), b, e)
	}
}

func FuzzTake(f *testing.F) { // P9.1 to P9.5 of whatever schema and bytes
	for _, x := range samples() {
		b := unhex(f, x.digits)
		f.Add(x.s, b)
		f.Add(x.s, append(b, 0))
		f.Add(x.s, b[:len(b)/2])
	}
	f.Fuzz(func(t *testing.T, s string, b []byte) {
		o, _, e := parse.Parse(s)
		if e != api.OK {
			expectRefused(t, o, b, api.ErrArg)
			expectUnfit(t, o, null)
			return
		}
		if expectAsWanted(t, o, b) != api.OK {
			return
		}
		r := rand.New(rand.NewSource(int64(len(b))))
		d, _ := wanted(o, b)
		for range 4 {
			if x := bent(r, d); fitting(o, x) {
				expectFit(t, o, x, pieces(o, 0, x))
			} else {
				expectUnfit(t, o, x)
			}
		}
	})
}
