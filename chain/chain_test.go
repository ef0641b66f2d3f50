package chain_test

import (
	"bytes"
	"crypto/sha256"
	"encoding/binary"
	"encoding/hex"
	"fmt"
	"math"
	"math/rand"
	"slices"
	"strings"
	"testing"

	"suffragan/api"
	"suffragan/canon"
	"suffragan/chain"
)

// policy, schema: an entry of each kind.
func policy(p int) api.Entry               { return api.Entry{Policy: true, P: p} }
func schema(id uint64, s string) api.Entry { return api.Entry{ID: id, S: s} }

// long: an enum whose text has n bytes, and is its own form.
func long(n int) string {
	s := "enum e<"
	for i := 0; n-len(s) > 80; i++ {
		s += fmt.Sprintf("s%037d,", i)
	}
	rest := n - len(s) - len("t,u>")
	return s + "t" + strings.Repeat("_", rest/2) + ",u" + strings.Repeat("_", rest-rest/2) + ">"
}

// forms: texts that are their own one form, of each length of their number.
func forms() []string {
	return []string{
		"int", "long", "null", "[int]", "{text}", "(null|int)", "enum e<x>", "fixed f 16", "record r{}", "record p{a?:(null|p);}",
		long(63), long(64), long(256), long(api.MaxText),
	}
}

// noForms: texts that are not their own one form; the first ones have another one.
func noForms() []string {
	return []string{
		" int", "int ", "[ int ]", "int#x", "int\n", "record r{ }", "fixed  f 16", "enum e<x,y >", long(api.MaxText-1) + " ",
		"", " ", "x", "Int", "int int", "int\x00", "\x00", "[int", "int]", "()", "(int|int)", "enum e<>", "fixed f 016", "fixed f 4097", "record r", "\xff", long(api.MaxText + 1), long(api.MaxText) + " ",
	}
}

// edges: ids on both sides of each bound that the document names, and of each length of their bytes.
var edges = []uint64{
	0, 1, 2, 63, 64, 16383, 16384, 1<<30 - 1, 1 << 30, api.MaxID - 1, api.MaxID, api.MaxID + 1, 1<<32 - 1, 1 << 32, 1<<32 + 1,
	api.MaxNum - 1, api.MaxNum, api.MaxNum + 1, api.MaxNum + 2, 1 << 63, 1<<63 + 1, math.MaxUint64,
}

// numbersOfPolicies: of each policy, and of none.
var numbersOfPolicies = []int{math.MinInt, math.MinInt + 1, -1 << 32, -256, -255, -7, -2, -1, 0, 1, 2, 3, 4, 5, 6, 7, 8, 255, 256, 257, 1 << 32, 1<<32 + 1, math.MaxInt}

// entries: what is one, of each kind.
func entries() []api.Entry {
	var l []api.Entry
	for p := range 7 {
		l = append(l, policy(p))
	}
	for i, s := range forms() {
		l = append(l, schema(uint64(i+1), s))
	}
	for _, id := range edges {
		if id >= 1 && id <= 1<<31-1 {
			l = append(l, schema(id, "int"), schema(id, long(100)))
		}
	}
	return l
}

// noEntries: what is none, each for one reason, or for several.
func noEntries() []api.Entry {
	var l []api.Entry
	for _, p := range numbersOfPolicies {
		if p < 0 || p > 6 {
			l = append(l, policy(p))
		}
		if p != 0 {
			l = append(l, api.Entry{P: p, S: "int", ID: 1})
		}
		l = append(l, api.Entry{Policy: true, P: p, ID: 1}, api.Entry{Policy: true, P: p, S: "int"}, api.Entry{Policy: true, P: p, S: "int", ID: 1})
		l = append(l, api.Entry{Policy: true, P: p, S: " "}, api.Entry{Policy: true, P: p, ID: math.MaxUint64}, api.Entry{P: p}, api.Entry{P: p, ID: 1}, api.Entry{P: p, S: "int"})
	}
	for _, id := range edges {
		if id < 1 || id > 1<<31-1 {
			l = append(l, schema(id, "int"))
		}
		for _, s := range noForms() {
			l = append(l, schema(id, s))
		}
	}
	return l
}

// is: whether e is an entry, in P17.1's words.
func is(e api.Entry) bool {
	if e.Policy {
		return slices.Contains([]int{0, 1, 2, 3, 4, 5, 6}, e.P) && len(e.S) == 0 && e.ID == 0
	}
	form, _, fault := canon.Text(e.S)
	return e.P == 0 && fault == api.OK && form == e.S && e.ID > 0 && e.ID < 1<<31
}

// number: n's bytes as prefix, worked out in another way than the program's.
func number(n uint64) string {
	for i, bound := range []uint64{1 << 6, 1 << 14, 1 << 30, 1 << 62} {
		if n < bound {
			b := binary.BigEndian.AppendUint64(nil, n)[8-1<<i:]
			b[0] += byte(i) * 64
			return string(b)
		}
	}
	panic("a number without bytes")
}

// raw: the bytes of an entry, likewise; none, if it is none.
func raw(e api.Entry) string {
	switch {
	case !is(e):
		return ""
	case e.Policy:
		return string([]byte{byte(e.P + 1)})
	}
	return "\x00" + number(e.ID) + number(uint64(len(e.S))) + e.S
}

// refused: what reading gives up with.
type refused api.Errno

// cut takes the first n bytes of *b.
func cut(b *string, n int) string {
	if len(*b) < n {
		panic(refused(api.ErrShort))
	}
	s := (*b)[:n]
	*b = (*b)[n:]
	return s
}

// numberOf reads a number of *b.
func numberOf(b *string) uint64 {
	if *b == "" {
		panic(refused(api.ErrShort))
	}
	s := cut(b, []int{1, 2, 4, 8}[(*b)[0]/64])
	n := uint64(s[0] % 64)
	for i := 1; i < len(s); i++ {
		n = n*256 + uint64(s[i])
	}
	if number(n) != s {
		panic(refused(api.ErrForm))
	}
	return n
}

// reading: what Take should answer of b, in P17.2's words.
func reading(b string) (e api.Entry, behind string, fault api.Errno) {
	defer func() {
		if r := recover(); r != nil {
			e, behind, fault = api.Entry{}, "", api.Errno(r.(refused))
		}
	}()
	first := cut(&b, 1)[0]
	if first > 7 {
		return api.Entry{}, "", api.ErrForm
	}
	if first > 0 {
		return policy(int(first) - 1), b, api.OK
	}
	e.ID = numberOf(&b)
	size := numberOf(&b)
	if size > 4096 {
		return api.Entry{}, "", api.ErrLong
	}
	e.S = cut(&b, int(size))
	if !is(e) {
		return api.Entry{}, "", api.ErrForm
	}
	return e, b, api.OK
}

// take holds Take of b against reading; it tells the error.
func take(t *testing.T, b string) api.Errno {
	t.Helper()
	want, behind, fault := reading(b)
	e, rest, got := chain.Take([]byte(b))
	if e != want || string(rest) != behind || got != fault {
		t.Fatalf("Take(%.90q) = %.90q, %.90q, %d, not %.90q, %.90q, %d", b, fmt.Sprint(e), rest, got, fmt.Sprint(want), behind, fault)
	}
	if got == api.OK { // P17.4
		if back, e := chain.Put(nil, e); string(back)+string(rest) != b || e != api.OK {
			t.Fatalf("of %.90q was taken what Put tells as %.90q, %d", b, back, e)
		}
	}
	return got
}

// step: what stands for a beginning with an entry of these bytes behind it, by the library's hash.
func step(s api.Sum, bytes string) api.Sum {
	return sha256.Sum256(append(s[:], bytes...))
}

// sumOf: the sum whose digits these are.
func sumOf(t *testing.T, digits string) (s api.Sum) {
	t.Helper()
	if n, e := hex.Decode(s[:], []byte(digits)); n != len(s) || e != nil {
		t.Fatalf("%q is no sum", digits)
	}
	return s
}

// few: entries, and such as are none, that are unlike one another in one thing alone, or in more.
func few() []api.Entry {
	return []api.Entry{
		{}, schema(1, "int"), schema(2, "int"), schema(1, "long"), schema(1, "null"), {P: 1, S: "int", ID: 1}, {Policy: true, P: 0, S: "int", ID: 1},
		policy(0), policy(1), policy(6), policy(7), policy(-1), {Policy: true, P: 1, S: "int"}, {Policy: true, P: 1, ID: 1}, schema(0, "int"), schema(1, ""), schema(1, "int "),
	}
}

// someLog: up to most of the entries of from, by chance.
func someLog(r *rand.Rand, from []api.Entry, most int) []api.Entry {
	l := make([]api.Entry, r.Intn(most+1))
	for i := range l {
		l[i] = from[r.Intn(len(from))]
	}
	return l
}

func TestConstants(t *testing.T) { // what the chapter's words hang on
	if api.Policies != 7 || api.MaxID != 2147483647 || api.MaxText != 4096 {
		t.Error("another limit")
	}
	if api.OK != 0 || api.ErrArg != 1 || api.ErrLong != 2 || api.ErrShort != 3 || api.ErrForm != 4 || api.Full != 3 {
		t.Error("another constant")
	}
}

func TestExample(t *testing.T) { // the chapter's one
	if b, e := chain.Put(nil, api.Entry{Policy: true, P: api.Full}); string(b) != "\x04" || e != api.OK {
		t.Errorf("%x, %d", b, e)
	}
}

func TestCan(t *testing.T) { // P17.1
	for _, e := range entries() {
		if !chain.Can(e) || !is(e) {
			t.Errorf("%.90q is none", fmt.Sprint(e))
		}
	}
	for _, e := range noEntries() {
		if chain.Can(e) || is(e) {
			t.Errorf("%.90q is one", fmt.Sprint(e))
		}
	}
}

func TestCanOfEachField(t *testing.T) { // P17.1: each field as it may be, and as it may not, with each of the others
	texts := append([]string{"int", "[int]", ""}, noForms()[:4]...)
	n := 0
	for _, isPolicy := range []bool{false, true} {
		for _, p := range numbersOfPolicies {
			for _, id := range edges {
				for _, s := range texts {
					e := api.Entry{Policy: isPolicy, P: p, S: s, ID: id}
					if got := chain.Can(e); got != is(e) {
						t.Errorf("Can(%+v) is %t", e, got)
					}
					if is(e) {
						n++
					}
				}
			}
		}
	}
	if n != 7+2*10 {
		t.Errorf("%d were entries", n)
	}
}

func TestCanOfLongTexts(t *testing.T) { // P17.1, Ends
	for _, s := range []string{strings.Repeat("a", 1<<24), strings.Repeat("[", 1<<20), strings.Repeat("\x00", 1<<20), long(1 << 16)} {
		if chain.Can(schema(1, s)) || chain.Can(api.Entry{Policy: true, S: s}) {
			t.Errorf("%d bytes", len(s))
		}
	}
}

func TestPut(t *testing.T) { // P17.2: bytes written out
	for _, x := range []struct {
		e    api.Entry
		want string
	}{
		{policy(api.None), "\x01"},
		{policy(api.Backward), "\x02"},
		{policy(api.Forward), "\x03"},
		{policy(api.Full), "\x04"},
		{policy(api.BackwardAll), "\x05"},
		{policy(api.ForwardAll), "\x06"},
		{policy(api.FullAll), "\x07"},
		{schema(1, "int"), "\x00\x01\x03int"},
		{schema(63, "int"), "\x00\x3f\x03int"},
		{schema(64, "int"), "\x00\x40\x40\x03int"},
		{schema(16383, "long"), "\x00\x7f\xff\x04long"},
		{schema(16384, "long"), "\x00\x80\x00\x40\x00\x04long"},
		{schema(1<<30-1, "[int]"), "\x00\xbf\xff\xff\xff\x05[int]"},
		{schema(1<<30, "[int]"), "\x00\xc0\x00\x00\x00\x40\x00\x00\x00\x05[int]"},
		{schema(api.MaxID, "null"), "\x00\xc0\x00\x00\x00\x7f\xff\xff\xff\x04null"},
		{schema(5, long(63)), "\x00\x05\x3f" + long(63)},
		{schema(5, long(64)), "\x00\x05\x40\x40" + long(64)},
		{schema(5, long(4096)), "\x00\x05\x50\x00" + long(4096)},
		{schema(7, "record p{a?:(null|p);}"), "\x00\x07\x16record p{a?:(null|p);}"},
	} {
		for _, ahead := range []string{"", "x", "ahead\x00\xff", strings.Repeat("\x00", 5000)} {
			if b, e := chain.Put([]byte(ahead), x.e); string(b) != ahead+x.want || e != api.OK {
				t.Errorf("Put(%.30q, %.90q) = %.90q, %d", ahead, fmt.Sprint(x.e), b, e)
			}
		}
		for _, behind := range []string{"", "x", "\x00", "\xff\x00", x.want, strings.Repeat("\x07", 5000)} {
			if e, rest, fault := chain.Take([]byte(x.want + behind)); e != x.e || string(rest) != behind || fault != api.OK {
				t.Errorf("Take(%.90q) = %.90q, %.30q, %d", x.want, fmt.Sprint(e), rest, fault)
			}
		}
	}
}

func TestPutOfAll(t *testing.T) { // P17.2: of what is none b, as it was
	for _, ahead := range []string{"", "x", "ahead\x00\xff"} {
		for _, e := range entries() {
			if b, fault := chain.Put([]byte(ahead), e); string(b) != ahead+raw(e) || fault != api.OK {
				t.Errorf("Put(%q, %.90q) = %.90q, %d", ahead, fmt.Sprint(e), b, fault)
			}
		}
		for _, e := range noEntries() {
			if b, fault := chain.Put([]byte(ahead), e); string(b) != ahead || fault != api.ErrArg {
				t.Errorf("Put(%q, %.90q) = %.90q, %d, not ErrArg", ahead, fmt.Sprint(e), b, fault)
			}
		}
	}
}

func TestTakeWrong(t *testing.T) { // P17.2: the first error, and no entry and nothing behind
	for _, x := range []struct {
		b     string
		fault api.Errno
	}{
		{"", api.ErrShort},
		{"\x08", api.ErrForm}, // a first byte above 7
		{"\x09\x01", api.ErrForm},
		{"\x40", api.ErrForm},
		{"\x80", api.ErrForm},
		{"\xff", api.ErrForm},
		{"\xff\x01\x03int", api.ErrForm},
		{"\x00", api.ErrShort}, // no ID
		{"\x00\x40", api.ErrShort},
		{"\x00\x80\x00\x40", api.ErrShort},
		{"\x00\xc0\x00\x00\x00\x7f\xff\xff", api.ErrShort},
		{"\x00\x40\x01", api.ErrForm}, // an ID in too many bytes
		{"\x00\x40\x01\x03int", api.ErrForm},
		{"\x00\x80\x00\x3f\xff\x03int", api.ErrForm},
		{"\x00\xc0\x00\x00\x00\x3f\xff\xff\xff\x03int", api.ErrForm},
		{"\x00\x01", api.ErrShort},     // no text
		{"\x00\x01\x40", api.ErrShort}, // its number ends
		{"\x00\x01\x80\x00\x40", api.ErrShort},
		{"\x00\x01\xc0\x00\x00\x00\x40\x00\x00", api.ErrShort},
		{"\x00\x01\x40\x03int", api.ErrForm}, // its number in too many bytes
		{"\x00\x01\x40\x03", api.ErrForm},
		{"\x00\x01\x03", api.ErrShort}, // the text ends
		{"\x00\x01\x03in", api.ErrShort},
		{"\x00\x01\x50\x00" + long(4096)[:4095], api.ErrShort},
		{"\x00\x01\x50\x00", api.ErrShort}, // MaxText is itself allowed
		{"\x00\x01\x50\x01", api.ErrLong},  // more than MaxText, there or not
		{"\x00\x01\x50\x01" + long(4097), api.ErrLong},
		{"\x00\x01\x50\x01" + long(4096) + " ", api.ErrLong},
		{"\x00\x01\x50\x01" + strings.Repeat("\xff", 5000), api.ErrLong},
		{"\x00\x01\x7f\xff", api.ErrLong},
		{"\x00\x01\x80\x00\x40\x00", api.ErrLong},
		{"\x00\x01\xff\xff\xff\xff\xff\xff\xff\xff", api.ErrLong},
		{"\x00\x00\x03int", api.ErrForm}, // no ID: 0, above MaxID
		{"\x00\xc0\x00\x00\x00\x80\x00\x00\x00\x03int", api.ErrForm},
		{"\x00\xc0\x00\x00\x01\x00\x00\x00\x01\x03int", api.ErrForm},
		{"\x00\xff\xff\xff\xff\xff\xff\xff\xff\x03int", api.ErrForm},
		{"\x00\x00", api.ErrShort}, // prefix's errors ahead of that
		{"\x00\x00\x03in", api.ErrShort},
		{"\x00\x00\x50\x01", api.ErrLong},
		{"\x00\xff\xff\xff\xff\xff\xff\xff\xff", api.ErrShort},
		{"\x00\xff\xff\xff\xff\xff\xff\xff\xff\x50\x01", api.ErrLong},
		{"\x00\xff\xff\xff\xff\xff\xff\xff\xff\x03in", api.ErrShort},
		{"\x00\x01\x00", api.ErrForm}, // no form of a schema
		{"\x00\x01\x03inx", api.ErrForm},
		{"\x00\x01\x02int", api.ErrForm},
		{"\x00\x01\x04int ", api.ErrForm},
		{"\x00\x01\x04 int", api.ErrForm},
		{"\x00\x01\x04int\x00", api.ErrForm},
		{"\x00\x01\x07[ int ]", api.ErrForm},
		{"\x00\x00\x00", api.ErrForm},
		{"\x00\x01\x50\x00" + long(4095) + " ", api.ErrForm},
	} {
		for _, behind := range []string{"", "\x04", "\x00\x01\x03int"} {
			if behind != "" && (x.fault == api.ErrShort || x.b == "") {
				continue // what is behind would be read as what is missing
			}
			b := x.b + behind
			if e, rest, fault := chain.Take([]byte(b)); e != (api.Entry{}) || len(rest) != 0 || fault != x.fault {
				t.Errorf("Take(%.90q) = %.90q, %.90q, %d, not %d", b, fmt.Sprint(e), rest, fault, x.fault)
			}
			take(t, b)
		}
	}
}

func TestTakeEachFirstByte(t *testing.T) { // P17.2, each with nothing, and with the rest of an entry of a schema, behind
	for first := range 256 {
		for _, behind := range []string{"", "\x01\x03int", "\x01\x03int and more", "\x01", "\x07\x00"} {
			b := string([]byte{byte(first)}) + behind
			switch fault := take(t, b); {
			case first > 7 && fault != api.ErrForm:
				t.Errorf("Take(%q) is %d, not ErrForm", b, fault)
			case first > 0 && first < 8 && fault != api.OK:
				t.Errorf("Take(%q) is %d, not OK", b, fault)
			}
		}
	}
}

func TestTakeBeginnings(t *testing.T) { // P17.2: an entry's bytes, without the last ones, end too early
	for _, e := range entries() {
		b := raw(e)
		for i := range b {
			if got, rest, fault := chain.Take([]byte(b[:i])); got != (api.Entry{}) || len(rest) != 0 || fault != api.ErrShort {
				t.Errorf("of %.90q the first %d: %.90q, %.30q, %d", b, i, fmt.Sprint(got), rest, fault)
			}
		}
	}
}

func TestTakeEachByte(t *testing.T) { // P17.2, P17.4: each byte another one, put out, or doubled
	seen := map[api.Errno]int{}
	for _, e := range entries() {
		b := raw(e)
		for i := range min(len(b), 40) {
			for c := range 256 {
				seen[take(t, b[:i]+string([]byte{byte(c)})+b[i+1:])]++
			}
			seen[take(t, b[:i]+b[i+1:])]++
			seen[take(t, b[:i+1]+b[i:])]++
		}
	}
	for _, e := range []api.Errno{api.OK, api.ErrLong, api.ErrShort, api.ErrForm} {
		if seen[e] < 500 {
			t.Errorf("%d only %d times", e, seen[e])
		}
	}
}

func TestTakeByChance(t *testing.T) { // P17.2, P17.4: parts of an entry's bytes, each good or not
	r := rand.New(rand.NewSource(1))
	texts := append(forms()[:10], noForms()[:26]...)
	seen := map[api.Errno]int{}
	for range 60000 {
		var b strings.Builder
		b.WriteByte([]byte{0, 0, 0, 0, 0, 0, 3, 8, byte(r.Intn(256))}[r.Intn(9)])
		id := edges[r.Intn(17)]
		if r.Intn(2) == 0 {
			id = r.Uint64() >> (2 + r.Intn(62))
		}
		b.WriteString(number(id))
		s := texts[r.Intn(len(texts))]
		size := len(s)
		if r.Intn(4) == 0 {
			size += r.Intn(9) - 4
		}
		b.WriteString(number(uint64(max(size, 0))))
		b.WriteString(s)
		for range r.Intn(4) {
			b.WriteByte(byte(r.Intn(256)))
		}
		all := b.String()
		if r.Intn(8) == 0 {
			all = all[:r.Intn(len(all))]
		}
		seen[take(t, all)]++
	}
	for e, least := range map[api.Errno]int{api.OK: 5000, api.ErrLong: 100, api.ErrShort: 1000, api.ErrForm: 5000} {
		if seen[e] < least {
			t.Errorf("%d only %d times", e, seen[e])
		}
	}
	for range 60000 {
		b := make([]byte, r.Intn(30))
		for i := range b {
			b[i] = byte(r.Intn(256)) & []byte{0xff, 0x0f, 0x47, 0}[r.Intn(4)]
		}
		take(t, string(b))
	}
}

func TestThereAndBack(t *testing.T) { // P17.4: also of one entry behind the other
	r := rand.New(rand.NewSource(2))
	all := entries()
	for range 2000 {
		l := someLog(r, all, 12)
		behind := make([]byte, r.Intn(6))
		r.Read(behind)
		var b []byte
		for _, e := range l {
			var fault api.Errno
			if b, fault = chain.Put(b, e); fault != api.OK {
				t.Fatalf("Put(%.90q) is %d", fmt.Sprint(e), fault)
			}
		}
		b = append(b, behind...)
		for _, want := range l {
			e, rest, fault := chain.Take(b)
			if e != want || fault != api.OK {
				t.Fatalf("Take(%.90q) = %.90q, %d", b, fmt.Sprint(e), fault)
			}
			if back, fault := chain.Put(nil, e); !bytes.Equal(slices.Concat(back, rest), b) || fault != api.OK {
				t.Fatalf("of %.90q was taken what Put tells as %.90q", b, back)
			}
			b = rest
		}
		if !bytes.Equal(b, behind) {
			t.Fatalf("%x is left, not %x", b, behind)
		}
	}
}

func TestDigest(t *testing.T) { // P17.3: digits that another program told
	zero, ones := api.Sum{}, api.Sum(bytes.Repeat([]byte{0xff}, 32))
	none := api.Entry{Policy: true, S: "int"}
	for _, x := range []struct {
		l    []api.Entry
		want string
	}{
		{nil, strings.Repeat("0", 64)},
		{[]api.Entry{}, strings.Repeat("0", 64)},
		{make([]api.Entry, 0, 9), strings.Repeat("0", 64)},
		{[]api.Entry{policy(api.Full)}, "82f02cf2ac0074619e6d747c35e08b29431a16943ddf81cfd9065c004ee6364a"},
		{[]api.Entry{schema(1, "int")}, "8e4de505f4e58b094408dccb8b44a0f24cb7f9ce05e87058f096edaea6453d03"},
		{[]api.Entry{schema(1, "int"), schema(2, "long")}, "c884236fbd221960d4113b45b1af4d3e84bd024eba2a26e2dfce0419c21002f9"},
		{[]api.Entry{schema(1, "int"), schema(2, "long"), policy(api.Full)}, "b359d2a6e67fed9111e72b624c2cccc58ced0c774ac8ae7d095eedec4259d957"},
		{[]api.Entry{schema(1, "int"), schema(2, "long"), policy(api.Full), schema(api.MaxID, "[int]")}, "e382e4bd45bdb0229dcb3d1593e726e67bbb3308f238f3a2be8fcecce6e690d1"},
		{[]api.Entry{{}}, "66687aadf862bd776c8fc18b8e9f8e20089714856ee233b3902a591d0d5f2925"}, // an entry that is none has no bytes
		{[]api.Entry{none}, "66687aadf862bd776c8fc18b8e9f8e20089714856ee233b3902a591d0d5f2925"},
		{[]api.Entry{none, {}}, "2b32db6c2c0a6235fb1397e8225ea85e0f0e6e8c7b126d0016ccbde0e667151e"},
		{[]api.Entry{schema(1, "int"), none}, "98db71537d3cff1efe59c1ea85344a15dd8b8b9f5c7de43926779623b9dc5c9d"},
	} {
		if got := chain.Digest(x.l); got != sumOf(t, x.want) {
			t.Errorf("Digest(%+v) = %x, not %s", x.l, got, x.want)
		}
	}
	for _, x := range []struct {
		s    api.Sum
		e    api.Entry
		want string
	}{
		{zero, policy(api.Full), "82f02cf2ac0074619e6d747c35e08b29431a16943ddf81cfd9065c004ee6364a"},
		{zero, none, "66687aadf862bd776c8fc18b8e9f8e20089714856ee233b3902a591d0d5f2925"},
		{ones, none, "af9613760f72635fbdb44a5a0a63c39f12af30f950a6ee5c971be188e89c4051"},
		{ones, policy(api.None), "8f04045cb5b643a45a2df62d82153528de3ce3446c8127c19e2b1b4574bc72b7"},
	} {
		if got := chain.Step(x.s, x.e); got != sumOf(t, x.want) {
			t.Errorf("Step(%x, %+v) = %x, not %s", x.s, x.e, got, x.want)
		}
	}
}

func TestStep(t *testing.T) { // P17.3: of each entry, and of each that is none, behind sums of all kinds
	r := rand.New(rand.NewSource(3))
	for i, e := range append(entries(), noEntries()...) {
		var s api.Sum
		if i%4 > 0 {
			r.Read(s[:])
		}
		if got := chain.Step(s, e); got != step(s, raw(e)) {
			t.Errorf("Step(%x, %.90q) = %x", s, fmt.Sprint(e), got)
		}
	}
}

func TestDigestByParts(t *testing.T) { // P17.3, P17.5: of logs by chance, also with what is no entry, cut at each place
	r := rand.New(rand.NewSource(4))
	all := slices.Concat(entries(), entries(), noEntries()[:100])
	for range 500 {
		l := someLog(r, all, 9)
		whole := chain.Digest(l)
		if n := len(l); n == 0 && whole != (api.Sum{}) || n > 0 && whole != chain.Step(chain.Digest(l[:n-1]), l[n-1]) {
			t.Fatalf("of %d entries: %x", n, whole)
		}
		for at := range len(l) + 1 {
			s, second := chain.Digest(l[:at]), chain.Digest(l[:at])
			for _, e := range l[at:] {
				s, second = chain.Step(s, e), step(second, raw(e))
			}
			if s != whole || second != whole {
				t.Fatalf("of %d entries, cut at %d: %x, %x, %x", len(l), at, whole, s, second)
			}
		}
	}
}

func TestDigestsApart(t *testing.T) { // P17.3: logs that are unlike have others: also in order, length, one field, and where one entry ends
	logs := [][]api.Entry{{}}
	some := []api.Entry{policy(0), policy(1), policy(6), schema(1, "int"), schema(2, "int"), schema(1, "long"), schema(2, "long"), schema(api.MaxID, "[int]")}
	for _, a := range some {
		logs = append(logs, []api.Entry{a})
		for _, b := range some {
			logs = append(logs, []api.Entry{a, b})
			for _, c := range some {
				logs = append(logs, []api.Entry{a, b, c})
			}
		}
	}
	seen := map[api.Sum]int{}
	for i, l := range logs {
		s := chain.Digest(l)
		if j, twice := seen[s]; twice {
			t.Errorf("%+v and %+v have one", logs[j], l)
		}
		seen[s] = i
	}
}

// inCommon: how many entries both begin with, field by field.
func inCommon(a, b []api.Entry) int {
	for i := range a {
		if i >= len(b) || a[i].Policy != b[i].Policy || a[i].P != b[i].P || a[i].S != b[i].S || a[i].ID != b[i].ID {
			return i
		}
	}
	return len(a)
}

// against holds Begins and Common of two logs against that.
func against(t *testing.T, a, b []api.Entry) {
	t.Helper()
	n := inCommon(a, b)
	if got := chain.Common(a, b); got != n {
		t.Fatalf("Common(%+v, %+v) = %d, not %d", a, b, got, n)
	}
	if got := chain.Begins(a, b); got != (n == len(b)) {
		t.Fatalf("Begins(%+v, %+v) is %t", a, b, got)
	}
}

func TestBegins(t *testing.T) { // P17.3, written out
	a, b, c := schema(1, "int"), schema(2, "long"), policy(api.Full)
	for _, x := range []struct {
		long, short []api.Entry
		begins      bool
		common      int
	}{
		{nil, nil, true, 0},
		{[]api.Entry{}, nil, true, 0},
		{nil, []api.Entry{}, true, 0},
		{[]api.Entry{a}, nil, true, 0},
		{nil, []api.Entry{a}, false, 0},
		{[]api.Entry{a}, []api.Entry{a}, true, 1},
		{[]api.Entry{a}, []api.Entry{b}, false, 0},
		{[]api.Entry{a, b}, []api.Entry{a}, true, 1},
		{[]api.Entry{a}, []api.Entry{a, b}, false, 1},
		{[]api.Entry{a, b}, []api.Entry{b}, false, 0},
		{[]api.Entry{a, b}, []api.Entry{b, a}, false, 0},
		{[]api.Entry{a, b, c}, []api.Entry{a, c}, false, 1},
		{[]api.Entry{a, b, c}, []api.Entry{a, c, c}, false, 1}, // alike again behind
		{[]api.Entry{a, b, c}, []api.Entry{a, b}, true, 2},
		{[]api.Entry{a, b, c}, []api.Entry{a, b, c}, true, 3},
		{[]api.Entry{a, a, a}, []api.Entry{a, a}, true, 2},
		{[]api.Entry{{}, {}}, []api.Entry{{}}, true, 1}, // what is no entry is held against what is none, too
		{[]api.Entry{{}}, []api.Entry{{}, {}}, false, 1},
		{[]api.Entry{{}}, []api.Entry{{Policy: true}}, false, 0},
		{[]api.Entry{{Policy: true, P: 9}}, []api.Entry{{Policy: true, P: 8}}, false, 0},
		{[]api.Entry{{Policy: true, S: "x"}}, []api.Entry{{Policy: true, S: "y"}}, false, 0},
		{[]api.Entry{schema(1, "[int]")}, []api.Entry{schema(1, "[ int ]")}, false, 0}, // one form, but another entry
	} {
		if got := chain.Begins(x.long, x.short); got != x.begins {
			t.Errorf("Begins(%+v, %+v) is %t", x.long, x.short, got)
		}
		if got, back := chain.Common(x.long, x.short), chain.Common(x.short, x.long); got != x.common || back != x.common {
			t.Errorf("Common(%+v, %+v) = %d, and %d the other way, not %d", x.long, x.short, got, back, x.common)
		}
	}
}

func TestEachFieldTells(t *testing.T) { // P17.3: entries are the same if all fields are; of each two of few, alone, behind others and ahead of others
	all := few()
	same := []api.Entry{schema(9, "text"), policy(2)}
	for i, x := range all {
		for j, y := range all {
			want := 0
			if i == j {
				want = 1
			}
			if got := chain.Common([]api.Entry{x}, []api.Entry{y}); got != want {
				t.Errorf("Common(%+v, %+v) = %d", x, y, got)
			}
			for n := range 3 {
				for m := range 3 {
					a, b := slices.Concat(same[:n], []api.Entry{x}, same[:m]), slices.Concat(same[:n], []api.Entry{y}, same[:m])
					against(t, a, b)
					against(t, a, b[:n+1])
					against(t, a[:n+1], b)
				}
			}
		}
	}
}

func TestAllShortLogs(t *testing.T) { // P17.3: each two logs of up to four of three entries
	logs := [][]api.Entry{nil}
	for i := 0; i < len(logs); i++ {
		if len(logs[i]) < 4 {
			for _, e := range []api.Entry{schema(1, "int"), schema(2, "int"), policy(0)} {
				logs = append(logs, append(slices.Clone(logs[i]), e))
			}
		}
	}
	for _, a := range logs {
		for _, b := range logs {
			against(t, a, b)
		}
	}
}

func TestCommonByChance(t *testing.T) { // P17.3: long logs that are nearly the same
	r := rand.New(rand.NewSource(5))
	all := append(entries(), few()...)
	for range 5000 {
		a := someLog(r, all, 70)
		b := slices.Clone(a[:r.Intn(len(a)+1)])
		if len(b) > 0 && r.Intn(3) > 0 {
			b[r.Intn(len(b))] = all[r.Intn(len(all))]
		}
		b = append(b, someLog(r, all, 3)...)
		for i := range b { // texts that are the same, but elsewhere in memory
			b[i].S = strings.Clone(b[i].S)
		}
		against(t, a, b)
		against(t, b, a)
	}
}

func TestBeginsAsDigests(t *testing.T) { // P17.5: the Digest of a beginning goes on to that of the whole; of what is none, it does not
	r := rand.New(rand.NewSource(6))
	some := []api.Entry{schema(1, "int"), schema(2, "long"), policy(3)}
	yes := 0
	for range 3000 {
		long, short := someLog(r, some, 4), someLog(r, some, 3)
		s := chain.Digest(short)
		for _, e := range long[min(len(short), len(long)):] {
			s = chain.Step(s, e)
		}
		begins := chain.Begins(long, short)
		if begins != (s == chain.Digest(long) && len(short) <= len(long)) {
			t.Fatalf("Begins(%+v, %+v) is %t", long, short, begins)
		}
		if begins {
			yes++
		}
	}
	if yes < 300 || yes > 2700 {
		t.Errorf("%d began", yes)
	}
}

// roomy: text with spare room behind it, and a look at whether that room, or text, was changed.
func roomy(text string) ([]byte, func(t *testing.T)) {
	all := append([]byte(text), bytes.Repeat([]byte{0xa5}, 100)...)
	was := slices.Clone(all)
	return all[:len(text)], func(t *testing.T) {
		t.Helper()
		if !bytes.Equal(all, was) {
			t.Errorf("an argument, or its spare room, was changed: %x, was %x", all, was)
		}
	}
}

// spoil fills a list, with its spare room.
func spoil[T any](l []T, x T) {
	l = l[:cap(l)]
	for i := range l {
		l[i] = x
	}
}

func TestMemory(t *testing.T) { // DOC.md, Memory: arguments are not changed, answers are new memory
	for name, call := range map[string]func(b []byte) []byte{
		"Put, a schema":     func(b []byte) []byte { b, _ = chain.Put(b, schema(1<<20, "int")); return b },
		"Put, a policy":     func(b []byte) []byte { b, _ = chain.Put(b, policy(3)); return b },
		"Put, none":         func(b []byte) []byte { b, _ = chain.Put(b, policy(7)); return b },
		"Take":              func(b []byte) []byte { _, rest, _ := chain.Take(b); return rest },
		"Take, a beginning": func(b []byte) []byte { _, rest, _ := chain.Take(b[:len(b)/2]); return rest },
	} {
		for _, given := range []string{"", "\x04", "\x04abc", "\x00\x01\x03int", "\x00\x01\x03int and more", "\x00\x01\x04int ", "\x00\x01\x09int", "\x08", strings.Repeat("\x07", 100)} {
			t.Run(name, func(t *testing.T) {
				b, unchanged := roomy(given)
				first := call(b)
				was := slices.Clone(first)
				unchanged(t)
				spoil(call(b), 0xee)
				unchanged(t)
				if !bytes.Equal(first, was) {
					t.Errorf("of %x: two answers share memory", given)
				}
				spoil(b, 0xdd)
				if !bytes.Equal(first, was) {
					t.Errorf("of %x: an answer shares memory with its argument", given)
				}
			})
		}
	}
}

func TestMemoryOfTexts(t *testing.T) { // DOC.md, Memory: what is taken stays as it is
	b := []byte("\x00\x01\x05[int]\x04")
	e, rest, _ := chain.Take(b)
	spoil(b, 'x')
	if e != schema(1, "[int]") || string(rest) != "\x04" {
		t.Errorf("%+v, %x", e, rest)
	}
	spoil(rest, 'y')
	if e != schema(1, "[int]") {
		t.Errorf("%+v", e)
	}
}

func TestMemoryOfLogs(t *testing.T) { // DOC.md, Memory: logs are not changed, nor what is behind them
	long := append(entries(), noEntries()...)
	other := slices.Clone(long)
	was := slices.Clone(long)
	n := len(long) - 3
	chain.Digest(long[:n])
	chain.Common(long[:n], other[:n-1])
	chain.Begins(long[:n], other[:n-1])
	chain.Begins(long[:n-1], other[:n])
	if !slices.Equal(long, was) || !slices.Equal(other, was) {
		t.Error("a log was changed")
	}
	if !chain.Begins(long, long) || chain.Common(long, long) != len(long) || !chain.Begins(long, long[:n]) { // one list twice
		t.Error("a log that is held against itself")
	}
}

func TestNilAndEmpty(t *testing.T) { // DOC.md, Memory: alike
	for _, b := range [][]byte{nil, {}, make([]byte, 0, 9)} {
		if got, e := chain.Put(b, policy(6)); string(got) != "\x07" || e != api.OK {
			t.Errorf("Put: %x, %d", got, e)
		}
		if got, e := chain.Put(b, policy(7)); len(got) != 0 || e != api.ErrArg {
			t.Errorf("Put of none: %x, %d", got, e)
		}
		if x, rest, e := chain.Take(b); x != (api.Entry{}) || len(rest) != 0 || e != api.ErrShort {
			t.Errorf("Take: %+v, %x, %d", x, rest, e)
		}
	}
}

func TestLarge(t *testing.T) { // DOC.md, Ends: long logs and many bytes
	l := make([]api.Entry, 1<<16)
	for i := range l {
		l[i] = policy(i % 7)
		if i%2 == 0 {
			l[i] = schema(uint64(i+1), "[int]")
		}
	}
	var s api.Sum
	for _, e := range l {
		s = step(s, raw(e))
	}
	if chain.Digest(l) != s {
		t.Error("Digest")
	}
	other := slices.Clone(l)
	other[len(l)-1] = policy(9)
	if chain.Common(l, other) != len(l)-1 || chain.Begins(l, other) || !chain.Begins(l, l[:len(l)-1]) {
		t.Error("Common, Begins")
	}
	for _, head := range []string{"\x05", "\x00\x01\x05[int]"} {
		b := append([]byte(head), bytes.Repeat([]byte{1}, 1<<24)...)
		want, _, _ := reading(head)
		if e, rest, fault := chain.Take(b); e != want || len(rest) != 1<<24 || fault != api.OK {
			t.Errorf("Take: %+v, %d bytes, %d", e, len(rest), fault)
		}
		if got, e := chain.Put(b, want); string(got[len(b):]) != head || e != api.OK {
			t.Errorf("Put: %d bytes, %d", len(got), e)
		}
	}
}

func FuzzChain(f *testing.F) { // P17.1 to P17.4 of whatever bytes and fields; and that nothing panics
	f.Add("\x00\x01\x03int", false, 0, uint64(1), "int")
	f.Add("\x04", true, 3, uint64(0), "")
	f.Add("\x00\x40\x40\x07[ int ]", false, 1, uint64(api.MaxID), "[int]")
	f.Fuzz(func(t *testing.T, b string, isPolicy bool, p int, id uint64, s string) {
		take(t, b)
		e := api.Entry{Policy: isPolicy, P: p, ID: id, S: s}
		if chain.Can(e) != is(e) {
			t.Errorf("Can(%+v) is %t", e, chain.Can(e))
		}
		want, fault := b, api.ErrArg
		if is(e) {
			want, fault = b+raw(e), api.OK
		}
		if got, is := chain.Put([]byte(b), e); string(got) != want || is != fault {
			t.Errorf("Put(%q, %+v) = %q, %d", b, e, got, is)
		}
		sum := sha256.Sum256([]byte(b))
		if got := chain.Step(sum, e); got != step(sum, raw(e)) {
			t.Errorf("Step(%x, %+v) = %x", sum, e, got)
		}
	})
}
