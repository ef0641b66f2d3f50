package prefix_test

import (
	"bytes"
	"encoding/binary"
	"math"
	"math/rand"
	"slices"
	"strings"
	"testing"

	"suffragan/api"
	"suffragan/prefix"
)

// kinds: of each Size the number that the first byte says, and the first number that is too great for it.
var kinds = []struct {
	size  int
	mark  byte
	bound uint64
}{{1, 0, 1 << 6}, {2, 1, 1 << 14}, {4, 2, 1 << 30}, {8, 3, 1 << 62}}

// wanted: n's bytes, worked out in another way than the program's; none, if it has none.
func wanted(n uint64) []byte {
	for _, k := range kinds {
		if n < k.bound {
			b := binary.BigEndian.AppendUint64(nil, n)[8-k.size:]
			b[0] += k.mark * 64
			return b
		}
	}
	return nil
}

// numbers: those that have bytes, around each bound and of every length, rising.
func numbers() []uint64 {
	l := []uint64{0, 1, 2, 0x3e, 255, 256, 257, 1 << 8, 1 << 16, 1 << 24, 1<<31 - 1, 1 << 32, 1 << 40, 1 << 48, 1 << 56}
	for _, k := range kinds {
		l = append(l, k.bound-2, k.bound-1)
		if k.size < 8 {
			l = append(l, k.bound, k.bound+1)
		}
	}
	r := rand.New(rand.NewSource(1))
	for i := range 2000 {
		l = append(l, r.Uint64()>>(2+i%62))
	}
	slices.Sort(l)
	return slices.Compact(l)
}

// tooGreat: numbers that have no bytes.
func tooGreat() []uint64 {
	return []uint64{1 << 62, 1<<62 + 1, 1<<62 + 63, 1 << 63, 1<<63 + 1, 3 << 62, math.MaxUint64}
}

// roomy: b with spare room behind it, and a look at whether that room, or b, was changed.
func roomy(b []byte) ([]byte, func(t *testing.T)) {
	all := append(slices.Clone(b), bytes.Repeat([]byte{0xa5}, 40)...)
	was := slices.Clone(all)
	return all[:len(b)], func(t *testing.T) {
		t.Helper()
		if !bytes.Equal(all, was) {
			t.Errorf("an argument, or its spare room, was changed: %x, was %x", all, was)
		}
	}
}

// spoil fills an answer, with its spare room.
func spoil(b []byte) {
	b = b[:cap(b)]
	for i := range b {
		b[i] ^= 0xff
	}
}

func TestSize(t *testing.T) { // P1.1
	for _, x := range []struct {
		n    uint64
		size int
	}{{0, 1}, {1, 1}, {63, 1}, {64, 2}, {255, 2}, {256, 2}, {16383, 2}, {16384, 4}, {65536, 4}, {1073741823, 4}, {1073741824, 8}, {1 << 32, 8}, {api.MaxNum, 8}} {
		if got := prefix.Size(x.n); got != x.size {
			t.Errorf("Size(%d) = %d, not %d", x.n, got, x.size)
		}
	}
	for _, n := range numbers() {
		if got := prefix.Size(n); got != len(wanted(n)) {
			t.Errorf("Size(%d) = %d", n, got)
		}
	}
	for _, n := range tooGreat() {
		if got := prefix.Size(n); got != 0 {
			t.Errorf("Size(%d) = %d, not 0", n, got)
		}
	}
}

func TestPutExamples(t *testing.T) { // P1.1, the chapter's and the document's examples
	for _, x := range []struct {
		n    uint64
		want string
	}{{0, "\x00"}, {63, "\x3f"}, {64, "\x40\x40"}, {16383, "\x7f\xff"}, {16384, "\x80\x00\x40\x00"}, {0x12345678 & (1<<30 - 1), "\x92\x34\x56\x78"}, {1<<30 - 1, "\xbf\xff\xff\xff"}, {1 << 30, "\xc0\x00\x00\x00\x40\x00\x00\x00"}, {0x123456789abcdef0, "\xd2\x34\x56\x78\x9a\xbc\xde\xf0"}, {api.MaxNum, "\xff\xff\xff\xff\xff\xff\xff\xff"}} {
		if b, e := prefix.Put(nil, x.n); string(b) != x.want || e != api.OK {
			t.Errorf("Put(%d) = %x, %d, not %x", x.n, b, e, x.want)
		}
	}
}

func TestPut(t *testing.T) { // P1.1
	for _, ahead := range [][]byte{nil, {}, []byte("x"), []byte("ahead\x00\xff")} {
		for _, n := range numbers() {
			b, e := prefix.Put(ahead, n)
			if !bytes.Equal(b, slices.Concat(ahead, wanted(n))) || e != api.OK {
				t.Errorf("Put(%q, %d) = %x, %d", ahead, n, b, e)
			}
		}
		for _, n := range tooGreat() {
			if b, e := prefix.Put(ahead, n); !bytes.Equal(b, ahead) || e != api.ErrArg {
				t.Errorf("Put(%q, %d) = %x, %d, not ErrArg", ahead, n, b, e)
			}
		}
	}
}

func TestTakeWrong(t *testing.T) { // P1.1
	for _, x := range []struct {
		b string
		e api.Errno
	}{
		{"", api.ErrShort},
		{"\x40", api.ErrShort},
		{"\x7f", api.ErrShort},
		{"\x80\x00\x00", api.ErrShort},
		{"\xbf", api.ErrShort},
		{"\xc0", api.ErrShort},
		{"\xc0\x00", api.ErrShort},
		{"\xff\xff\xff\xff\xff\xff\xff", api.ErrShort}, // one byte too few
		{"\xc0\x00\x00\x00\x00\x00\x00", api.ErrShort}, // that it ends is told ahead of its lesser Size
		{"\x40\x00", api.ErrForm},
		{"\x40\x3f", api.ErrForm},
		{"\x40\x3fy", api.ErrForm},
		{"\x80\x00\x00\x01", api.ErrForm},
		{"\x80\x00\x3f\xff", api.ErrForm},
		{"\xc0\x00\x00\x00\x00\x00\x00\x00", api.ErrForm},
		{"\xc0\x00\x00\x00\x3f\xff\xff\xff", api.ErrForm},
		{"\xc0\x00\x00\x00\x3f\xff\xff\xff more", api.ErrForm},
	} {
		if n, rest, e := prefix.Take([]byte(x.b)); n != 0 || len(rest) != 0 || e != x.e {
			t.Errorf("Take(%x) = %d, %x, %d, not %d", x.b, n, rest, e, x.e)
		}
	}
}

func TestTakeLeast(t *testing.T) { // P1.1: the least number of each Size is taken, the one below it is not
	for _, x := range []struct {
		b string
		n uint64
	}{{"\x00", 0}, {"\x40\x40", 1 << 6}, {"\x80\x00\x40\x00", 1 << 14}, {"\xc0\x00\x00\x00\x40\x00\x00\x00", 1 << 30}} {
		if n, rest, e := prefix.Take([]byte(x.b)); n != x.n || len(rest) != 0 || e != api.OK {
			t.Errorf("Take(%x) = %d, %x, %d", x.b, n, rest, e)
		}
	}
}

func TestTakeOfPut(t *testing.T) { // P1.3
	for _, behind := range [][]byte{nil, {0}, []byte("y"), []byte("\xff\xff\xff\xff\xff\xff\xff\xff\xff")} {
		for _, n := range numbers() {
			b, _ := prefix.Put(nil, n)
			m, rest, e := prefix.Take(append(b, behind...))
			if m != n || !bytes.Equal(rest, behind) || e != api.OK {
				t.Errorf("Take of Put of %d, with %x behind: %d, %x, %d", n, behind, m, rest, e)
			}
		}
	}
}

// putBack holds what Take took of b against Put of it.
func putBack(t *testing.T, b []byte) {
	t.Helper()
	n, rest, e := prefix.Take(b)
	if e != api.OK {
		return
	}
	if back, e := prefix.Put(nil, n); e != api.OK || !bytes.Equal(back, b[:len(b)-len(rest)]) || !bytes.HasSuffix(b, rest) {
		t.Fatalf("Take(%x) = %d, %x; Put of it: %x, %d", b, n, rest, back, e)
	}
}

func TestPutOfTake(t *testing.T) { // P1.3
	for i := range 1 << 17 {
		putBack(t, []byte{byte(i >> 8), byte(i)})
		putBack(t, []byte{byte(i)})
		putBack(t, []byte{0x80, byte(i >> 16), byte(i >> 8), byte(i)})
	}
	r := rand.New(rand.NewSource(2))
	for range 100000 {
		b := make([]byte, r.Intn(12))
		r.Read(b)
		for i := 1; i < len(b) && r.Intn(4) > 0; i++ { // so that lesser numbers come, too
			b[i] = 0
		}
		putBack(t, b)
	}
}

func TestOrder(t *testing.T) { // P1.4
	l := numbers()
	for i := 1; i < len(l); i++ {
		for _, lesser := range []uint64{l[i-1], l[i] - 1, l[i] / 3} {
			if lesser >= l[i] || prefix.Size(lesser) != prefix.Size(l[i]) {
				continue
			}
			a, _ := prefix.Put(nil, lesser)
			b, _ := prefix.Put(nil, l[i])
			if bytes.Compare(a, b) >= 0 {
				t.Errorf("%d has %x, %d has %x", lesser, a, l[i], b)
			}
		}
	}
}

func TestNoBeginning(t *testing.T) { // P1.5, and of shorter beginnings
	for _, n := range numbers() {
		b, _ := prefix.Put(nil, n)
		if len(b) == 0 {
			t.Fatalf("%d has no bytes", n)
		}
		for i := range b {
			if m, rest, e := prefix.Take(b[:i]); m != 0 || len(rest) != 0 || e != api.ErrShort {
				t.Errorf("of %d (%x) the first %d: %d, %x, %d", n, b, i, m, rest, e)
			}
		}
	}
}

func TestPutText(t *testing.T) { // P1.2
	for _, x := range []struct{ ahead, s, want string }{
		{"", "", "\x00"},
		{"x", "", "x\x00"},
		{"", "ab", "\x02ab"},
		{"x", "a\x00\xff", "x\x03a\x00\xff"},
		{"x", "é", "x\x02\xc3\xa9"}, // bytes are counted, not runes
		{"", strings.Repeat("a", 63), "\x3f" + strings.Repeat("a", 63)},
		{"x", strings.Repeat("a", 64), "x\x40\x40" + strings.Repeat("a", 64)},
		{"", strings.Repeat("b", 1<<14), "\x80\x00\x40\x00" + strings.Repeat("b", 1<<14)},
	} {
		if b := prefix.PutText([]byte(x.ahead), x.s); string(b) != x.want {
			t.Errorf("PutText(%q, %d bytes) = %x", x.ahead, len(x.s), b)
		}
	}
}

func TestTakeText(t *testing.T) { // P1.2
	long := strings.Repeat("b", 1<<14)
	for _, x := range []struct {
		b       string
		most    int
		s, rest string
	}{
		{"\x00", 0, "", ""},
		{"\x00y", 0, "", "y"},
		{"\x02ab", 2, "ab", ""},
		{"\x02aby\x00", 2, "ab", "y\x00"},
		{"\x02ab", math.MaxInt, "ab", ""},
		{"\x02\xff\x00y", 3, "\xff\x00", "y"},
		{"\x40\x40" + long[:64] + "y", 64, long[:64], "y"},
		{"\x80\x00\x40\x00" + long + "y", 1 << 14, long, "y"},
	} {
		if s, rest, e := prefix.TakeText([]byte(x.b), x.most); s != x.s || string(rest) != x.rest || e != api.OK {
			t.Errorf("TakeText(%.9x, %d) = %.9q, %q, %d", x.b, x.most, s, rest, e)
		}
	}
}

func TestTakeTextWrong(t *testing.T) { // P1.2
	for _, x := range []struct {
		b    string
		most int
		e    api.Errno
	}{
		{"", 9, api.ErrShort},
		{"", -1, api.ErrShort}, // the number's error is told ahead
		{"\x40", -1, api.ErrShort},
		{"\x40\x02ab", 9, api.ErrForm},
		{"\x40\x02ab", 0, api.ErrForm},
		{"\x02ab", 1, api.ErrLong},
		{"\x02ab", 0, api.ErrLong},
		{"\x02ab", -1, api.ErrLong},
		{"\x02ab", math.MinInt, api.ErrLong},
		{"\x00", -1, api.ErrLong},
		{"\x03ab", 2, api.ErrLong}, // too long is told ahead of too short
		{"\x03ab", 3, api.ErrShort},
		{"\x01", 1, api.ErrShort},
		{"\x40\x40" + strings.Repeat("a", 63), 64, api.ErrShort},
		{"\xff\xff\xff\xff\xff\xff\xff\xffab", math.MaxInt, api.ErrShort},
		{"\xff\xff\xff\xff\xff\xff\xff\xffab", 9, api.ErrLong},
	} {
		if s, rest, e := prefix.TakeText([]byte(x.b), x.most); s != "" || len(rest) != 0 || e != x.e {
			t.Errorf("TakeText(%x, %d) = %q, %x, %d, not %d", x.b, x.most, s, rest, e, x.e)
		}
	}
}

// many: so many texts of one byte.
func many(n int) []string {
	l := make([]string, n)
	for i := range l {
		l[i] = string(rune('a' + i%26))
	}
	return l
}

func TestPutTexts(t *testing.T) { // P1.2
	for _, x := range []struct {
		ahead string
		l     []string
		want  string
	}{
		{"", nil, "\x00"},
		{"x", []string{}, "x\x00"},
		{"x", []string{""}, "x\x01\x00"},
		{"", []string{"ab", ""}, "\x02\x02ab\x00"},
		{"x", []string{"", "a", "bcd", "a"}, "x\x04\x00\x01a\x03bcd\x01a"},
		{"", many(64), "\x40\x40\x01" + strings.Join(many(64), "\x01")},
	} {
		if b := prefix.PutTexts([]byte(x.ahead), x.l); string(b) != x.want {
			t.Errorf("PutTexts(%q, %q) = %x", x.ahead, x.l, b)
		}
	}
}

func TestTakeTexts(t *testing.T) { // P1.2
	for _, x := range []struct {
		b          string
		most, each int
		l          []string
		rest       string
	}{
		{"\x00", 0, 0, nil, ""},
		{"\x00y", 0, -1, nil, "y"}, // no text is looked at
		{"\x00y", 9, 9, nil, "y"},
		{"\x01\x00", 1, 0, []string{""}, ""},
		{"\x02\x02ab\x00\x09", 2, 2, []string{"ab", ""}, "\x09"},
		{"\x02\x02ab\x02aby", 3, 2, []string{"ab", "ab"}, "y"},
		{"\x02\x02ab\x01by", math.MaxInt, math.MaxInt, []string{"ab", "b"}, "y"},
		{"\x40\x40\x01" + strings.Join(many(64), "\x01") + "yz", 64, 1, many(64), "yz"},
	} {
		if l, rest, e := prefix.TakeTexts([]byte(x.b), x.most, x.each); !slices.Equal(l, x.l) || string(rest) != x.rest || e != api.OK {
			t.Errorf("TakeTexts(%x, %d, %d) = %q, %q, %d", x.b, x.most, x.each, l, rest, e)
		}
	}
}

func TestTakeTextsWrong(t *testing.T) { // P1.2
	for _, x := range []struct {
		b          string
		most, each int
		e          api.Errno
	}{
		{"", 9, 9, api.ErrShort},
		{"", -1, -1, api.ErrShort}, // the number's error is told ahead
		{"\x40\x01\x00", 9, 9, api.ErrForm},
		{"\x40\x01\x00", -1, 9, api.ErrForm},
		{"\x00", -1, 9, api.ErrLong},
		{"\x02\x02ab\x00", 1, 2, api.ErrLong},
		{"\x02\x02ab\x00", 2, 1, api.ErrLong},
		{"\x02\x02ab\x00", 2, -1, api.ErrLong},
		{"\x02\x00\x02ab", 2, 1, api.ErrLong}, // of the last text
		{"\x02\x02a", 1, 2, api.ErrLong},      // too many is told ahead of what is wrong with a text
		{"\x02\x40\x02ab\x03ab", 2, 2, api.ErrForm},
		{"\x02\x03ab", 2, 9, api.ErrShort}, // the first error, text by text
		{"\x02\x03abc\x40\x01a", 2, 2, api.ErrLong},
		{"\x02\x02ab", 2, 2, api.ErrShort}, // the second one is missing
		{"\x02\x02ab", 2, -1, api.ErrLong},
		{"\x01", 1, -1, api.ErrShort}, // a text's number's error is told ahead
		{"\x02\x00\x40\x02ab", 2, 0, api.ErrForm},
		{"\x02\x00\x02a", 2, 2, api.ErrShort},
		{"\xff\xff\xff\xff\xff\xff\xff\xff\x00\x00", math.MaxInt, 9, api.ErrShort}, // no room is made for what is only claimed
		{"\xff\xff\xff\xff\xff\xff\xff\xff\x00\x00", 1 << 20, 9, api.ErrLong},
	} {
		if l, rest, e := prefix.TakeTexts([]byte(x.b), x.most, x.each); len(l) != 0 || len(rest) != 0 || e != x.e {
			t.Errorf("TakeTexts(%x, %d, %d) = %q, %x, %d, not %d", x.b, x.most, x.each, l, rest, e, x.e)
		}
	}
}

func TestTextsThereAndBack(t *testing.T) { // P1.2: what was put is taken, and of no beginning of it all is
	r := rand.New(rand.NewSource(3))
	for range 300 {
		l := make([]string, r.Intn(70))
		for i := range l {
			l[i] = strings.Repeat(string(rune(r.Intn(300))), r.Intn(40)*r.Intn(5))
		}
		b := prefix.PutTexts(nil, l)
		got, rest, e := prefix.TakeTexts(append(slices.Clone(b), "behind"...), len(l), math.MaxInt)
		if !slices.Equal(got, l) || string(rest) != "behind" || e != api.OK {
			t.Fatalf("%q: %q, %q, %d", l, got, rest, e)
		}
		if got, rest, e := prefix.TakeTexts(b[:r.Intn(len(b))], len(l), math.MaxInt); len(got) != 0 || len(rest) != 0 || e != api.ErrShort {
			t.Fatalf("of a beginning of %x: %q, %x, %d", b, got, rest, e)
		}
	}
}

func TestManyTexts(t *testing.T) { // a list is read in one go: what is behind is not copied for each text
	l := many(1 << 20)
	got, rest, e := prefix.TakeTexts(append(prefix.PutTexts(nil, l), 'y'), len(l), 1)
	if !slices.Equal(got, l) || string(rest) != "y" || e != api.OK {
		t.Error(len(got), len(rest), e)
	}
}

// puts: each call that puts something behind b, as it puts it.
func puts() map[string]func(b []byte) []byte {
	return map[string]func(b []byte) []byte{
		"Put":                func(b []byte) []byte { b, _ = prefix.Put(b, 1<<20); return b },
		"Put, ErrArg":        func(b []byte) []byte { b, _ = prefix.Put(b, 1<<62); return b },
		"PutText":            func(b []byte) []byte { return prefix.PutText(b, "ab") },
		"PutText, empty":     func(b []byte) []byte { return prefix.PutText(b, "") },
		"PutTexts":           func(b []byte) []byte { return prefix.PutTexts(b, []string{"ab", "c"}) },
		"PutTexts, of none":  func(b []byte) []byte { return prefix.PutTexts(b, nil) },
		"Take":               func(b []byte) []byte { _, rest, _ := prefix.Take(b); return rest },
		"TakeText":           func(b []byte) []byte { _, rest, _ := prefix.TakeText(b, 9); return rest },
		"TakeTexts":          func(b []byte) []byte { _, rest, _ := prefix.TakeTexts(b, 9, 9); return rest },
		"TakeText, ErrLong":  func(b []byte) []byte { _, rest, _ := prefix.TakeText(b, -1); return rest },
		"TakeTexts, ErrLong": func(b []byte) []byte { _, rest, _ := prefix.TakeTexts(b, 9, -1); return rest },
	}
}

func TestMemory(t *testing.T) { // DOC.md, Memory: arguments are not changed, answers are new memory
	for name, call := range puts() {
		for _, given := range []string{"", "\x00", "\x01\x01abc", "\x02\x02\x01abc and more"} {
			t.Run(name, func(t *testing.T) {
				b, unchanged := roomy([]byte(given))
				first := call(b)
				was := slices.Clone(first)
				unchanged(t)
				second := call(b)
				spoil(second)
				unchanged(t)
				if !bytes.Equal(first, was) {
					t.Errorf("of %x: two answers share memory", given)
				}
				for i := range b {
					b[i] ^= 0xff
				}
				if !bytes.Equal(first, was) {
					t.Errorf("of %x: an answer shares memory with its argument", given)
				}
			})
		}
	}
}

func TestTextsAreKeptApart(t *testing.T) { // DOC.md, Memory: of the texts that are told, and of a list that is handed in
	b := []byte("\x02\x02ab\x02cdy")
	l, _, _ := prefix.TakeTexts(b, 2, 2)
	again, _, _ := prefix.TakeTexts(b, 2, 2)
	s, _, _ := prefix.TakeText(b[1:], 2)
	clear(b)
	again[0] = "other"
	if !slices.Equal(l, []string{"ab", "cd"}) || s != "ab" {
		t.Errorf("%q, %q", l, s)
	}
	given := []string{"a", "b", "spare"}
	prefix.PutTexts(nil, given[:2])
	if !slices.Equal(given, []string{"a", "b", "spare"}) {
		t.Errorf("%q", given)
	}
}

func FuzzTake(f *testing.F) { // P1.3, of whatever bytes; and that nothing panics
	for _, s := range []string{"", "\x3f", "\x40\x40", "\x40\x3f", "\x02\x02ab\x00", "\xff\xff\xff\xff\xff\xff\xff\xff\x00"} {
		f.Add([]byte(s), 2, 2)
	}
	f.Fuzz(func(t *testing.T, b []byte, most, each int) {
		putBack(t, b)
		if s, rest, e := prefix.TakeText(b, most); e == api.OK && !bytes.Equal(append(prefix.PutText(nil, s), rest...), b) {
			t.Errorf("TakeText(%x, %d) = %q, %x", b, most, s, rest)
		}
		if l, rest, e := prefix.TakeTexts(b, most, each); e == api.OK && !bytes.Equal(append(prefix.PutTexts(nil, l), rest...), b) {
			t.Errorf("TakeTexts(%x, %d, %d) = %q, %x", b, most, each, l, rest)
		}
	})
}
