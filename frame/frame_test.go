package frame_test

import (
	"bytes"
	"encoding/binary"
	"math"
	"math/rand"
	"slices"
	"testing"

	"suffragan/api"
	"suffragan/frame"
)

// sum: the check sum of b, worked out bit by bit, without the layers below.
func sum(b []byte) uint32 {
	s := uint32(0xffffffff)
	for _, c := range b {
		s ^= uint32(c) << 24
		for range 8 {
			s = s<<1 ^ s>>31*0x04c11db7
		}
	}
	return s
}

// number: n's bytes, without the layers below; in size of them (1, 2, 4, 8), also where fewer would do.
func number(n uint64, size int) []byte {
	b := binary.BigEndian.AppendUint64(nil, n)[8-size:]
	b[0] |= map[int]byte{1: 0, 2: 0x40, 4: 0x80, 8: 0xc0}[size]
	return b
}

// least: how many bytes the number n of a frame's bytes has.
func least(n int) int {
	switch {
	case n < 1<<6:
		return 1
	case n < 1<<14:
		return 2
	}
	return 4
}

// summed: b, and its sum behind it.
func summed(b []byte) []byte {
	return binary.BigEndian.AppendUint32(slices.Clone(b), sum(b))
}

// wanted: the frame of body, without the layers below.
func wanted(body []byte) []byte {
	return summed(slices.Concat(number(uint64(len(body)), least(len(body))), body))
}

// some answers n bytes by chance.
func some(r *rand.Rand, n int) []byte {
	b := make([]byte, n)
	r.Read(b)
	return b
}

// bodies: of every length around which a frame's form changes, and some that look like frames.
func bodies() [][]byte {
	l := [][]byte{nil, []byte("a"), {0}, {0xff}, []byte("123456789"), wanted(nil), wanted([]byte("ab")), bytes.Repeat(wanted(nil), 13)}
	r := rand.New(rand.NewSource(1))
	for _, n := range []int{2, 3, 4, 5, 31, 32, 62, 63, 64, 65, 100, 255, 256, 257, 1000, 16383, 16384, 16385, 65535, 65536} {
		l = append(l, some(r, n), make([]byte, n), bytes.Repeat([]byte{0xff}, n))
	}
	return l
}

// greatest: a body of MaxFrame bytes.
func greatest() []byte {
	return some(rand.New(rand.NewSource(2)), api.MaxFrame)
}

// joined: the frames of all, one behind the other, and where each one ends.
func joined(l [][]byte) ([]byte, []int) {
	var b []byte
	var ends []int
	for _, body := range l {
		b = append(b, wanted(body)...)
		ends = append(ends, len(b))
	}
	return b, ends
}

// alike tells whether two lists have the same bodies.
func alike(a, b [][]byte) bool {
	return slices.EqualFunc(a, b, bytes.Equal)
}

// turn turns those bits of b, in place, that are 1 in pattern, whose lowest bit falls on bit at (each byte's highest bit first) and whose others fall ahead of it.
func turn(b []byte, at int, pattern uint32) {
	for ; pattern != 0; pattern >>= 1 {
		if pattern&1 == 1 {
			b[at/8] ^= 0x80 >> (at % 8)
		}
		at--
	}
}

func TestExamples(t *testing.T) { // P5.1, P5.2, the chapter's example; the others were worked out by another program
	a64 := string(bytes.Repeat([]byte("a"), 64))
	for _, x := range []struct{ body, want string }{
		{"", "\x00\x4e\x08\xbf\xb4"},
		{"a", "\x01a\x7a\xca\x7e\x81"},
		{"ab", "\x02ab\xa2\x0e\x42\x41"},
		{"\x00", "\x01\x00\xd2\xae\xa5\xa1"},
		{"\xff\xff\xff\xff", "\x04\xff\xff\xff\xff\xa0\xe0\xe5\x64"},
		{"123456789", "\x09123456789\x8f\x59\xf2\xc4"},
		{a64[:63], "\x3f" + a64[:63] + "\x36\x5a\x1f\xd3"},
		{a64, "\x40\x40" + a64 + "\x19\x47\x20\x87"},
	} {
		if b, e := frame.Put(nil, []byte(x.body)); string(b) != x.want || e != api.OK {
			t.Errorf("Put(%q) = %x, %d, not %x", x.body, b, e, x.want)
		}
		if body, rest, e := frame.Take([]byte(x.want)); string(body) != x.body || len(rest) != 0 || e != api.OK {
			t.Errorf("Take(%x) = %q, %x, %d", x.want, body, rest, e)
		}
		if !bytes.Equal(wanted([]byte(x.body)), []byte(x.want)) {
			t.Errorf("the test's own way has %x for %x", wanted([]byte(x.body)), x.want)
		}
	}
}

func TestPut(t *testing.T) { // P5.1: what is ahead stays, and is not summed
	for _, ahead := range [][]byte{nil, {}, []byte("x"), []byte("ahead\x00\xff"), wanted([]byte("one"))} {
		for _, body := range bodies() {
			if b, e := frame.Put(ahead, body); !bytes.Equal(b, slices.Concat(ahead, wanted(body))) || e != api.OK {
				t.Errorf("Put(%q, %d bytes) = %d bytes, %d", ahead, len(body), len(b), e)
			}
		}
	}
	if b, e := frame.Put([]byte("x"), nil); string(b) != "x\x00\x4e\x08\xbf\xb4" || e != api.OK {
		t.Errorf("Put(x, nil) = %x, %d", b, e)
	}
}

func TestPutGreatest(t *testing.T) { // P5.1: MaxFrame itself is allowed
	body := greatest()
	for _, n := range []int{api.MaxFrame - 1, api.MaxFrame} {
		if b, e := frame.Put([]byte("x"), body[:n]); !bytes.Equal(b, slices.Concat([]byte("x"), wanted(body[:n]))) || e != api.OK {
			t.Errorf("Put of %d bytes: %d bytes, %d", n, len(b), e)
		}
	}
}

func TestPutTooLong(t *testing.T) { // P5.1
	for _, n := range []int{api.MaxFrame + 1, api.MaxFrame + 2, 2 * api.MaxFrame, 3*api.MaxFrame + 7} {
		for _, ahead := range []string{"", "x", "ahead\x00\xff"} {
			if b, e := frame.Put([]byte(ahead), make([]byte, n)); string(b) != ahead || e != api.ErrLong {
				t.Errorf("Put(%q, %d bytes) = %d bytes, %d, not ErrLong", ahead, n, len(b), e)
			}
		}
	}
}

func TestSize(t *testing.T) { // P5.1
	for _, x := range []struct{ n, size int }{
		{math.MinInt, 0}, {-1 << 32, 0}, {-api.MaxFrame, 0}, {-5, 0}, {-1, 0},
		{0, 5}, {1, 6}, {62, 67}, {63, 68}, {64, 70}, {65, 71}, {255, 261}, {256, 262},
		{16383, 16389}, {16384, 16392}, {65536, 65544}, {api.MaxFrame - 1, api.MaxFrame + 7}, {api.MaxFrame, api.MaxFrame + 8},
		{api.MaxFrame + 1, 0}, {api.MaxFrame + 8, 0}, {1 << 30, 0}, {1 << 31, 0}, {1 << 32, 0}, {1<<32 + 1, 0}, {math.MaxInt, 0},
	} {
		if got := frame.Size(x.n); got != x.size {
			t.Errorf("Size(%d) = %d, not %d", x.n, got, x.size)
		}
	}
	for _, body := range append(bodies(), greatest()) {
		b, _ := frame.Put(nil, body)
		if got := frame.Size(len(body)); got != len(b) {
			t.Errorf("Size(%d) = %d, a frame has %d", len(body), got, len(b))
		}
	}
}

func TestTake(t *testing.T) { // P5.2: what is behind plays no part
	for _, behind := range [][]byte{nil, {0}, []byte("y"), []byte("\xff\xff\xff\xff\xff\xff\xff\xff\xff"), wanted([]byte("next")), {0x40}} {
		for _, want := range append(bodies(), greatest()) {
			body, rest, e := frame.Take(slices.Concat(wanted(want), behind))
			if !bytes.Equal(body, want) || !bytes.Equal(rest, behind) || e != api.OK {
				t.Errorf("Take of %d bytes, with %x behind: %d bytes, %x, %d", len(want), behind, len(body), rest, e)
			}
		}
	}
}

// wrong: bytes with which no frame begins, and what is told of them.
func wrong() map[api.Errno][][]byte {
	full := wanted([]byte("body"))
	long := slices.Concat(number(api.MaxFrame+1, 4), make([]byte, api.MaxFrame+1))
	return map[api.Errno][][]byte{
		api.ErrShort: {
			{}, {0x40}, {0x7f}, {0x80}, {0x80, 0, 0}, {0xc0}, {0xff, 0xff, 0xff, 0xff, 0xff, 0xff, 0xff},
			{0xc0, 0, 0, 0, 0, 0, 0}, // that the number ends is told ahead of its lesser size
			{0}, {1}, {63}, {0, 0x4e}, {0, 0x4e, 0x08, 0xbf}, {0, 0, 0, 0}, {4, 'b', 'o', 'd'}, full[:len(full)-1], full[:5],
			{1, 'b', 0, 0, 0}, // that it ends is told ahead of its sum
			number(64, 2), number(api.MaxFrame, 4), slices.Concat(number(api.MaxFrame, 4), full), {0x3f, 0x4e, 0x08, 0xbf, 0xb4},
		},
		api.ErrForm: {
			{0x40, 0}, {0x40, 0x3f}, {0x80, 0, 0, 1}, {0x80, 0, 0x3f, 0xff}, number(0, 8), number(1<<30-1, 8), number(api.MaxFrame+1, 8),
			summed(number(0, 2)), summed(number(0, 4)), summed(number(0, 8)), // of the right sum, too
			summed(append(number(2, 2), "ab"...)), summed(append(number(2, 8), "ab"...)),
		},
		api.ErrLong: {
			number(api.MaxFrame+1, 4), // that it is too long is told ahead of its end
			number(1<<30-1, 4), number(1<<30, 8), number(1<<31, 8), number(1<<32, 8), number(1<<32+2, 8), number(1<<61, 8), number(api.MaxNum, 8),
			summed(append(number(1<<32, 8), "ab"...)), summed(append(number(1<<32+2, 8), "ab"...)),
			long, summed(long), append(long, 1, 2, 3, 4), append(summed(long), 5),
		},
		api.ErrSum: {
			{0, 0, 0, 0, 0}, {0, 0xff, 0xff, 0xff, 0xff}, {0, 0x4e, 0x08, 0xbf, 0xb5}, {0, 0xce, 0x08, 0xbf, 0xb4}, {0, 0xb4, 0xbf, 0x08, 0x4e},
			{1, 'b', 0x7a, 0xca, 0x7e, 0x81}, {2, 'b', 'a', 0xa2, 0x0e, 0x42, 0x41},
			append([]byte{1}, summed([]byte("a"))...), // of the bytes, without their number
			{9, '1', '2', '3', '4', '5', '6', '7', '8', '9', 0x03, 0x76, 0xe6, 0xe7},
			append([]byte{3}, full[1:]...), append([]byte{0}, wanted(nil)...), append(full[:len(full)-4:len(full)-4], 0, 0, 0, 0, 0),
			{4, 'b', 'o', 'd', 'y', 0, 0, 0, 0}, {1, 0, 0x4e, 0x08, 0xbf, 0xb4},
		},
	}
}

func TestTakeWrong(t *testing.T) { // P5.2
	for want, l := range wrong() {
		for _, b := range l {
			if body, rest, e := frame.Take(b); len(body) != 0 || len(rest) != 0 || e != want {
				t.Errorf("Take(%.20x, of %d) = %.9x, %.9x, %d, not %d", b, len(b), body, rest, e, want)
			}
		}
	}
	if body, rest, e := frame.Take(nil); len(body) != 0 || len(rest) != 0 || e != api.ErrShort {
		t.Errorf("Take(nil) = %x, %x, %d", body, rest, e)
	}
}

func TestTakeKeepsToItsBytes(t *testing.T) { // P5.2: the spare room is not b
	b := wanted([]byte("body"))
	for i := range b {
		if body, rest, e := frame.Take(b[:i]); len(body) != 0 || len(rest) != 0 || e != api.ErrShort {
			t.Errorf("Take of the first %d: %x, %x, %d", i, body, rest, e)
		}
		if l, at, e := frame.Scan(b[:i]); len(l) != 0 || at != 0 || i > 0 && e != api.ErrShort || i == 0 && e != api.OK {
			t.Errorf("Scan of the first %d: %x, %d, %d", i, l, at, e)
		}
	}
}

func TestScan(t *testing.T) { // P5.3
	one, two := wanted([]byte("one")), wanted([]byte("two"))
	for _, x := range []struct {
		b  []byte
		l  [][]byte
		at int
		e  api.Errno
	}{
		{nil, nil, 0, api.OK},
		{[]byte{}, nil, 0, api.OK},
		{wanted(nil), [][]byte{nil}, 5, api.OK},
		{one, [][]byte{[]byte("one")}, 8, api.OK},
		{slices.Concat(one, two), [][]byte{[]byte("one"), []byte("two")}, 16, api.OK},
		{slices.Concat(two, wanted(nil), wanted(nil), one), [][]byte{[]byte("two"), nil, nil, []byte("one")}, 26, api.OK},
		{slices.Concat(one, []byte{0}), [][]byte{[]byte("one")}, 8, api.ErrShort},
		{slices.Concat(one, two[:7]), [][]byte{[]byte("one")}, 8, api.ErrShort},
		{slices.Concat(one, []byte{0, 0, 0, 0, 0}, two), [][]byte{[]byte("one")}, 8, api.ErrSum}, // frames behind are not told
		{slices.Concat(one, two, []byte{0x40, 0}, two), [][]byte{[]byte("one"), []byte("two")}, 16, api.ErrForm},
		{slices.Concat(one, number(api.MaxFrame+1, 4), two), [][]byte{[]byte("one")}, 8, api.ErrLong},
		{slices.Concat([]byte{0x40, 0}, one), nil, 0, api.ErrForm},
		{wanted(slices.Concat(one, two)), [][]byte{slices.Concat(one, two)}, 21, api.OK}, // a body is not looked into
	} {
		if l, at, e := frame.Scan(x.b); !alike(l, x.l) || at != x.at || e != x.e {
			t.Errorf("Scan(%x) = %q, %d, %d", x.b, l, at, e)
		}
	}
}

func TestScanStopsAsTakeDoes(t *testing.T) { // P5.3
	ahead := [][]byte{[]byte("one"), nil, bytes.Repeat([]byte("two"), 30)}
	all, ends := joined(ahead)
	for n := range len(ahead) + 1 {
		at := slices.Concat([]int{0}, ends)[n]
		for want, l := range wrong() {
			for _, b := range l {
				if len(b) == 0 {
					continue
				}
				got, place, e := frame.Scan(slices.Concat(all[:at], b))
				if !alike(got, ahead[:n]) || place != at || e != want {
					t.Errorf("Scan of %d frames and %.20x = %d frames, %d, %d, not %d", n, b, len(got), place, e, want)
				}
			}
		}
	}
}

func TestScanOfPut(t *testing.T) { // P5.4
	r := rand.New(rand.NewSource(3))
	lists := [][][]byte{bodies(), {greatest(), nil, greatest(), []byte("x")}}
	for range 200 {
		var l [][]byte
		for range r.Intn(40) {
			l = append(l, some(r, r.Intn(80)*r.Intn(5)))
		}
		lists = append(lists, l)
	}
	for _, l := range lists {
		var b []byte
		for _, body := range l {
			var e api.Errno
			if b, e = frame.Put(b, body); e != api.OK {
				t.Fatalf("Put of %d bytes: %d", len(body), e)
			}
		}
		if want, _ := joined(l); !bytes.Equal(b, want) {
			t.Fatalf("%d frames that were Put one behind the other are others", len(l))
		}
		if got, at, e := frame.Scan(b); !alike(got, l) || at != len(b) || e != api.OK {
			t.Fatalf("Scan of %d frames = %d frames, %d of %d, %d", len(l), len(got), at, len(b), e)
		}
	}
}

func TestTorn(t *testing.T) { // P5.5: of each beginning
	r := rand.New(rand.NewSource(4))
	for range 60 {
		var l [][]byte
		for range 1 + r.Intn(6) {
			l = append(l, some(r, r.Intn(70)))
		}
		b, ends := joined(l)
		for i := range len(b) + 1 {
			whole, at, want := 0, 0, api.ErrShort
			for whole < len(ends) && ends[whole] <= i {
				at = ends[whole]
				whole++
			}
			if at == i {
				want = api.OK
			}
			if got, place, e := frame.Scan(b[:i]); !alike(got, l[:whole]) || place != at || e != want {
				t.Fatalf("Scan of the first %d of %x = %x, %d, %d, not %d frames, %d, %d", i, b, got, place, e, whole, at, want)
			}
		}
	}
}

func TestTornGreat(t *testing.T) { // P5.5: of frames whose number has four bytes
	l := [][]byte{make([]byte, 1<<14), greatest()}
	b, ends := joined(l)
	for _, i := range []int{1, 2, 3, 4, 5, 1 << 14, ends[0] - 5, ends[0] - 4, ends[0] - 1, ends[0], ends[0] + 1, ends[0] + 3, ends[0] + 4, ends[0] + 70000, ends[1] - 5, ends[1] - 1} {
		whole, at, want := 0, 0, api.ErrShort
		if i >= ends[0] {
			whole, at = 1, ends[0]
		}
		if at == i {
			want = api.OK
		}
		if got, place, e := frame.Scan(b[:i]); !alike(got, l[:whole]) || place != at || e != want {
			t.Errorf("Scan of the first %d = %d frames, %d, %d", i, len(got), place, e)
		}
	}
}

func TestSpoiltBits(t *testing.T) { // P5.6: each burst of up to nine bits, at each place of each frame behind its number
	l := [][]byte{[]byte("first"), nil, []byte("a third one")}
	b, ends := joined(l)
	for k, body := range l {
		begin := (ends[k] - len(wanted(body)) + least(len(body))) * 8
		for at := begin; at < ends[k]*8; at++ {
			for pattern := uint32(1); pattern < 1<<min(9, at-begin+1); pattern += 2 {
				turn(b, at, pattern)
				if got, place, e := frame.Scan(b); !alike(got, l[:k]) || place != ends[k]-len(wanted(body)) || e != api.ErrSum {
					t.Fatalf("with the bits %b turned that end at %d: %q, %d, %d", pattern, at, got, place, e)
				}
				turn(b, at, pattern)
			}
		}
	}
	if got, at, e := frame.Scan(b); !alike(got, l) || at != len(b) || e != api.OK {
		t.Fatal("the test did not turn all bits back")
	}
}

func TestSpoiltBursts(t *testing.T) { // P5.6: up to 32 bits, those that begin or end in the sum, too
	r := rand.New(rand.NewSource(5))
	for range 400 {
		var l [][]byte
		for range 1 + r.Intn(5) {
			l = append(l, some(r, r.Intn(90)))
		}
		b, ends := joined(l)
		for range 60 {
			k := r.Intn(len(l))
			begin := (ends[k] - len(wanted(l[k])) + least(len(l[k]))) * 8
			at := begin + r.Intn(ends[k]*8-begin)
			pattern := r.Uint32()>>(32-1-r.Intn(min(32, at-begin+1))) | 1
			turn(b, at, pattern)
			if got, place, e := frame.Scan(b); !alike(got, l[:k]) || place != ends[k]-len(wanted(l[k])) || e != api.ErrSum {
				t.Fatalf("of %d frames, with the bits %b of frame %d turned that end at %d: %d frames, %d, %d", len(l), pattern, k, at, len(got), place, e)
			}
			turn(b, at, pattern)
		}
	}
}

func TestManyFrames(t *testing.T) { // they are read in one go: what is behind is not copied for each
	const many = 1 << 20
	b := bytes.Repeat(wanted(nil), many)
	l, at, e := frame.Scan(append(b, 0))
	if len(l) != many || at != len(b) || e != api.ErrShort {
		t.Error(len(l), at, e)
	}
}

// roomy: b with spare room behind it, and a look at whether that room, or b, was changed.
func roomy(b []byte) ([]byte, func(t *testing.T)) {
	all := append(slices.Clone(b), bytes.Repeat([]byte{0xa5}, 40)...)
	was := slices.Clone(all)
	return all[:len(b)], func(t *testing.T) {
		t.Helper()
		if !bytes.Equal(all, was) {
			t.Errorf("an argument, or its spare room, was changed: %x, was %x", all, was)
		}
	}
}

// spoil fills an answer, with its spare room.
func spoil(b []byte) {
	b = b[:cap(b)]
	for i := range b {
		b[i] ^= 0xff
	}
}

// copies answers lists like those of l, in memory of their own.
func copies(l [][]byte) [][]byte {
	var out [][]byte
	for _, b := range l {
		out = append(out, slices.Clone(b))
	}
	return out
}

// calls: each call, and the lists of bytes that it answers.
func calls() map[string]func(b []byte) [][]byte {
	return map[string]func(b []byte) [][]byte{
		"Put, of b as body":  func(b []byte) [][]byte { p, _ := frame.Put(nil, b); return [][]byte{p} },
		"Put, behind b":      func(b []byte) [][]byte { p, _ := frame.Put(b, []byte("more")); return [][]byte{p} },
		"Put, nothing, of b": func(b []byte) [][]byte { p, _ := frame.Put(b, nil); return [][]byte{p} },
		"Put, ErrLong": func(b []byte) [][]byte {
			p, _ := frame.Put(b, make([]byte, api.MaxFrame+1))
			return [][]byte{p}
		},
		"Take": func(b []byte) [][]byte { body, rest, _ := frame.Take(b); return [][]byte{body, rest} },
		"Scan": func(b []byte) [][]byte { l, _, _ := frame.Scan(b); return l },
	}
}

func TestMemory(t *testing.T) { // DOC.md, Memory: arguments are not changed; an answer's lists share none with them, nor with one another
	three, _ := joined([][]byte{[]byte("one"), nil, []byte("three")})
	for name, call := range calls() {
		for _, given := range [][]byte{nil, wanted(nil), three, append(three, "and more"...), three[:len(three)-1], []byte("\x00none")} {
			t.Run(name, func(t *testing.T) {
				b, unchanged := roomy(given)
				first := call(b)
				was := copies(first)
				second := call(b)
				for i := range second {
					spoil(second[i])
					for j := i + 1; j < len(second); j++ {
						if !bytes.Equal(second[j], was[j]) {
							t.Errorf("of %x: the lists %d and %d of an answer share memory", given, i, j)
						}
					}
				}
				unchanged(t)
				for i := len(first) - 1; i >= 0; i-- {
					spoil(first[i])
					if !alike(first[:i], was[:i]) {
						t.Errorf("of %x: the list %d of an answer shares memory with those ahead", given, i)
					}
				}
				unchanged(t)
				third := call(b)
				spoil(b)
				if !alike(third, was) {
					t.Errorf("of %x: an answer shares memory with its argument", given)
				}
			})
		}
	}
}

func TestBodyStays(t *testing.T) { // DOC.md, Memory: of both arguments of Put at once
	ahead, first := roomy([]byte("ahead"))
	body, second := roomy([]byte("body"))
	b, _ := frame.Put(ahead, body)
	spoil(b)
	first(t)
	second(t)
}

func FuzzScan(f *testing.F) { // P5.2, P5.3 of whatever bytes: Scan goes as Take does, and what was told is Put back
	for _, b := range [][]byte{nil, wanted(nil), slices.Concat(wanted([]byte("ab")), wanted(nil), []byte{0x40, 0}), number(api.MaxNum, 8)} {
		f.Add(b)
	}
	f.Fuzz(func(t *testing.T, b []byte) {
		l, at, e := frame.Scan(b)
		left := b
		var back []byte
		for _, want := range l {
			body, rest, e := frame.Take(left)
			if e != api.OK || !bytes.Equal(body, want) || !bytes.HasSuffix(b, rest) {
				t.Fatalf("Take(%x) = %x, %x, %d; Scan has %x", left, body, rest, e, want)
			}
			left = rest
			if back, e = frame.Put(back, body); e != api.OK {
				t.Fatalf("Put(%x) = %d", body, e)
			}
		}
		if at != len(b)-len(left) || !bytes.Equal(back, b[:at]) {
			t.Fatalf("Scan(%x) ends at %d, Put back: %x", b, at, back)
		}
		if _, _, end := frame.Take(left); len(left) == 0 && e != api.OK || len(left) > 0 && e != end {
			t.Fatalf("Scan(%x) = %d, Take there %d", b, e, end)
		}
	})
}
