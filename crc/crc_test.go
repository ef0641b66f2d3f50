package crc_test

import (
	"bytes"
	"hash/crc32"
	"math"
	"math/bits"
	"math/rand"
	"slices"
	"testing"

	"suffragan/crc"
)

// bitwise: Go as P2.1 says it, bit by bit.
func bitwise(s uint32, b []byte) uint32 {
	for _, c := range b {
		s = s&0x00ffffff | (s>>24^uint32(c))<<24
		for range 8 {
			highest := s >= 1<<31
			s *= 2
			if highest {
				s ^= 0x04c11db7
			}
		}
	}
	return s
}

// mirrored: Go by the library's sums, which take the lowest bit of each byte first and turn the whole at both ends.
func mirrored(s uint32, b []byte) uint32 {
	l := slices.Clone(b)
	for i := range l {
		l[i] = bits.Reverse8(l[i])
	}
	return bits.Reverse32(^crc32.Update(^bits.Reverse32(s), crc32.IEEETable, l))
}

// starts: sums to go on from.
func starts(r *rand.Rand) []uint32 {
	l := []uint32{0, 1, 0x04c11db7, 0x0fffffff, 0x10000000, 0x7fffffff, 0x80000000, 0xf0000000, 0xfffffffe, 0xffffffff}
	for range 10 {
		l = append(l, r.Uint32())
	}
	return l
}

// some answers n bytes by chance.
func some(r *rand.Rand, n int) []byte {
	b := make([]byte, n)
	r.Read(b)
	return b
}

// good answers b with its sum behind it.
func good(b []byte) []byte {
	return slices.Concat(b, crc.Bytes(crc.Sum(b)))
}

// turn turns those bits of b, in place, that are 1 in pattern, whose lowest bit falls on bit at (each byte's highest bit first) and whose others fall ahead of it.
func turn(b []byte, at int, pattern uint32) {
	for ; pattern != 0; pattern >>= 1 {
		if pattern&1 == 1 {
			b[at/8] ^= 0x80 >> (at % 8)
		}
		at--
	}
}

func TestExamples(t *testing.T) { // P2.1, the chapter's examples
	for _, x := range []struct {
		text string
		sum  uint32
	}{{"123456789", 0x0376e6e7}, {"", 0xffffffff}} {
		if got := crc.Sum([]byte(x.text)); got != x.sum {
			t.Errorf("Sum(%q) = %08x, want %08x", x.text, got, x.sum)
		}
	}
	if got := crc.Sum(nil); got != 0xffffffff {
		t.Errorf("Sum(nil) = %08x", got)
	}
}

func TestGoByHand(t *testing.T) { // P2.1
	for _, x := range []struct {
		s    uint32
		b    []byte
		want uint32
	}{
		{0, nil, 0},
		{0x12345678, nil, 0x12345678},
		{0x12345678, []byte{}, 0x12345678},
		{0, []byte{0}, 0},
		{0, []byte{1}, 0x04c11db7},             // the 1 leaves at the eighth step
		{0, []byte{2}, 0x09823b6e},             // at the seventh: the divisor twice
		{1, []byte{0}, 0x100},                  // no 1 gets to the top
		{0x00ffffff, []byte{0}, 0xffffff00},    // nor here
		{0x01000000, []byte{1}, 0},             // the byte and the top are the same
		{0xff000000, []byte{0xff}, 0},          // here too
		{0xabcdef01, []byte{0xab}, 0xcdef0100}, // the rest moves up by a byte
		{0x01000000, []byte{0}, 0x04c11db7},
		{0, []byte{1, 4}, 0xc11db700},
	} {
		if got := crc.Go(x.s, x.b); got != x.want {
			t.Errorf("Go(%08x, %x) = %08x, want %08x", x.s, x.b, got, x.want)
		}
	}
}

func TestGoOfEachByte(t *testing.T) { // P2.1
	for _, s := range starts(rand.New(rand.NewSource(1))) {
		for c := range 256 {
			b := []byte{byte(c)}
			if got, want := crc.Go(s, b), bitwise(s, b); got != want {
				t.Fatalf("Go(%08x, %x) = %08x, want %08x", s, b, got, want)
			}
		}
	}
}

func TestGoOfEachTop(t *testing.T) { // P2.1
	for top := range uint32(256) {
		for _, rest := range []uint32{0, 0x00ffffff, 0x00a5c3e1} {
			s := top<<24 | rest
			if got, want := crc.Go(s, []byte{0x5a, 0}), bitwise(s, []byte{0x5a, 0}); got != want {
				t.Fatalf("Go(%08x, 5a00) = %08x, want %08x", s, got, want)
			}
		}
	}
}

func TestGoOfMany(t *testing.T) { // P2.1
	r := rand.New(rand.NewSource(2))
	lengths := []int{1023, 1024, 1025, 65537, 1 << 20}
	for n := range 70 {
		lengths = append(lengths, n)
	}
	for _, n := range lengths {
		b := some(r, n)
		for _, s := range []uint32{0, 0xffffffff, r.Uint32()} {
			got, want := crc.Go(s, b), bitwise(s, b)
			if other := mirrored(s, b); other != want {
				t.Fatalf("the test's own two ways differ: %08x, %08x", want, other)
			}
			if got != want {
				t.Fatalf("Go(%08x, %d bytes) = %08x, want %08x", s, n, got, want)
			}
		}
		if got, want := crc.Sum(b), bitwise(0xffffffff, b); got != want {
			t.Fatalf("Sum(%d bytes) = %08x, want %08x", n, got, want)
		}
	}
}

func TestBytes(t *testing.T) { // P2.2
	for _, x := range []struct {
		s    uint32
		want []byte
	}{
		{0, []byte{0, 0, 0, 0}},
		{1, []byte{0, 0, 0, 1}},
		{0x0376e6e7, []byte{0x03, 0x76, 0xe6, 0xe7}},
		{0x01020304, []byte{1, 2, 3, 4}},
		{0x80000000, []byte{0x80, 0, 0, 0}},
		{math.MaxUint32, []byte{0xff, 0xff, 0xff, 0xff}},
	} {
		if got := crc.Bytes(x.s); !bytes.Equal(got, x.want) {
			t.Errorf("Bytes(%08x) = %x, want %x", x.s, got, x.want)
		}
	}
}

func TestBytesAreNew(t *testing.T) { // DOC.md, Memory
	one, two := crc.Bytes(7), crc.Bytes(7)
	for i := range one[:cap(one)] {
		one[:cap(one)][i] = 0xee
	}
	if !bytes.Equal(two, []byte{0, 0, 0, 7}) || !bytes.Equal(crc.Bytes(7), []byte{0, 0, 0, 7}) {
		t.Errorf("two answers share memory: %x", two)
	}
}

func TestOf(t *testing.T) { // P2.2
	for _, x := range []struct {
		b     []byte
		want  uint32
		there bool
	}{
		{nil, 0, false},
		{[]byte{}, 0, false},
		{[]byte{1}, 0, false},
		{[]byte{1, 2}, 0, false},
		{[]byte{1, 2, 3}, 0, false},
		{[]byte{0xff, 0xff, 0xff}, 0, false},
		{[]byte{1, 2, 3, 4}, 0x01020304, true},
		{[]byte{0, 0, 0, 0}, 0, true},
		{[]byte{0xff, 0xfe, 0xfd, 0xfc}, 0xfffefdfc, true},
		{[]byte{1, 2, 3, 4, 5}, 0x02030405, true},
		{[]byte{9, 9, 9, 9, 9, 9, 9, 0x80, 0, 0, 1}, 0x80000001, true},
	} {
		if got, there := crc.Of(x.b); got != x.want || there != x.there {
			t.Errorf("Of(%x) = %08x, %t, want %08x, %t", x.b, got, there, x.want, x.there)
		}
	}
	// What lies in the spare room is not b.
	if got, there := crc.Of([]byte{1, 2, 3, 4, 5}[:3]); got != 0 || there {
		t.Errorf("Of of three bytes with room behind = %08x, %t", got, there)
	}
}

func TestOfReadsBytes(t *testing.T) { // P2.2
	r := rand.New(rand.NewSource(3))
	for _, s := range starts(r) {
		for n := range 9 {
			if got, there := crc.Of(append(some(r, n), crc.Bytes(s)...)); got != s || !there {
				t.Errorf("Of(%d bytes, Bytes(%08x)) = %08x, %t", n, s, got, there)
			}
		}
	}
}

func TestGood(t *testing.T) { // P2.2
	for _, x := range []struct {
		b    []byte
		want bool
	}{
		{nil, false},
		{[]byte{}, false},
		{[]byte{0xff}, false},
		{[]byte{0xff, 0xff}, false},
		{[]byte{0xff, 0xff, 0xff}, false},
		{[]byte{0xff, 0xff, 0xff, 0xff}, true}, // no bytes, and their sum
		{[]byte{0, 0, 0, 0}, false},            // the sum of no bytes is not 0
		{[]byte{0xff, 0xff, 0xff, 0xfe}, false},
		{[]byte{0xff, 0xff, 0xff, 0xff, 0xff}, false},
		{append([]byte("123456789"), 0x03, 0x76, 0xe6, 0xe7), true},
		{append([]byte("123456789"), 0xe7, 0xe6, 0x76, 0x03), false}, // the lowest first
		{append([]byte("123456789"), 0x03, 0x76, 0xe6), false},
		{append([]byte("123456789"), 0x03, 0x76, 0xe6, 0xe7, 0x01), false},
		{append([]byte("123456789"), 0x03, 0x76, 0xe6, 0xe7, 0x00), true}, // by P2.2 noughts behind do no harm: a sum of 0 stays so
		{append([]byte("12345678"), 0x03, 0x76, 0xe6, 0xe7), false},
		{[]byte{0x03, 0x76, 0xe6, 0xe7, '1', '2', '3', '4', '5', '6', '7', '8', '9'}, false}, // the sum ahead
	} {
		if got := crc.Good(x.b); got != x.want {
			t.Errorf("Good(%x) = %t", x.b, got)
		}
	}
	if crc.Good(good([]byte("ab"))[:3]) {
		t.Error("three bytes are Good with what lies in the spare room")
	}
}

func TestGoodIsOfAndSum(t *testing.T) { // P2.2
	r := rand.New(rand.NewSource(4))
	for range 5000 {
		b := some(r, 4+r.Intn(20))
		if r.Intn(2) == 0 {
			b = good(b)
		}
		last := len(b) - 4
		if want := bytes.Equal(b[last:], crc.Bytes(bitwise(0xffffffff, b[:last]))); crc.Good(b) != want {
			t.Fatalf("Good(%x) = %t", b, !want)
		}
	}
}

func TestArgumentsStay(t *testing.T) { // DOC.md, Memory
	all := append(good([]byte("some bytes")), 1, 2, 3, 4, 5, 6, 7, 8)
	was := slices.Clone(all)
	b := all[:14]
	crc.Sum(b)
	crc.Go(1, b)
	crc.Of(b)
	if !crc.Good(b) {
		t.Errorf("Good(%x) = false", b)
	}
	if !bytes.Equal(all, was) {
		t.Errorf("an argument, or its spare room, was changed: %x, was %x", all, was)
	}
}

func TestJoined(t *testing.T) { // P2.3
	r := rand.New(rand.NewSource(5))
	for _, s := range starts(r) {
		b := some(r, 1+r.Intn(40))
		whole := crc.Go(s, b)
		for i := range len(b) + 1 {
			if got := crc.Go(crc.Go(s, b[:i]), b[i:]); got != whole {
				t.Errorf("Go of %x, and then of %x, from %08x = %08x, of both %08x", b[:i], b[i:], s, got, whole)
			}
		}
	}
	if got := crc.Go(crc.Sum([]byte("1234")), []byte("56789")); got != 0x0376e6e7 {
		t.Errorf("Go on from Sum(1234) = %08x", got)
	}
}

func TestXor(t *testing.T) { // P2.3
	r := rand.New(rand.NewSource(6))
	for n := range 40 {
		b, noughts := some(r, n), make([]byte, n)
		for _, s := range starts(r) {
			for _, u := range starts(r) {
				if got, want := crc.Go(s^u, b), crc.Go(s, noughts)^crc.Go(u, b); got != want {
					t.Fatalf("Go(%08x xor %08x, %x) = %08x, want %08x", s, u, b, got, want)
				}
			}
		}
	}
}

func TestShortBursts(t *testing.T) { // P2.4: each burst of up to eleven bits, at each place
	b := good([]byte("a few bytes"))
	for at := range len(b) * 8 {
		for pattern := uint32(1); pattern < 1<<11; pattern += 2 {
			if bits.Len32(pattern) > at+1 {
				break
			}
			turn(b, at, pattern)
			if crc.Good(b) {
				t.Fatalf("%x is Good, with the bits %b turned that end at %d", b, pattern, at)
			}
			turn(b, at, pattern)
		}
	}
	if !crc.Good(b) {
		t.Fatal("the test did not turn all bits back")
	}
}

func TestLongBursts(t *testing.T) { // P2.4: up to 32 bits, at each place; those that begin or end in the sum, too
	r := rand.New(rand.NewSource(7))
	for n := range 30 {
		b := good(some(r, n))
		for at := range len(b) * 8 {
			for range 40 {
				width := 1 + r.Intn(min(32, at+1))
				pattern := r.Uint32()>>(32-width) | 1 | 1<<(width-1)
				turn(b, at, pattern)
				if crc.Good(b) {
					t.Fatalf("%x is Good, with the bits %b turned that end at %d", b, pattern, at)
				}
				turn(b, at, pattern)
			}
		}
	}
}

func TestLongestBurst(t *testing.T) { // P2.4: 33 bits in a row can be missed, so its bound is met
	b := good([]byte("0123456789"))
	turn(b, 50, 0x04c11db7)
	if crc.Good(b) {
		t.Error("bytes are Good that differ by the divisor without its highest bit")
	}
	turn(b, 50-32, 1)
	if !crc.Good(b) {
		t.Error("bytes are not Good that differ by just the divisor, of 33 bits")
	}
}

func TestNought(t *testing.T) { // P2.5
	r := rand.New(rand.NewSource(8))
	for n := range 300 {
		for _, b := range [][]byte{some(r, n), make([]byte, n), bytes.Repeat([]byte{0xff}, n)} {
			all := good(b)
			if !crc.Good(all) {
				t.Errorf("%x and its sum are not Good", b)
			}
			if got := crc.Sum(all); got != 0 {
				t.Errorf("Sum of %x and its sum = %08x", b, got)
			}
		}
	}
	if got := crc.Sum([]byte{0xff, 0xff, 0xff, 0xff}); got != 0 {
		t.Errorf("Sum of the sum of nothing = %08x", got)
	}
}

func FuzzGood(f *testing.F) { // P2.1, P2.2, P2.3, P2.5 of whatever bytes
	f.Add(uint32(0), []byte(nil), 0)
	f.Add(uint32(0xffffffff), []byte("123456789"), 4)
	f.Add(uint32(0x04c11db7), good([]byte("good")), 6)
	f.Fuzz(func(t *testing.T, s uint32, b []byte, cut int) {
		want := bitwise(s, b)
		if got := crc.Go(s, b); got != want {
			t.Fatalf("Go(%08x, %x) = %08x, want %08x", s, b, got, want)
		}
		if cut >= 0 && cut <= len(b) && crc.Go(crc.Go(s, b[:cut]), b[cut:]) != want {
			t.Fatalf("Go of %x in two pieces, cut at %d, is not Go of the whole", b, cut)
		}
		if _, there := crc.Of(b); there != (len(b) >= 4) || crc.Good(b) && !there {
			t.Fatalf("Of(%x) = %t", b, there)
		}
		if all := good(b); !crc.Good(all) || crc.Sum(all) != 0 {
			t.Fatalf("%x is not Good, or its sum is not 0", all)
		}
	})
}
