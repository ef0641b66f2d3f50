package sha_test

import (
	"bytes"
	"crypto/sha256"
	"encoding/binary"
	"encoding/hex"
	"math/big"
	"math/rand"
	"slices"
	"strings"
	"testing"

	"suffragan/api"
	"suffragan/sha"
)

// some answers n bytes by chance.
func some(r *rand.Rand, n int) []byte {
	b := make([]byte, n)
	r.Read(b)
	return b
}

// sumOf answers the sum whose digits those are, blanks passed over.
func sumOf(t *testing.T, digits string) api.Sum {
	t.Helper()
	b, err := hex.DecodeString(strings.ReplaceAll(digits, " ", ""))
	if err != nil || len(b) != len(api.Sum{}) {
		t.Fatalf("the test's own digits are none: %s", digits)
	}
	return api.Sum(b)
}

// written answers the hash of all those pieces, one Write each.
func written(pieces ...[]byte) api.Sum {
	h := sha.New()
	for _, b := range pieces {
		h.Write(b)
	}
	return h.Sum()
}

// fraction answers the first 32 bits behind the point of the k-th root of p.
func fraction(p int64, k int) uint32 {
	n := new(big.Int).Lsh(big.NewInt(p), uint(32*k))
	low, high := big.NewInt(0), new(big.Int).Lsh(big.NewInt(1), 64)
	for one := big.NewInt(1); new(big.Int).Sub(high, low).Cmp(one) > 0; {
		mid := new(big.Int).Rsh(new(big.Int).Add(low, high), 1)
		if new(big.Int).Exp(mid, big.NewInt(int64(k)), nil).Cmp(n) <= 0 {
			low = mid
		} else {
			high = mid
		}
	}
	return uint32(low.Uint64())
}

// primes answers the first n.
func primes(n int) []int64 {
	var l []int64
	for p := int64(2); len(l) < n; p++ {
		if !slices.ContainsFunc(l, func(q int64) bool { return p%q == 0 }) {
			l = append(l, p)
		}
	}
	return l
}

// bitwise: the hash as P3.1 says it, bits as a text of 0 and 1, constants from the primes.
func bitwise(b []byte) api.Sum {
	var text strings.Builder
	for _, c := range b {
		for i := 7; i >= 0; i-- {
			text.WriteByte('0' + c>>i&1)
		}
	}
	bits := text.String() + "1"
	for len(bits)%512 != 512-64 {
		bits += "0"
	}
	length := new(big.Int).Mul(big.NewInt(int64(len(b))), big.NewInt(8)).Text(2)
	bits += strings.Repeat("0", 64-len(length)) + length
	all := primes(64)
	var words []uint32
	for _, p := range all[:8] {
		words = append(words, fraction(p, 2))
	}
	for ; bits != ""; bits = bits[512:] {
		words = bitwiseBlock(words, bits[:512], all)
	}
	var s []byte
	for _, w := range words {
		s = binary.BigEndian.AppendUint32(s, w)
	}
	return api.Sum(s)
}

// bitwiseBlock: P3.1's block.
func bitwiseBlock(words []uint32, bits string, all []int64) []uint32 {
	turn := func(x uint32, n int) uint32 { return x>>n | x<<(32-n) }
	w := make([]uint32, 64)
	for i := range 512 {
		w[i/32] = w[i/32]*2 + uint32(bits[i]-'0')
	}
	for i := 16; i < 64; i++ {
		s0 := turn(w[i-15], 7) ^ turn(w[i-15], 18) ^ w[i-15]>>3
		s1 := turn(w[i-2], 17) ^ turn(w[i-2], 19) ^ w[i-2]>>10
		w[i] = w[i-16] + s0 + w[i-7] + s1
	}
	a, b, c, d, e, f, g, h := words[0], words[1], words[2], words[3], words[4], words[5], words[6], words[7]
	for i := range 64 {
		t1 := h + (turn(e, 6) ^ turn(e, 11) ^ turn(e, 25)) + (e&f ^ ^e&g) + fraction(all[i], 3) + w[i]
		t2 := (turn(a, 2) ^ turn(a, 13) ^ turn(a, 22)) + (a&b ^ a&c ^ b&c)
		h, g, f, e, d, c, b, a = g, f, e, d+t1, c, b, a, t1+t2
	}
	return []uint32{words[0] + a, words[1] + b, words[2] + c, words[3] + d, words[4] + e, words[5] + f, words[6] + g, words[7] + h}
}

func TestExample(t *testing.T) { // P3.1, the chapter's example
	want := sumOf(t, "ba7816bf 8f01cfea 414140de 5dae2223 b00361a3 96177a9c b410ff61 f20015ad")
	if got := sha.Sum([]byte("abc")); got != want {
		t.Errorf("Sum(abc) = %x, want %x", got, want)
	}
	if got := written([]byte("abc")); got != want {
		t.Errorf("Write(abc), Sum() = %x, want %x", got, want)
	}
}

func TestKnown(t *testing.T) { // P3.1, FIPS 180-4's own examples
	for _, x := range []struct{ text, sum string }{
		{"", "e3b0c442 98fc1c14 9afbf4c8 996fb924 27ae41e4 649b934c a495991b 7852b855"},
		{"abcdbcdecdefdefgefghfghighijhijkijkljklmklmnlmnomnopnopq", "248d6a61 d20638b8 e5c02693 0c3e6039 a33ce459 64ff2167 f6ecedd4 19db06c1"},
		{"abcdefghbcdefghicdefghijdefghijkefghijklfghijklmghijklmnhijklmnoijklmnopjklmnopqklmnopqrlmnopqrsmnopqrstnopqrstu", "cf5b16a7 78af8380 036ce59e 7b049237 0b249b11 e8f07a51 afac4503 7afee9d1"},
		{strings.Repeat("a", 1000000), "cdc76e5c 9914fb92 81a1c7e2 84d73e67 f1809a48 a497200e 046d39cc c7112cd0"},
	} {
		if got, want := sha.Sum([]byte(x.text)), sumOf(t, x.sum); got != want {
			t.Errorf("Sum of %d bytes = %x, want %x", len(x.text), got, want)
		}
	}
	if got, want := sha.Sum(nil), sha.Sum([]byte{}); got != want {
		t.Errorf("Sum(nil) = %x, of an empty list %x", got, want)
	}
}

func TestAsTheChapterSays(t *testing.T) { // P3.1, word by word
	r := rand.New(rand.NewSource(1))
	for _, n := range []int{0, 1, 3, 54, 55, 56, 57, 63, 64, 65, 118, 119, 120, 121, 127, 128, 129, 200} {
		b := some(r, n)
		want := bitwise(b)
		if other := api.Sum(sha256.Sum256(b)); other != want {
			t.Fatalf("the test's own two ways differ: %x, %x", want, other)
		}
		if got := sha.Sum(b); got != want {
			t.Errorf("Sum(%x) = %x, want %x", b, got, want)
		}
	}
}

func TestEachLength(t *testing.T) { // P3.1: all that the last block can hold, and what goes over
	r := rand.New(rand.NewSource(2))
	lengths := []int{511, 512, 513, 1023, 4096, 8191, 8192, 65535, 65536, 1<<20 + 1}
	for n := range 400 {
		lengths = append(lengths, n)
	}
	for _, n := range lengths {
		for i, b := range [][]byte{some(r, n), make([]byte, n), bytes.Repeat([]byte{0xff}, n), bytes.Repeat([]byte{0x80}, n)} {
			if got, want := sha.Sum(b), api.Sum(sha256.Sum256(b)); got != want {
				t.Errorf("Sum of %d bytes (%d) = %x, want %x", n, i, got, want)
			}
		}
	}
}

func TestEachBit(t *testing.T) { // P3.1: no bit is passed over
	b := some(rand.New(rand.NewSource(3)), 130)
	seen := map[api.Sum]int{sha.Sum(b): -1}
	for i := range len(b) * 8 {
		b[i/8] ^= 0x80 >> (i % 8)
		got := sha.Sum(b)
		if want := api.Sum(sha256.Sum256(b)); got != want {
			t.Errorf("Sum(%x) = %x, want %x", b, got, want)
		}
		if other, there := seen[got]; there {
			t.Errorf("the bits %d and %d turned: one hash", i, other)
		}
		seen[got] = i
		b[i/8] ^= 0x80 >> (i % 8)
	}
}

func TestManyBits(t *testing.T) { // P3.1: how many bits there were has 64 bits, not 32
	t.Parallel()
	chunk := bytes.Repeat([]byte("0123456789abcdef"), 1<<16)
	h, want := sha.New(), sha256.New()
	for range 1<<9 + 1 {
		h.Write(chunk)
		want.Write(chunk)
	}
	if got := h.Sum(); got != api.Sum(want.Sum(nil)) {
		t.Errorf("Sum of 2^32 bits and more = %x, want %x", got, want.Sum(nil))
	}
}

func TestNew(t *testing.T) { // P3.2
	if got, want := sha.New().Sum(), sha.Sum(nil); got != want {
		t.Errorf("New().Sum() = %x, want %x", got, want)
	}
	sha.New().Write([]byte("what another one was told"))
	if got, want := sha.New().Sum(), sha.Sum(nil); got != want {
		t.Errorf("New().Sum() behind another one's Write = %x, want %x", got, want)
	}
}

func TestWriteOn(t *testing.T) { // P3.2: Sum is asked at each length, often, and does no harm
	b := some(rand.New(rand.NewSource(4)), 300)
	h := sha.New()
	for i := range b {
		for range 2 {
			if got, want := h.Sum(), api.Sum(sha256.Sum256(b[:i])); got != want {
				t.Fatalf("Sum behind %d bytes = %x, want %x", i, got, want)
			}
		}
		h.Write(b[i : i+1])
	}
	if got, want := h.Sum(), api.Sum(sha256.Sum256(b)); got != want {
		t.Errorf("Sum behind all = %x, want %x", got, want)
	}
}

func TestSumThenMore(t *testing.T) { // P3.2: one may Write on, by any lengths
	for n := range 140 {
		for _, more := range []int{0, 1, 7, 8, 9, 55, 56, 63, 64, 65, 128} {
			b := some(rand.New(rand.NewSource(int64(n))), n+more)
			h := sha.New()
			h.Write(b[:n])
			first := h.Sum()
			h.Write(b[n:])
			if got, want := h.Sum(), api.Sum(sha256.Sum256(b)); got != want {
				t.Errorf("%d bytes, Sum, %d bytes, Sum = %x, want %x", n, more, got, want)
			}
			if want := api.Sum(sha256.Sum256(b[:n])); first != want {
				t.Errorf("%d bytes, Sum = %x, want %x", n, first, want)
			}
		}
	}
}

func TestWriteNothing(t *testing.T) { // P3.2
	b := some(rand.New(rand.NewSource(5)), 200)
	for _, n := range []int{0, 1, 55, 56, 63, 64, 65, 128, 200} {
		h := sha.New()
		h.Write(nil)
		h.Write(b[:n])
		h.Write([]byte{})
		h.Write(nil)
		if got, want := h.Sum(), sha.Sum(b[:n]); got != want {
			t.Errorf("%d bytes, and Writes of nothing: %x, want %x", n, got, want)
		}
	}
}

func TestZeroValue(t *testing.T) { // DOC.md, Ends: what it answers is open, but nothing panics
	var h sha.Hash
	h.Sum()
	h.Write(make([]byte, 200))
	h.Sum()
}

func TestJoin(t *testing.T) { // P3.3
	r := rand.New(rand.NewSource(6))
	for n := range 70 {
		var l []api.Sum
		var all []byte
		for range n {
			s := api.Sum(some(r, 32))
			l = append(l, s)
			all = append(all, s[:]...)
		}
		was := slices.Clone(l)
		if got, want := sha.Join(l), api.Sum(sha256.Sum256(all)); got != want {
			t.Errorf("Join of %d sums = %x, want %x", n, got, want)
		}
		if !slices.Equal(l, was) {
			t.Errorf("Join changed its argument")
		}
	}
	if got, want := sha.Join([]api.Sum{}), sha.Sum(nil); got != want || sha.Join(nil) != want {
		t.Errorf("Join of none = %x, want %x", got, want)
	}
}

func TestJoinByHand(t *testing.T) { // P3.3
	a, b := sha.Sum([]byte("a")), sha.Sum([]byte("b"))
	if got, want := sha.Join([]api.Sum{a}), sha.Sum(a[:]); got != want || got == a {
		t.Errorf("Join of one = %x, want %x", got, want)
	}
	both := slices.Concat(a[:], b[:])
	if got, want := sha.Join([]api.Sum{a, b}), sha.Sum(both); got != want {
		t.Errorf("Join of two = %x, want %x", got, want)
	}
	if sha.Join([]api.Sum{a, b}) == sha.Join([]api.Sum{b, a}) {
		t.Error("Join does not hang on the order")
	}
	if sha.Join([]api.Sum{a, b}[:1]) != sha.Join([]api.Sum{a}) {
		t.Error("Join reads the spare room")
	}
	if got, want := sha.Join(make([]api.Sum, 2)), sha.Sum(make([]byte, 64)); got != want {
		t.Errorf("Join of noughts = %x, want %x", got, want)
	}
}

func TestHex(t *testing.T) { // P3.3
	if got, want := sha.Hex(sha.Sum([]byte("abc"))), "ba7816bf8f01cfea414140de5dae2223b00361a396177a9cb410ff61f20015ad"; got != want {
		t.Errorf("Hex(Sum(abc)) = %s, want %s", got, want)
	}
	if got, want := sha.Hex(api.Sum{}), strings.Repeat("0", 64); got != want {
		t.Errorf("Hex of noughts = %s", got)
	}
	for c := range 256 {
		for at := range len(api.Sum{}) {
			var s api.Sum
			s[at] = byte(c)
			if got, want := sha.Hex(s), hex.EncodeToString(s[:]); got != want {
				t.Fatalf("Hex(%x) = %s", s, got)
			}
		}
	}
}

func TestTwoParts(t *testing.T) { // P3.4: each place of one cut
	r := rand.New(rand.NewSource(7))
	for _, n := range []int{1, 2, 55, 56, 63, 64, 65, 119, 120, 127, 128, 129, 192, 260} {
		b := some(r, n)
		want := sha.Sum(b)
		for i := range n + 1 {
			if got := written(b[:i], b[i:]); got != want {
				t.Errorf("%d bytes, cut at %d: %x, want %x", n, i, got, want)
			}
		}
	}
}

func TestThreeParts(t *testing.T) { // P3.4: each two places
	b := some(rand.New(rand.NewSource(8)), 150)
	want := sha.Sum(b)
	for i := range len(b) + 1 {
		for j := i; j <= len(b); j++ {
			if got := written(b[:i], b[i:j], b[j:]); got != want {
				t.Fatalf("cut at %d and %d: %x, want %x", i, j, got, want)
			}
		}
	}
}

func TestManyParts(t *testing.T) { // P3.4
	r := rand.New(rand.NewSource(9))
	for range 500 {
		b := some(r, r.Intn(3000))
		most := 1 + r.Intn(200)
		h := sha.New()
		for rest := b; len(rest) > 0; {
			n := min(len(rest), r.Intn(most+1))
			h.Write(rest[:n])
			rest = rest[n:]
			if r.Intn(5) == 0 {
				h.Sum()
			}
		}
		if got, want := h.Sum(), api.Sum(sha256.Sum256(b)); got != want {
			t.Fatalf("%d bytes in parts of at most %d: %x, want %x", len(b), most, got, want)
		}
	}
}

func TestApart(t *testing.T) { // P3.5: turn by turn
	r := rand.New(rand.NewSource(10))
	hashes := make([]*sha.Hash, 5)
	all := make([][]byte, len(hashes))
	for i := range hashes {
		hashes[i] = sha.New()
	}
	for range 400 {
		i := r.Intn(len(hashes))
		b := some(r, r.Intn(100))
		hashes[i].Write(b)
		all[i] = append(all[i], b...)
		sha.Sum(b)
		for j, h := range hashes {
			if got, want := h.Sum(), api.Sum(sha256.Sum256(all[j])); got != want {
				t.Fatalf("of hash %d, when %d was written to: %x, want %x", j, i, got, want)
			}
		}
	}
}

func TestCopiesAreApart(t *testing.T) { // P3.5
	h := sha.New()
	h.Write([]byte("both of them"))
	other := *h
	h.Write([]byte(", and the one"))
	other.Write(bytes.Repeat([]byte{'x'}, 100))
	if got, want := h.Sum(), sha.Sum([]byte("both of them, and the one")); got != want {
		t.Errorf("the one = %x, want %x", got, want)
	}
	if got, want := other.Sum(), sha.Sum([]byte("both of them"+strings.Repeat("x", 100))); got != want {
		t.Errorf("the other one = %x, want %x", got, want)
	}
}

func TestWhatIsWrittenIsNotKept(t *testing.T) { // DOC.md, Memory
	for _, n := range []int{1, 63, 64, 65, 200} {
		b := some(rand.New(rand.NewSource(11)), n)
		want := sha.Sum(b)
		h := sha.New()
		h.Write(b)
		clear(b)
		if got := h.Sum(); got != want {
			t.Errorf("%d bytes, spoilt behind their Write: %x, want %x", n, got, want)
		}
	}
}

func TestArgumentsStay(t *testing.T) { // DOC.md, Memory
	for n := range 130 {
		all := some(rand.New(rand.NewSource(12)), 300)
		was := slices.Clone(all)
		b := all[:n]
		want := api.Sum(sha256.Sum256(was[:n]))
		h := sha.New()
		h.Write(b)
		if sha.Sum(b) != want || h.Sum() != want {
			t.Errorf("of %d bytes what lies in the spare room plays a part", n)
		}
		if !bytes.Equal(all, was) {
			t.Errorf("of %d bytes, or their spare room, some were changed", n)
		}
	}
}

func FuzzSum(f *testing.F) { // P3.1, P3.2, P3.4 of whatever bytes
	f.Add([]byte(nil), 0)
	f.Add([]byte("abc"), 1)
	f.Add(bytes.Repeat([]byte{0x80}, 64), 56)
	f.Fuzz(func(t *testing.T, b []byte, cut int) {
		want := api.Sum(sha256.Sum256(b))
		if got := sha.Sum(b); got != want {
			t.Fatalf("Sum(%x) = %x, want %x", b, got, want)
		}
		if cut < 0 || cut > len(b) {
			return
		}
		h := sha.New()
		h.Write(b[:cut])
		h.Sum()
		h.Write(b[cut:])
		if got := h.Sum(); got != want {
			t.Fatalf("%x, cut at %d: %x, want %x", b, cut, got, want)
		}
	})
}
