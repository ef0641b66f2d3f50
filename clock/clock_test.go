package clock_test

import (
	"bytes"
	"encoding/binary"
	"math"
	"math/rand"
	"slices"
	"strings"
	"testing"

	"suffragan/api"
	"suffragan/clock"
)

// edges: numbers that a clock may have, on both sides of each bound that the document names.
var edges = []uint64{0, 1, 2, 63, 64, 16383, 16384, 1<<30 - 1, 1 << 30, api.MaxNum - 1, api.MaxNum, api.MaxNum + 1, 1 << 63, math.MaxUint64}

// of: the clock of these numbers, and noughts behind.
func of(l ...uint64) api.Clock {
	var c api.Clock
	copy(c[:], l)
	return c
}

// every: the clock all of whose numbers are n.
func every(n uint64) api.Clock {
	var c api.Clock
	for i := range c {
		c[i] = n
	}
	return c
}

// few: a clock by chance whose numbers are from 0 to most, so that clocks are often the same in many of them.
func few(r *rand.Rand, most int) api.Clock {
	var c api.Clock
	for i := range c {
		c[i] = uint64(r.Intn(most + 1))
	}
	return c
}

// wide: a clock by chance that has bytes: noughts, and numbers of each length.
func wide(r *rand.Rand) api.Clock {
	var c api.Clock
	for i := range c {
		if r.Intn(3) > 0 {
			c[i] = r.Uint64() >> (2 + r.Intn(62))
		}
	}
	return c
}

// stands: how a stands to b, as P13.2's words have it, number by number.
func stands(a, b api.Clock) int {
	above, below := 0, 0
	for i := range a {
		if a[i] > b[i] {
			above++
		}
		if a[i] < b[i] {
			below++
		}
	}
	switch {
	case above == 0 && below == 0:
		return 0
	case above == 0:
		return 1
	case below == 0:
		return 2
	}
	return 3
}

// raw: c's bytes, worked out in another way than the program's.
func raw(c api.Clock) []byte {
	there, out := 0, []byte{0}
	for i := len(c) - 1; i >= 0; i-- {
		there *= 2
		if c[i] != 0 {
			there++
		}
	}
	out[0] = byte(there)
	for _, n := range c {
		for i, bound := range []uint64{1 << 6, 1 << 14, 1 << 30, 1 << 62} {
			if n != 0 && n < bound {
				b := binary.BigEndian.AppendUint64(nil, n)[8-1<<i:]
				b[0] += byte(i) * 64
				out = append(out, b...)
				break
			}
		}
	}
	return out
}

// roomy: b with spare room behind it, and a look at whether that room, or b, was changed.
func roomy(b []byte) ([]byte, func(t *testing.T)) {
	all := append(slices.Clone(b), bytes.Repeat([]byte{0xa5}, 100)...)
	was := slices.Clone(all)
	return all[:len(b)], func(t *testing.T) {
		t.Helper()
		if !bytes.Equal(all, was) {
			t.Errorf("an argument, or its spare room, was changed: %x, was %x", all, was)
		}
	}
}

// spoil fills an answer, with its spare room.
func spoil(b []byte) {
	b = b[:cap(b)]
	for i := range b {
		b[i] ^= 0xff
	}
}

func TestConstants(t *testing.T) { // P13.2, and what stands in the words of P13.1
	if api.Equal != 0 || api.Before != 1 || api.After != 2 || api.Apart != 3 || api.Regions != 8 || api.MaxNum != 4611686018427387903 {
		t.Error("another constant")
	}
	if api.ErrArg != 1 || api.ErrShort != 3 || api.ErrForm != 4 || api.ErrFull != 8 {
		t.Error("another error")
	}
}

func TestTick(t *testing.T) { // P13.1
	c := of(9, 8, 7, 6, 5, 4, 3, 0)
	for i, want := range []api.Clock{
		of(10, 8, 7, 6, 5, 4, 3, 0),
		of(9, 9, 7, 6, 5, 4, 3, 0),
		of(9, 8, 8, 6, 5, 4, 3, 0),
		of(9, 8, 7, 7, 5, 4, 3, 0),
		of(9, 8, 7, 6, 6, 4, 3, 0),
		of(9, 8, 7, 6, 5, 5, 3, 0),
		of(9, 8, 7, 6, 5, 4, 4, 0),
		of(9, 8, 7, 6, 5, 4, 3, 1),
	} {
		if got, e := clock.Tick(c, i); got != want || e != api.OK {
			t.Errorf("Tick(%d, %d) = %d, %d", c, i, got, e)
		}
	}
}

func TestTickOfNoNumber(t *testing.T) { // P13.1: also where each number is too great already
	for _, c := range []api.Clock{{}, of(1, 2, 3), every(api.MaxNum), every(math.MaxUint64)} {
		for _, i := range []int{-1, -2, -8, -256, math.MinInt, math.MinInt + 1, 8, 9, 16, 255, 256, 1 << 32, math.MaxInt} {
			if got, e := clock.Tick(c, i); got != c || e != api.ErrArg {
				t.Errorf("Tick(%d, %d) = %d, %d, not ErrArg", c, i, got, e)
			}
		}
	}
}

func TestTickOfEdges(t *testing.T) { // P13.1: each number on both sides of MaxNum, among others of all kinds
	for _, others := range edges {
		for _, n := range edges {
			for i := range api.Regions {
				c := every(others)
				c[i] = n
				want, e := c, api.ErrFull
				if n < api.MaxNum {
					want[i], e = n+1, api.OK
				}
				if got, is := clock.Tick(c, i); got != want || is != e {
					t.Errorf("Tick(%d, %d) = %d, %d, not %d, %d", c, i, got, is, want, e)
				}
			}
		}
	}
}

func TestTickOften(t *testing.T) { // P13.1: number by number so often as it was asked
	r := rand.New(rand.NewSource(1))
	var c, want api.Clock
	for range 5000 {
		i := r.Intn(api.Regions)
		want[i]++
		was := c
		var e api.Errno
		if c, e = clock.Tick(c, i); c != want || e != api.OK || clock.Order(was, c) != api.Before {
			t.Fatalf("%d, not %d: %d", c, want, e)
		}
	}
}

func TestMerge(t *testing.T) { // P13.1
	for _, x := range []struct{ a, b, want api.Clock }{
		{of(), of(), of()},
		{of(1, 2, 3), of(), of(1, 2, 3)},
		{of(1, 2, 3), of(3, 2, 1), of(3, 2, 3)},
		{of(1, 0, 0, 0, 0, 0, 0, 9), of(0, 0, 0, 0, 0, 0, 0, 8), of(1, 0, 0, 0, 0, 0, 0, 9)},
		{of(1, 0, 2, 0, 3, 0, 4, 0), of(0, 5, 0, 6, 0, 7, 0, 8), of(1, 5, 2, 6, 3, 7, 4, 8)},
		{of(8, 7, 6, 5, 4, 3, 2, 1), of(1, 2, 3, 4, 5, 6, 7, 8), of(8, 7, 6, 5, 5, 6, 7, 8)},
		{of(math.MaxUint64, 1 << 63, api.MaxNum), of(1<<63, math.MaxUint64, api.MaxNum+1), of(math.MaxUint64, math.MaxUint64, api.MaxNum+1)},
	} {
		if got := clock.Merge(x.a, x.b); got != x.want {
			t.Errorf("Merge(%d, %d) = %d, not %d", x.a, x.b, got, x.want)
		}
		if got := clock.Merge(x.b, x.a); got != x.want {
			t.Errorf("Merge(%d, %d) = %d, not %d", x.b, x.a, got, x.want)
		}
	}
}

func TestEachNumberAlone(t *testing.T) { // P13.1, P13.2: of each place, and each two numbers, others being the same
	for i := range api.Regions {
		for _, m := range edges {
			for _, n := range edges {
				a, b := every(5), every(5)
				a[i], b[i] = m, n
				high, low, how := a, a, 0
				if n > m {
					high, how = b, 1
				}
				if n < m {
					low, how = b, 2
				}
				if got := clock.Merge(a, b); got != high {
					t.Errorf("Merge(%d, %d) = %d", a, b, got)
				}
				if got := clock.Least([]api.Clock{a, b}); got != low {
					t.Errorf("Least(%d, %d) = %d", a, b, got)
				}
				if got := clock.Order(a, b); got != how {
					t.Errorf("Order(%d, %d) = %d", a, b, got)
				}
			}
		}
	}
}

func TestLeast(t *testing.T) { // P13.1
	for _, x := range []struct {
		l    []api.Clock
		want api.Clock
	}{
		{nil, of()},
		{[]api.Clock{}, of()},
		{make([]api.Clock, 0, 3), of()},
		{[]api.Clock{of()}, of()},
		{[]api.Clock{of(1, 2, 3, 4, 5, 6, 7, 8)}, of(1, 2, 3, 4, 5, 6, 7, 8)},
		{[]api.Clock{every(math.MaxUint64)}, every(math.MaxUint64)},
		{[]api.Clock{of(1, 2, 3), of(3, 2, 1)}, of(1, 2, 1)},
		{[]api.Clock{of(3, 2, 1), of(1, 2, 3)}, of(1, 2, 1)},
		{[]api.Clock{of(1, 2, 3), of()}, of()},
		{[]api.Clock{of(), of(1, 2, 3)}, of()},
		{[]api.Clock{every(9), every(7), every(8)}, every(7)},
		{[]api.Clock{of(9, 8, 7, 6, 5, 4, 3, 2), of(5, 5, 5, 5, 5, 5, 5, 5), of(2, 3, 4, 5, 6, 7, 8, 9)}, of(2, 3, 4, 5, 5, 4, 3, 2)},
		{[]api.Clock{every(math.MaxUint64), every(1 << 63), every(api.MaxNum)}, every(api.MaxNum)},
		{[]api.Clock{of(1, 2), of(1, 2), of(1, 2)}, of(1, 2)},
	} {
		if got := clock.Least(x.l); got != x.want {
			t.Errorf("Least(%d) = %d, not %d", x.l, got, x.want)
		}
	}
}

func TestOrder(t *testing.T) { // P13.2
	for _, x := range []struct {
		a, b api.Clock
		want int
	}{
		{of(), of(), api.Equal},
		{of(1, 2, 3), of(1, 2, 3), api.Equal},
		{every(math.MaxUint64), every(math.MaxUint64), api.Equal},
		{of(), of(0, 0, 0, 0, 0, 0, 0, 1), api.Before},
		{of(0, 0, 0, 0, 0, 0, 0, 1), of(), api.After},
		{of(1, 2, 3), of(1, 2, 4), api.Before},
		{of(1, 2, 3), of(2, 3, 4), api.Before},
		{of(1, 2, 3), of(0, 2, 3), api.After},
		{of(1, 2, 3), of(0, 1, 2), api.After},
		{of(1), of(0, 1), api.Apart},
		{of(0, 1), of(1), api.Apart},
		{of(1, 2, 3, 4, 5, 6, 7, 8), of(1, 2, 3, 4, 5, 6, 8, 7), api.Apart},
		{of(9, 9, 9, 9, 9, 9, 9, 0), of(0, 0, 0, 0, 0, 0, 0, 1), api.Apart},
		{of(1 << 63), of(math.MaxUint64), api.Before},
		{of(math.MaxUint64), of(1), api.After},
	} {
		if got := clock.Order(x.a, x.b); got != x.want {
			t.Errorf("Order(%d, %d) = %d, not %d", x.a, x.b, got, x.want)
		}
	}
}

func TestByChance(t *testing.T) { // P13.1, P13.2, P13.4: thousands of two clocks, against a second way
	r := rand.New(rand.NewSource(2))
	var seen [4]int
	for range 60000 {
		a, b := few(r, r.Intn(4)), few(r, r.Intn(4))
		if r.Intn(2) == 0 { // one that is nearly the other one
			b = a
			for range r.Intn(3) {
				b[r.Intn(api.Regions)] = uint64(r.Intn(4))
			}
		}
		want, both := stands(a, b), clock.Merge(a, b)
		seen[want]++
		if got := clock.Order(a, b); got != want {
			t.Fatalf("Order(%d, %d) = %d, not %d", a, b, got, want)
		}
		if back := []int{0, 2, 1, 3}[want]; clock.Order(b, a) != back {
			t.Fatalf("Order(%d, %d) = %d, not %d", b, a, clock.Order(b, a), back)
		}
		for i := range both {
			if both[i] < a[i] || both[i] < b[i] || both[i] != a[i] && both[i] != b[i] {
				t.Fatalf("Merge(%d, %d) = %d", a, b, both)
			}
		}
	}
	for how, n := range seen {
		if n < 3000 {
			t.Errorf("%d of order %d", n, how)
		}
	}
}

func TestLeastAboveBoth(t *testing.T) { // P13.4
	r := rand.New(rand.NewSource(3))
	above := 0
	for range 60000 {
		a, b, c := few(r, 2), few(r, 2), few(r, 3)
		if r.Intn(2) == 0 {
			a, b = few(r, 1), few(r, 1)
		}
		both := clock.Merge(a, b)
		if clock.Order(both, a) == api.Before || clock.Order(both, b) == api.Before {
			t.Fatalf("Merge(%d, %d) = %d is before one of them", a, b, both)
		}
		if over(a, c) && over(b, c) {
			above++
			if clock.Order(c, both) == api.Before || !over(both, c) {
				t.Fatalf("%d is above %d and %d, but not above %d", c, a, b, both)
			}
		}
	}
	if above < 1000 {
		t.Errorf("only %d were above both", above)
	}
}

// over: whether a is neither After c, nor Apart of it.
func over(a, c api.Clock) bool {
	o := clock.Order(a, c)
	return o == api.Equal || o == api.Before
}

// merged: all clocks of l, one behind the other.
func merged(l []api.Clock) api.Clock {
	var c api.Clock
	for _, x := range l {
		c = clock.Merge(c, x)
	}
	return c
}

func TestInAnyOrder(t *testing.T) { // P13.5, and of Least, too
	r := rand.New(rand.NewSource(4))
	for range 3000 {
		l := make([]api.Clock, 1+r.Intn(9))
		for i := range l {
			l[i] = wide(r)
		}
		want, least := merged(l), clock.Least(l)
		for i := range want {
			var high, low []uint64
			for _, c := range l {
				high, low = append(high, c[i]), append(low, c[i])
			}
			if want[i] != slices.Max(high) || least[i] != slices.Min(low) {
				t.Fatalf("of %d: %d, %d", l, want, least)
			}
		}
		for range 5 {
			m := slices.Clone(l)
			for range r.Intn(5) { // some more often
				m = append(m, l[r.Intn(len(l))])
			}
			r.Shuffle(len(m), func(i, j int) { m[i], m[j] = m[j], m[i] })
			cut := r.Intn(len(m) + 1)
			if got := clock.Merge(merged(m[cut:]), merged(m[:cut])); got != want || merged(m) != want {
				t.Fatalf("of %d, then of %d: %d, %d", l, m, want, got)
			}
			if got := clock.Least(m); got != least {
				t.Fatalf("of %d, then of %d: %d, %d", l, m, least, got)
			}
		}
	}
}

func TestPutExamples(t *testing.T) { // P13.3, the chapter's example the first
	for _, x := range []struct {
		c    api.Clock
		want string
	}{
		{of(2, 0, 1), "\x05\x02\x01"},
		{of(), "\x00"},
		{of(1), "\x01\x01"},
		{of(0, 1), "\x02\x01"},
		{of(0, 0, 0, 0, 0, 0, 0, 63), "\x80\x3f"},
		{of(64), "\x01\x40\x40"},
		{of(1, 2, 3, 4, 5, 6, 7, 8), "\xff\x01\x02\x03\x04\x05\x06\x07\x08"},
		{of(0, 16383, 0, 16384, 0, 1<<30 - 1, 0, 1 << 30), "\xaa\x7f\xff\x80\x00\x40\x00\xbf\xff\xff\xff\xc0\x00\x00\x00\x40\x00\x00\x00"},
		{of(0, 0, 0, api.MaxNum), "\x08\xff\xff\xff\xff\xff\xff\xff\xff"},
		{every(api.MaxNum), "\xff" + strings.Repeat("\xff", 64)},
	} {
		for _, ahead := range []string{"", "x", "ahead\x00\xff"} {
			if b, e := clock.Put([]byte(ahead), x.c); string(b) != ahead+x.want || e != api.OK {
				t.Errorf("Put(%q, %d) = %x, %d, not %x", ahead, x.c, b, e, x.want)
			}
		}
		if c, rest, e := clock.Take([]byte(x.want)); c != x.c || len(rest) != 0 || e != api.OK {
			t.Errorf("Take(%x) = %d, %x, %d", x.want, c, rest, e)
		}
	}
}

func TestPutAboveMaxNum(t *testing.T) { // P13.3: b as it was, and ErrArg, whichever number it is
	for _, ahead := range []string{"", "x", "ahead\x00\xff"} {
		for _, n := range []uint64{api.MaxNum + 1, api.MaxNum + 2, 1 << 63, 3 << 62, math.MaxUint64} {
			for i := range api.Regions {
				for _, others := range []uint64{0, 1, 1 << 40, api.MaxNum} {
					c := every(others)
					c[i] = n
					if b, e := clock.Put([]byte(ahead), c); string(b) != ahead || e != api.ErrArg {
						t.Errorf("Put(%q, %d) = %x, %d, not ErrArg", ahead, c, b, e)
					}
				}
			}
			if b, e := clock.Put([]byte(ahead), every(n)); string(b) != ahead || e != api.ErrArg {
				t.Errorf("Put(%q, all of %d) = %x, %d, not ErrArg", ahead, n, b, e)
			}
		}
	}
}

func TestTakeWrong(t *testing.T) { // P13.3: and no clock and nothing behind are told then
	for _, x := range []struct {
		b string
		e api.Errno
	}{
		{"", api.ErrShort},
		{"\x01", api.ErrShort},
		{"\x80", api.ErrShort},
		{"\xff", api.ErrShort},
		{"\x05\x02", api.ErrShort},     // the second number is missing
		{"\x01\x40", api.ErrShort},     // a number ends early
		{"\x05\x02\x40", api.ErrShort}, // the last one does
		{"\x05\x40", api.ErrShort},
		{"\xff\x01\x02\x03\x04\x05\x06\x07", api.ErrShort},
		{"\xff\x01\x02\x03\x04\x05\x06\x07\xc0\x00\x00\x00\x40\x00\x00", api.ErrShort},
		{"\x01\x00", api.ErrForm}, // a number 0
		{"\x80\x00", api.ErrForm},
		{"\x01\x00behind", api.ErrForm},
		{"\x05\x02\x00", api.ErrForm},
		{"\x05\x00\x02", api.ErrForm},
		{"\xff\x01\x02\x03\x04\x05\x06\x07\x00", api.ErrForm},
		{"\xff\x01\x02\x03\x00\x05\x06\x07\x08", api.ErrForm},
		{"\x01\x40\x01", api.ErrForm}, // a number in too many bytes
		{"\x01\x40\x00", api.ErrForm}, // 0 in too many
		{"\x01\x80\x00\x3f\xff", api.ErrForm},
		{"\x05\x02\xc0\x00\x00\x00\x3f\xff\xff\xff", api.ErrForm},
		{"\x03\x00", api.ErrForm},      // number by number: the first is 0, the second is missing
		{"\x03\x40\x01", api.ErrForm},  // the first is too long, the second is missing
		{"\x03\x00\x40", api.ErrForm},  // the first is 0, the second ends early
		{"\x03\x01\x40", api.ErrShort}, // the second ends early
		{"\x07\x01\x40\x01", api.ErrForm},
		{"\x07\x01\x80\x01", api.ErrShort},     // the second ends early, where a third one could have been
		{"\x81\x80\x00\x00\x00", api.ErrForm},  // the first is wrong, the last is missing
		{"\x03\x80\x00\x00\x00", api.ErrForm},  // ends ahead of the second
		{"\x81\x40\x40\x00\x00", api.ErrForm},  // the last is 0
		{"\x11\xc0\x00\x00\x00", api.ErrShort}, // ends within a number of 8 bytes
	} {
		if c, rest, e := clock.Take([]byte(x.b)); c != (api.Clock{}) || len(rest) != 0 || e != x.e {
			t.Errorf("Take(%x) = %d, %x, %d, not %d", x.b, c, rest, e, x.e)
		}
	}
}

func TestThereAndBack(t *testing.T) { // P13.6, and P13.3 against a second way; no beginning is a clock
	r := rand.New(rand.NewSource(5))
	l := []api.Clock{{}, every(api.MaxNum), of(2, 0, 1)}
	for _, n := range edges {
		for i := range api.Regions {
			var c api.Clock
			c[i] = n
			l = append(l, c)
		}
	}
	for range 20000 {
		l = append(l, wide(r), few(r, 1))
	}
	behinds := []string{"", "\x00", "y", "\xff\xff\xff\xff\xff\xff\xff\xff\xff", strings.Repeat("\x01", 70)}
	for _, c := range l {
		if slices.Max(c[:]) > api.MaxNum {
			continue
		}
		b, e := clock.Put(nil, c)
		if !bytes.Equal(b, raw(c)) || e != api.OK {
			t.Fatalf("Put(%d) = %x, %d, not %x", c, b, e, raw(c))
		}
		behind := behinds[r.Intn(len(behinds))]
		if got, rest, e := clock.Take(append(slices.Clone(b), behind...)); got != c || string(rest) != behind || e != api.OK {
			t.Fatalf("Take of %d's bytes, with %x behind: %d, %x, %d", c, behind, got, rest, e)
		}
		for i := range b {
			if got, rest, e := clock.Take(b[:i]); got != (api.Clock{}) || len(rest) != 0 || e != api.ErrShort {
				t.Fatalf("of %x the first %d: %d, %x, %d", b, i, got, rest, e)
			}
		}
	}
}

// putBack holds what Take took of b against its bytes, and tells whether it took any.
func putBack(t *testing.T, b []byte) bool {
	t.Helper()
	c, rest, e := clock.Take(b)
	switch {
	case e == api.OK && (!bytes.Equal(slices.Concat(raw(c), rest), b) || slices.Max(c[:]) > api.MaxNum):
		t.Fatalf("Take(%x) = %d, %x", b, c, rest)
	case e != api.OK && (e != api.ErrShort && e != api.ErrForm || c != (api.Clock{}) || len(rest) != 0):
		t.Fatalf("Take(%x) = %d, %x, %d", b, c, rest, e)
	}
	return e == api.OK
}

func TestOneForm(t *testing.T) { // P13.3: of whatever bytes: what Take has taken is what Put tells of it
	for i := range 1 << 16 {
		putBack(t, []byte{byte(i >> 8), byte(i)})
		putBack(t, []byte{1 << (i % 8), byte(i >> 8), byte(i)})
	}
	r := rand.New(rand.NewSource(6))
	taken := 0
	for range 100000 {
		b := make([]byte, r.Intn(30))
		r.Read(b)
		if len(b) > 0 {
			b[0] &= byte(r.Intn(256))
		}
		for i := range b {
			if i > 0 && r.Intn(3) > 0 {
				b[i] &= 0x4f
			}
		}
		if putBack(t, b) {
			taken++
		}
	}
	if taken < 20000 {
		t.Errorf("only %d were taken", taken)
	}
}

func TestEveryBit(t *testing.T) { // P13.3: each first byte: its bits, and no others, are the numbers that are not 0
	for there := range 256 {
		b := []byte{byte(there)}
		var want api.Clock
		for i := range want {
			if there/(1<<i)%2 == 1 {
				want[i] = uint64(i + 1)
				b = append(b, byte(i+1))
			}
		}
		if c, rest, e := clock.Take(append(slices.Clone(b), "more"...)); c != want || string(rest) != "more" || e != api.OK {
			t.Errorf("Take(%x) = %d, %q, %d", b, c, rest, e)
		}
		if got, e := clock.Put(nil, want); !bytes.Equal(got, b) || e != api.OK {
			t.Errorf("Put(%d) = %x, %d", want, got, e)
		}
	}
}

func TestMemory(t *testing.T) { // DOC.md, Memory: arguments are not changed, answers are new memory
	calls := map[string]func(b []byte) []byte{
		"Put":           func(b []byte) []byte { b, _ = clock.Put(b, of(1, 0, 1<<40)); return b },
		"Put of zero":   func(b []byte) []byte { b, _ = clock.Put(b, api.Clock{}); return b },
		"Put, ErrArg":   func(b []byte) []byte { b, _ = clock.Put(b, of(1, 1<<62)); return b },
		"Take":          func(b []byte) []byte { _, rest, _ := clock.Take(b); return rest },
		"Take, of more": func(b []byte) []byte { _, rest, _ := clock.Take(append(b, 0)); return rest },
	}
	for name, call := range calls {
		for _, given := range []string{"", "\x00", "\x00abc", "\x05\x02\x01", "\x05\x02\x01 and more", "\x01\x00"} {
			t.Run(name, func(t *testing.T) {
				b, unchanged := roomy([]byte(given))
				b = b[:len(b):len(b)+90]
				if name == "Take, of more" { // append must not write into what is looked at
					b = b[:len(b):len(b)]
				}
				first := call(b)
				was := slices.Clone(first)
				unchanged(t)
				second := call(b)
				spoil(second)
				unchanged(t)
				if !bytes.Equal(first, was) {
					t.Errorf("of %x: two answers share memory", given)
				}
				for i := range b {
					b[i] ^= 0xff
				}
				if !bytes.Equal(first, was) {
					t.Errorf("of %x: an answer shares memory with its argument", given)
				}
			})
		}
	}
}

func TestLeastLeavesItsList(t *testing.T) { // DOC.md, Memory
	all := []api.Clock{every(3), of(1, 9), every(2), of(7, 7)}
	was := slices.Clone(all)
	if got := clock.Least(all[:3]); got != of(1, 2) || !slices.Equal(all, was) {
		t.Errorf("%d, and the list is %d", got, all)
	}
}

func TestNilAndEmpty(t *testing.T) { // DOC.md, Memory: alike
	for _, b := range [][]byte{nil, {}, make([]byte, 0, 9)} {
		if got, e := clock.Put(b, of(2, 0, 1)); string(got) != "\x05\x02\x01" || e != api.OK {
			t.Errorf("%x, %d", got, e)
		}
		if got, e := clock.Put(b, of(1<<62)); len(got) != 0 || e != api.ErrArg {
			t.Errorf("%x, %d", got, e)
		}
		if c, rest, e := clock.Take(b); c != (api.Clock{}) || len(rest) != 0 || e != api.ErrShort {
			t.Errorf("%d, %x, %d", c, rest, e)
		}
	}
}

func TestFromArgumentsAlone(t *testing.T) { // DOC.md: whatever was asked ahead
	ask := func() []any {
		c, e := clock.Tick(of(1, 2), 1)
		b, f := clock.Put([]byte("x"), of(2, 0, 1))
		d, rest, g := clock.Take([]byte("\x05\x02\x01y"))
		return []any{c, e, string(b), f, d, string(rest), g, clock.Merge(of(1), of(0, 1)), clock.Order(of(1), of(2)), clock.Least([]api.Clock{of(1), of(2)})}
	}
	first := ask()
	clock.Tick(of(9), 9)
	clock.Put(nil, every(math.MaxUint64))
	clock.Take([]byte("\xff\x01"))
	clock.Merge(every(7), of(9))
	clock.Least([]api.Clock{every(0)})
	if again := ask(); !slices.Equal(again, first) {
		t.Errorf("%v, then %v", first, again)
	}
}

func TestLarge(t *testing.T) { // DOC.md, Ends: of many bytes, and of many clocks
	large := make([]byte, 1<<24)
	copy(large, raw(every(1<<40)))
	if c, rest, e := clock.Take(large); c != every(1<<40) || len(rest) != 1<<24-65 || e != api.OK {
		t.Errorf("%d, %d bytes, %d", c, len(rest), e)
	}
	if b, e := clock.Put(large, every(api.MaxNum)); len(b) != 1<<24+65 || e != api.OK || !bytes.Equal(b[1<<24:], raw(every(api.MaxNum))) {
		t.Errorf("%d bytes, %d", len(b), e)
	}
	l := make([]api.Clock, 1<<17)
	for i := range l {
		l[i] = of(uint64(i)+1, uint64(len(l)-i))
	}
	if got := clock.Least(l); got != of(1, 1) {
		t.Errorf("%d", got)
	}
}

func FuzzTake(f *testing.F) { // P13.3, P13.6, of whatever bytes; and that nothing panics
	for _, s := range []string{"", "\x00", "\x05\x02\x01", "\x01\x00", "\x01\x40\x40y", "\xff\xff\xff\xff\xff\xff\xff\xff\x00"} {
		f.Add([]byte(s), 2)
	}
	f.Fuzz(func(t *testing.T, b []byte, i int) {
		putBack(t, b)
		c, rest, _ := clock.Take(b)
		d, _, _ := clock.Take(rest)
		if got := clock.Order(c, d); got != stands(c, d) {
			t.Errorf("Order(%d, %d) = %d", c, d, got)
		}
		later, e := clock.Tick(c, i)
		if (e == api.OK) != (clock.Order(c, later) == api.Before) || e != api.OK && later != c {
			t.Errorf("Tick(%d, %d) = %d, %d", c, i, later, e)
		}
		if got, e := clock.Put(b, c); e != api.OK || !bytes.Equal(got, slices.Concat(b, raw(c))) {
			t.Errorf("Put(%x, %d) = %x, %d", b, c, got, e)
		}
	})
}
