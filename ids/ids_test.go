package ids_test

import (
	"bytes"
	"encoding/binary"
	"fmt"
	"math"
	"math/rand"
	"slices"
	"strings"
	"testing"
	"unsafe"

	"suffragan/api"
	"suffragan/ids"
)

// sized: n's bytes, without the layers below; in size of them (1, 2, 4, 8), also where fewer would do.
func sized(n uint64, size int) string {
	b := binary.BigEndian.AppendUint64(nil, n)[8-size:]
	b[0] |= map[int]byte{1: 0, 2: 0x40, 4: 0x80, 8: 0xc0}[size]
	return string(b)
}

// least: how many bytes n has.
func least(n uint64) int {
	switch {
	case n < 1<<6:
		return 1
	case n < 1<<14:
		return 2
	case n < 1<<30:
		return 4
	}
	return 8
}

// number: n's bytes.
func number(n uint64) string {
	return sized(n, least(n))
}

// numbers: the bytes of each, one behind the other.
func numbers(l ...uint64) string {
	var b strings.Builder
	for _, n := range l {
		b.WriteString(number(n))
	}
	return b.String()
}

// texts: the bytes of these texts, and how many they are ahead.
func texts(l ...string) string {
	var b strings.Builder
	b.WriteString(number(uint64(len(l))))
	for _, s := range l {
		b.WriteString(number(uint64(len(s))) + s)
	}
	return b.String()
}

// bounds: the bytes of these, From and To turn by turn, and how many they are ahead.
func bounds(l ...uint64) string {
	return number(uint64(len(l)/2)) + numbers(l...)
}

// bound: these, From and To turn by turn.
func bound(l ...uint64) []api.Bound {
	var all []api.Bound
	for i := 0; i < len(l); i += 2 {
		all = append(all, api.Bound{From: l[i], To: l[i+1]})
	}
	return all
}

// second: a table as the chapter has it, word by word, without a map and without an order.
type second struct {
	limit  uint64
	texts  []string    // in the order of their ids
	bounds []api.Bound // in the order in which they came
}

// anew: an empty one.
func anew(limit uint64) *second {
	if limit > 1<<31-1 {
		limit = 1<<31 - 1
	}
	return &second{limit: limit}
}

func (s *second) of(text string) (uint64, bool) {
	for i, t := range s.texts {
		if t == text {
			return uint64(i) + 1, true
		}
	}
	return 0, false
}

func (s *second) text(id uint64) (string, bool) {
	for i, t := range s.texts {
		if uint64(i)+1 == id {
			return t, true
		}
	}
	return "", false
}

func (s *second) mapped(from uint64) (uint64, bool) {
	for _, x := range s.bounds {
		if x.From == from {
			return x.To, true
		}
	}
	return 0, false
}

func (s *second) make(text string) (uint64, api.Errno) {
	if id, ok := s.of(text); ok {
		return id, 0
	}
	next := uint64(len(s.texts) + 1)
	if next > s.limit {
		return 0, 8
	}
	s.texts = append(s.texts, text)
	return next, 0
}

func (s *second) bind(from uint64, text string) (uint64, api.Errno) {
	if from == 0 || from > 1<<31-1 {
		return 0, 1
	}
	for _, x := range s.bounds {
		t, _ := s.text(x.To)
		if x.From == from && t != text || x.From != from && t == text {
			return 0, 6
		}
	}
	id, e := s.make(text)
	if _, there := s.mapped(from); e == 0 && !there {
		s.bounds = append(s.bounds, api.Bound{From: from, To: id})
	}
	return id, e
}

// rising: what is bound, rising by From.
func (s *second) rising() []api.Bound {
	l := slices.Clone(s.bounds)
	for i := range l { // the least one of what is left comes next
		for j := range l {
			if j > i && l[j].From < l[i].From {
				l[i], l[j] = l[j], l[i]
			}
		}
	}
	return l
}

func (s *second) save() string {
	var l []uint64
	for _, x := range s.rising() {
		l = append(l, x.From, x.To)
	}
	return texts(s.texts...) + bounds(l...)
}

// has holds all that t tells against s.
func has(t *testing.T, x *ids.Table, s *second) {
	t.Helper()
	if x.Len() != len(s.texts) {
		t.Fatalf("Len() = %d, not %d", x.Len(), len(s.texts))
	}
	looked := []string{"", "a", "b", "c", "ab", "A", "\x00", "no such text"}
	for _, text := range append(looked, s.texts...) {
		got, there := x.Of(text)
		if want, is := s.of(text); got != want || there != is {
			t.Fatalf("Of(%q) = %d, %t, not %d, %t", text, got, there, want, is)
		}
	}
	l := []uint64{uint64(len(s.texts)) + 1, uint64(len(s.texts)) + 2, api.MaxID, api.MaxID + 1, 1 << 32, 1<<32 + 1, 1 << 63, 1<<63 + 1, math.MaxUint64}
	for id := range uint64(len(s.texts) + 1) {
		l = append(l, id)
	}
	for _, id := range l {
		got, there := x.Text(id)
		if want, is := s.text(id); got != want || there != is {
			t.Fatalf("Text(%d) = %q, %t, not %q, %t", id, got, there, want, is)
		}
	}
	l = append(l, 1, 2, 3, 4, 5, 6, 7, 8, 9)
	for _, b := range s.bounds {
		l = append(l, b.From-1, b.From, b.From+1, b.To)
	}
	for _, from := range l {
		got, there := x.Map(from)
		if want, is := s.mapped(from); got != want || there != is {
			t.Fatalf("Map(%d) = %d, %t, not %d, %t", from, got, there, want, is)
		}
	}
	if got := x.Bounds(); !slices.Equal(got, s.rising()) {
		t.Fatalf("Bounds() = %d, not %d", got, s.rising())
	}
	if got := string(x.Save()); got != s.save() {
		t.Fatalf("Save() = %x, not %x", got, s.save())
	}
}

// step: a call: Make of text, or, of a bind, Bind of from and text.
type step struct {
	bind bool
	from uint64
	text string
}

func (p step) String() string {
	if p.bind {
		return fmt.Sprintf("Bind(%d, %q)", p.from, p.text)
	}
	return fmt.Sprintf("Make(%q)", p.text)
}

// do makes that call of x.
func (p step) do(x *ids.Table) (uint64, api.Errno) {
	if p.bind {
		return x.Bind(p.from, p.text)
	}
	return x.Make(p.text)
}

// both makes that call of both, and holds the one answer against the other.
func (p step) both(t *testing.T, x *ids.Table, s *second) {
	t.Helper()
	got, e := p.do(x)
	var want uint64
	var f api.Errno
	if p.bind {
		want, f = s.bind(p.from, p.text)
	} else {
		want, f = s.make(p.text)
	}
	if got != want || e != f {
		t.Fatalf("%v = %d, %d, not %d, %d; %q, %d", p, got, e, want, f, s.texts, s.bounds)
	}
}

// anyStep: a call by chance of few texts and foreign ids, so that they come again.
func anyStep(r *rand.Rand, most int) step {
	p := step{bind: r.Intn(2) == 0, from: uint64(r.Intn(most)), text: strings.Repeat("x", r.Intn(most))}
	if r.Intn(20) == 0 {
		p.from = []uint64{api.MaxID - 1, api.MaxID, api.MaxID + 1, 1 << 32, 1<<32 + 1, math.MaxUint64}[r.Intn(6)]
	}
	if r.Intn(10) == 0 {
		p.text += "y"
	}
	return p
}

// load is Load of what should be a table; it holds it against s.
func load(t *testing.T, limit uint64, b string, s *second) *ids.Table {
	t.Helper()
	x, e := ids.Load(limit, []byte(b))
	if x == nil || e != api.OK {
		t.Fatalf("Load(%d, %x) answers %d", limit, b, e)
	}
	has(t, x, s)
	return x
}

// refused is Load of what is none.
func refused(t *testing.T, limit uint64, b string, want api.Errno) {
	t.Helper()
	if x, e := ids.Load(limit, []byte(b)); x != nil || e != want {
		t.Errorf("Load(%d, %.80q) answers %d, not %d, or a table", limit, b, e, want)
	}
}

func TestConstants(t *testing.T) { // what the chapter's words hang on
	if api.MaxID != 2147483647 || api.MaxNum != 4611686018427387903 {
		t.Error("another constant")
	}
	if api.OK != 0 || api.ErrArg != 1 || api.ErrLong != 2 || api.ErrShort != 3 || api.ErrForm != 4 || api.ErrThere != 6 || api.ErrFull != 8 {
		t.Error("another error")
	}
}

func TestExample(t *testing.T) { // the chapter's one, which is DOC.md's, too
	x := ids.New(api.MaxID)
	for i, text := range []string{"a", "b", "a"} {
		if id, e := x.Make(text); id != []uint64{1, 2, 1}[i] || e != api.OK {
			t.Errorf("Make(%q) = %d, %d", text, id, e)
		}
	}
}

func TestNew(t *testing.T) { // P16.1: empty, whatever the limit
	for _, limit := range []uint64{0, 1, 2, 64, api.MaxID - 1, api.MaxID, api.MaxID + 1, 1 << 32, 1 << 63, math.MaxUint64} {
		x := ids.New(limit)
		has(t, x, anew(limit))
		if string(x.Save()) != "\x00\x00" {
			t.Errorf("Save() = %x", x.Save())
		}
		id, e := x.Make("a")
		if limit == 0 && (id != 0 || e != api.ErrFull) || limit > 0 && (id != 1 || e != api.OK) {
			t.Errorf("limit %d: Make = %d, %d", limit, id, e)
		}
	}
}

func TestMake(t *testing.T) { // P16.1: texts of all kinds, each its own id, from 1 on; no text is another one
	all := []string{"", " ", "a", "A", "aa", "a ", " a", "a\x00", "\x00", "\x00a", "\xff", "\xff\xfe", "é", "e\u0301", "[int]", "[ int ]", strings.Repeat("a", 1<<20), strings.Repeat("a", 1<<20+1)}
	x := ids.New(uint64(len(all)))
	s := anew(uint64(len(all)))
	for range 3 {
		for i, text := range all {
			if id, e := x.Make(text); id != uint64(i)+1 || e != api.OK {
				t.Errorf("Make(%.20q) = %d, %d, not %d", text, id, e, i+1)
			}
			s.make(text)
		}
		has(t, x, s)
	}
	for i, text := range all {
		if id, ok := x.Of(text); id != uint64(i)+1 || !ok {
			t.Errorf("Of(%.20q) = %d, %t, not %d", text, id, ok, i+1)
		}
	}
}

func TestMakeFull(t *testing.T) { // P16.1: of each limit; what has an id is told that also then, and nothing is changed
	for limit := range uint64(70) {
		x, s := ids.New(limit), anew(limit)
		for i := range limit {
			if id, e := x.Make(fmt.Sprint(i)); id != i+1 || e != api.OK {
				t.Errorf("limit %d: Make = %d, %d, not %d", limit, id, e, i+1)
			}
			s.make(fmt.Sprint(i))
		}
		for range 2 {
			for _, text := range []string{"more", "", fmt.Sprint(limit)} {
				if id, e := x.Make(text); id != 0 || e != api.ErrFull {
					t.Errorf("limit %d: Make(%q) = %d, %d, not ErrFull", limit, text, id, e)
				}
				if id, e := x.Bind(7, text); id != 0 || e != api.ErrFull {
					t.Errorf("limit %d: Bind(7, %q) = %d, %d, not ErrFull", limit, text, id, e)
				}
			}
			for i := range limit {
				if id, e := x.Make(fmt.Sprint(i)); id != i+1 || e != api.OK {
					t.Errorf("limit %d, full: Make = %d, %d, not %d", limit, id, e, i+1)
				}
			}
			has(t, x, s)
		}
	}
}

func TestBind(t *testing.T) { // P16.2: line by line
	for name, l := range map[string][]struct {
		step
		id uint64
		e  api.Errno
	}{
		"new texts": {
			{step{true, 5, "a"}, 1, 0}, {step{true, 3, "b"}, 2, 0}, {step{true, 4, ""}, 3, 0}, {step{false, 0, "d"}, 4, 0},
		},
		"a text that has an id": {
			{step{false, 0, "a"}, 1, 0}, {step{false, 0, "b"}, 2, 0}, {step{true, 1, "b"}, 2, 0}, {step{true, 2, "a"}, 1, 0},
		},
		"once more": {
			{step{true, 5, "a"}, 1, 0}, {step{true, 5, "a"}, 1, 0}, {step{false, 0, "a"}, 1, 0}, {step{true, 5, "a"}, 1, 0},
		},
		"once more, the limit being reached": {
			{step{true, 5, "a"}, 1, 0}, {step{true, 6, "b"}, 2, 0}, {step{true, 7, "c"}, 3, 0}, {step{true, 8, "d"}, 4, 0}, {step{true, 9, "e"}, 0, 8}, {step{true, 5, "a"}, 1, 0},
		},
		"from is another text's": {
			{step{true, 5, "a"}, 1, 0}, {step{true, 5, "b"}, 0, 6}, {step{false, 0, "c"}, 2, 0}, {step{true, 5, "c"}, 0, 6}, {step{true, 5, ""}, 0, 6}, {step{true, 6, "b"}, 3, 0},
		},
		"the text is another foreign id's": {
			{step{true, 5, "a"}, 1, 0}, {step{true, 4, "a"}, 0, 6}, {step{true, 6, "a"}, 0, 6}, {step{true, 1, "a"}, 0, 6}, {step{true, 4, "b"}, 2, 0},
		},
		"both are": {
			{step{true, 5, "a"}, 1, 0}, {step{true, 6, "b"}, 2, 0}, {step{true, 5, "b"}, 0, 6}, {step{true, 6, "a"}, 0, 6}, {step{true, 5, "a"}, 1, 0}, {step{true, 6, "b"}, 2, 0},
		},
		"no foreign id, whatever else is wrong": {
			{step{true, 0, "a"}, 0, 1}, {step{true, 1 << 31, "a"}, 0, 1}, {step{true, 1, "a"}, 1, 0}, {step{true, 0, "a"}, 0, 1}, {step{true, 1<<31 + 1, "a"}, 0, 1},
			{step{true, 1<<32 + 1, "a"}, 0, 1}, {step{true, 1 << 62, "b"}, 0, 1}, {step{true, 1<<63 + 1, "b"}, 0, 1}, {step{true, math.MaxUint64, ""}, 0, 1},
			{step{false, 0, "b"}, 2, 0}, {step{false, 0, "c"}, 3, 0}, {step{false, 0, "d"}, 4, 0}, {step{true, 0, "e"}, 0, 1}, {step{true, 1 << 31, "e"}, 0, 1},
		},
		"ErrThere ahead of ErrFull": {
			{step{true, 5, "a"}, 1, 0}, {step{false, 0, "b"}, 2, 0}, {step{false, 0, "c"}, 3, 0}, {step{false, 0, "d"}, 4, 0}, {step{true, 5, "e"}, 0, 6}, {step{true, 6, "e"}, 0, 8}, {step{true, 6, "a"}, 0, 6},
		},
		"a text that has an id, the limit being reached": {
			{step{false, 0, "a"}, 1, 0}, {step{false, 0, "b"}, 2, 0}, {step{false, 0, "c"}, 3, 0}, {step{false, 0, "d"}, 4, 0}, {step{true, 9, "d"}, 4, 0}, {step{true, 8, "a"}, 1, 0},
		},
		"foreign ids above the limit, up to the greatest": {
			{step{true, 1<<31 - 1, "a"}, 1, 0}, {step{true, 1 << 30, "b"}, 2, 0}, {step{true, 1, "c"}, 3, 0}, {step{true, 1<<31 - 2, "d"}, 4, 0},
		},
		"a refused one binds nothing": {
			{step{true, 5, "a"}, 1, 0}, {step{true, 5, "b"}, 0, 6}, {step{true, 7, "b"}, 2, 0}, {step{true, 7, "a"}, 0, 6}, {step{true, 8, "a"}, 0, 6}, {step{true, 8, "c"}, 3, 0},
		},
	} {
		t.Run(name, func(t *testing.T) {
			x, s := ids.New(4), anew(4)
			for i, c := range l {
				was := string(x.Save())
				if id, e := c.do(x); id != c.id || e != c.e {
					t.Errorf("number %d: %v = %d, %d, not %d, %d", i, c.step, id, e, c.id, c.e)
				}
				if now := string(x.Save()); c.e != api.OK && now != was {
					t.Errorf("number %d: %v is refused, and the table is %x, was %x", i, c.step, now, was)
				}
				if c.bind {
					s.bind(c.from, c.text)
				} else {
					s.make(c.text)
				}
				has(t, x, s)
			}
		})
	}
}

func TestTold(t *testing.T) { // P16.3, written out
	x := ids.New(10)
	for _, p := range []step{{true, 70, "p"}, {false, 0, "q"}, {true, 7, "r"}, {true, 700, "q"}, {false, 0, ""}} {
		if _, e := p.do(x); e != api.OK {
			t.Fatalf("%v answers %d", p, e)
		}
	}
	for text, want := range map[string]uint64{"p": 1, "q": 2, "r": 3, "": 4} {
		if id, ok := x.Of(text); id != want || !ok {
			t.Errorf("Of(%q) = %d, %t, not %d", text, id, ok, want)
		}
		if s, ok := x.Text(want); s != text || !ok {
			t.Errorf("Text(%d) = %q, %t, not %q", want, s, ok, text)
		}
	}
	for _, text := range []string{"P", "pq", "s", "\x00", "p ", " "} {
		if id, ok := x.Of(text); id != 0 || ok {
			t.Errorf("Of(%q) = %d, %t", text, id, ok)
		}
	}
	for _, id := range []uint64{0, 5, 6, 7, 10, 11, 70, api.MaxID, api.MaxID + 1, 1<<32 + 1, 1 << 63, math.MaxUint64} {
		if s, ok := x.Text(id); s != "" || ok {
			t.Errorf("Text(%d) = %q, %t", id, s, ok)
		}
	}
	for from, want := range map[uint64]uint64{7: 3, 70: 1, 700: 2} {
		if id, ok := x.Map(from); id != want || !ok {
			t.Errorf("Map(%d) = %d, %t, not %d", from, id, ok, want)
		}
	}
	for _, from := range []uint64{0, 1, 2, 3, 4, 6, 8, 69, 71, 699, 701, api.MaxID, api.MaxID + 1, 1<<32 + 7, math.MaxUint64} {
		if id, ok := x.Map(from); id != 0 || ok {
			t.Errorf("Map(%d) = %d, %t", from, id, ok)
		}
	}
	if got := x.Bounds(); !slices.Equal(got, bound(7, 3, 70, 1, 700, 2)) {
		t.Errorf("Bounds() = %d", got)
	}
	if x.Len() != 4 {
		t.Errorf("Len() = %d", x.Len())
	}
	if got := string(x.Save()); got != "\x04\x01p\x01q\x01r\x00\x03\x07\x03\x40\x46\x01\x42\xbc\x02" {
		t.Errorf("Save() = %x", got)
	}
}

func TestBoundsInAnyOrder(t *testing.T) { // P16.3: rising, however they came
	r := rand.New(rand.NewSource(1))
	for range 300 {
		n := r.Intn(40)
		x, s := ids.New(100), anew(100)
		for _, i := range r.Perm(n) {
			step{true, uint64(i*i + 1), fmt.Sprint(i)}.both(t, x, s)
		}
		has(t, x, s)
		l := x.Bounds()
		for i := range n {
			if id, _ := x.Of(fmt.Sprint(i)); len(l) != n || l[i] != (api.Bound{From: uint64(i*i + 1), To: id}) {
				t.Fatalf("Bounds() = %d", l)
			}
		}
	}
}

func TestAllLines(t *testing.T) { // P16.1 to P16.3, P16.6: each line of five calls out of ten, with each limit from 0 to 3
	var all []step
	for i, text := range []string{"a", "", "c"} {
		all = append(all, step{false, 0, text})
		for _, from := range []uint64{1, 2, api.MaxID}[:2+i%2] {
			all = append(all, step{true, from, text})
		}
	}
	if len(all) != 10 {
		t.Fatal(all)
	}
	for limit := range uint64(4) {
		for line := range 100000 {
			x, s := ids.New(limit), anew(limit)
			for rest := line; rest > 0; rest /= 10 {
				all[rest%10].both(t, x, s)
			}
			b := s.save()
			if got := string(x.Save()); got != b {
				t.Fatalf("limit %d, line %d: %x, not %x", limit, line, got, b)
			}
			if line%7 == 0 {
				has(t, x, s)
				load(t, limit, b, s)
			}
		}
	}
}

func TestByChance(t *testing.T) { // P16.1 to P16.6: thousands of long lines; the table is loaded anew now and then
	r := rand.New(rand.NewSource(2))
	for range 3000 {
		limit := uint64(r.Intn(30))
		most := 2 + r.Intn(30)
		x, s := ids.New(limit), anew(limit)
		for range 20 + r.Intn(100) {
			anyStep(r, most).both(t, x, s)
			if r.Intn(30) == 0 {
				has(t, x, s)
				x = load(t, limit, string(x.Save()), s)
			}
		}
		has(t, x, s)
	}
}

// witness: what was told of a table ever.
type witness struct {
	ids   map[string]uint64
	texts map[uint64]string
	to    map[uint64]uint64
	from  map[uint64]uint64
}

// note holds what is told of a call against all that was told ahead.
func (w *witness) note(t *testing.T, p step, id uint64) {
	t.Helper()
	if was, ok := w.ids[p.text]; ok && was != id {
		t.Fatalf("%q has the id %d, had %d", p.text, id, was)
	}
	if was, ok := w.texts[id]; ok && was != p.text {
		t.Fatalf("%d is the id of %q, was that of %q", id, p.text, was)
	}
	w.ids[p.text], w.texts[id] = id, p.text
	if !p.bind {
		return
	}
	if was, ok := w.to[p.from]; ok && was != id {
		t.Fatalf("%d is bound to %d, was to %d", p.from, id, was)
	}
	if was, ok := w.from[id]; ok && was != p.from {
		t.Fatalf("%d is bound to %d, as %d was", p.from, id, was)
	}
	w.to[p.from], w.from[id] = id, p.from
}

// look holds what x tells now against all that was told ahead.
func (w *witness) look(t *testing.T, x *ids.Table) {
	t.Helper()
	for text, id := range w.ids {
		got, ok := x.Of(text)
		back, there := x.Text(id)
		if got != id || !ok || back != text || !there || id == 0 || id > uint64(x.Len()) {
			t.Fatalf("of %q, which is %d: %d, %t, %q, %t", text, id, got, ok, back, there)
		}
	}
	if x.Len() != len(w.ids) || len(x.Bounds()) != len(w.to) {
		t.Fatalf("%d ids and %d bounds, not %d, %d", x.Len(), len(x.Bounds()), len(w.ids), len(w.to))
	}
	last := uint64(0)
	for _, b := range x.Bounds() {
		if w.to[b.From] != b.To || w.from[b.To] != b.From || b.From <= last {
			t.Fatalf("%d is told of %d", b, w.to)
		}
		last = b.From
	}
}

func TestOneToOne(t *testing.T) { // P16.5: by what is told alone, also of what is loaded
	r := rand.New(rand.NewSource(3))
	for range 500 {
		limit := uint64(1 + r.Intn(40))
		x := ids.New(limit)
		w := &witness{map[string]uint64{}, map[uint64]string{}, map[uint64]uint64{}, map[uint64]uint64{}}
		for i := range 200 {
			p := anyStep(r, 40)
			id, e := p.do(x)
			if e == api.OK {
				w.note(t, p, id)
			} else if id != 0 {
				t.Fatalf("%v = %d, %d", p, id, e)
			}
			if i%20 == 0 {
				w.look(t, x)
				var f api.Errno
				if x, f = ids.Load(limit, x.Save()); f != api.OK {
					t.Fatalf("Load answers %d", f)
				}
				w.look(t, x)
			}
		}
	}
}

func TestSave(t *testing.T) { // P16.4, written out; and Load of it
	for _, x := range []struct {
		steps []step
		want  string
	}{
		{nil, "\x00\x00"},
		{[]step{{false, 0, ""}}, "\x01\x00\x00"},
		{[]step{{false, 0, "b"}, {false, 0, "a"}}, "\x02\x01b\x01a\x00"},
		{[]step{{true, 1, "a"}}, "\x01\x01a\x01\x01\x01"},
		{[]step{{true, 63, "a"}}, "\x01\x01a\x01\x3f\x01"},
		{[]step{{true, 64, "a"}}, "\x01\x01a\x01\x40\x40\x01"},
		{[]step{{true, 1<<14 - 1, "a"}}, "\x01\x01a\x01\x7f\xff\x01"},
		{[]step{{true, 1 << 14, "a"}}, "\x01\x01a\x01\x80\x00\x40\x00\x01"},
		{[]step{{true, 1<<30 - 1, "a"}}, "\x01\x01a\x01\xbf\xff\xff\xff\x01"},
		{[]step{{true, 1 << 30, "a"}}, "\x01\x01a\x01\xc0\x00\x00\x00\x40\x00\x00\x00\x01"},
		{[]step{{true, 1<<31 - 1, "a"}}, "\x01\x01a\x01\xc0\x00\x00\x00\x7f\xff\xff\xff\x01"},
		{[]step{{true, 9, "a"}, {true, 5, "bc"}}, "\x02\x01a\x02bc\x02\x05\x02\x09\x01"},
		{[]step{{false, 0, "a"}, {true, 5, "bc"}}, "\x02\x01a\x02bc\x01\x05\x02"},
		{[]step{{true, 0, "a"}, {true, 1 << 31, "a"}}, "\x00\x00"},
		{[]step{{false, 0, strings.Repeat("x", 64)}}, "\x01\x40\x40" + strings.Repeat("x", 64) + "\x00"},
	} {
		a, s := ids.New(100), anew(100)
		for _, p := range x.steps {
			p.both(t, a, s)
		}
		if got := string(a.Save()); got != x.want {
			t.Errorf("of %v: Save() = %x, not %x", x.steps, got, x.want)
		}
		load(t, 100, x.want, s)
	}
}

func TestSaveOfMany(t *testing.T) { // P16.4: ids and how many there are of more bytes than one
	for _, n := range []uint64{62, 63, 64, 65, 1<<14 - 1, 1 << 14, 1<<14 + 1} {
		x := ids.New(n)
		var all []string
		var l []uint64
		for i := range n {
			all = append(all, fmt.Sprint(i))
			l = append(l, i*i+1, n-i)
			x.Make(all[i])
		}
		for i := range n {
			if id, e := x.Bind(l[2*i], all[n-i-1]); id != n-i || e != api.OK {
				t.Fatalf("Bind = %d, %d", id, e)
			}
		}
		b := texts(all...) + bounds(l...)
		if got := string(x.Save()); got != b {
			t.Errorf("%d: Save is another one", n)
		}
		y, e := ids.Load(n, []byte(b))
		if e != api.OK || string(y.Save()) != b || !slices.Equal(y.Bounds(), bound(l...)) || y.Len() != int(n) {
			t.Errorf("%d: Load answers %d, or another table", n, e)
		}
		refused(t, n-1, b, api.ErrFull)
		refused(t, n, texts(all...)+bounds(1, n+1), api.ErrForm)
		load(t, n, texts(all...)+bounds(1, n), &second{n, all, bound(1, n)})
	}
}

// broken: bytes that are no table's, and why: the first thing that is wrong, read from the left.
var broken = []struct {
	b string
	e api.Errno
}{
	{"", api.ErrShort},
	{"\x40", api.ErrShort},     // the number of texts ends early
	{"\x40\x01", api.ErrForm},  // it has too many bytes
	{"\x01", api.ErrShort},     // no text
	{"\x01\x01", api.ErrShort}, // half a one
	{"\x01\x40", api.ErrShort}, // half a number of its bytes
	{"\x01\x40\x01a\x00", api.ErrForm},
	{"\x02\x01a", api.ErrShort},
	{"\x02\x01a\x01", api.ErrShort},
	{"\x02\x01a\x40\x01b\x00", api.ErrForm},
	{"\x01\x01a", api.ErrShort}, // no number of Bounds
	{"\x00", api.ErrShort},
	{"\x00\x40", api.ErrShort},
	{"\x00\x40\x01", api.ErrForm},
	{"\x00\x80\x00\x00\x00", api.ErrForm},

	{"\x02\x01a\x01a\x00", api.ErrForm}, // twice
	{"\x02\x00\x00\x00", api.ErrForm},
	{"\x03\x01a\x01b\x01a\x00", api.ErrForm},
	{"\x02\x01a\x01a", api.ErrForm},              // behind all texts, but ahead of the number of Bounds
	{"\x02\x01a\x01a\x40", api.ErrForm},          // which ends early
	{"\x02\x01a\x01a\x01", api.ErrForm},          // or has none behind it
	{"\x03\x01a\x01a", api.ErrShort},             // a text is missing
	{"\x03\x01a\x01a\x01", api.ErrShort},         // or ends early
	{"\x03\x01a\x01a\x80\x10\x00\x01", 2},        // or is too long
	{"\x03\x01a\x01a\x80\x10\x00\x00", 3},        // or would not be
	{"\x03\x01a\x01a\x40\x01b\x00", api.ErrForm}, // both the same error

	{"\x01\x01a\x01", api.ErrShort}, // no Bound
	{"\x01\x01a\x01\x05", api.ErrShort},
	{"\x01\x01a\x01\x05\x40", api.ErrShort},
	{"\x01\x01a\x01\x40", api.ErrShort},
	{"\x01\x01a\x01\x40\x05\x01", api.ErrForm},
	{"\x01\x01a\x01\x05\x40\x01", api.ErrForm},
	{"\x01\x01a\x02\x05\x01", api.ErrShort},
	{"\x01\x01a\x02\x05\x01\x06", api.ErrShort},

	{"\x01\x01a\x01\x00\x01", api.ErrForm}, // From 0
	{"\x01\x01a\x01\x00", api.ErrShort},    // behind its To: that is missing
	{"\x01\x01a\x01\x00\x40", api.ErrShort},
	{"\x01\x01a\x02\x00\x01", api.ErrForm},                             // another one is missing
	{"\x01\x01a\x01\xc0\x00\x00\x00\x80\x00\x00\x00\x01", api.ErrForm}, // From above MaxID
	{"\x01\x01a\x01\xc0\x00\x00\x01\x00\x00\x00\x01\x01", api.ErrForm}, // From 2^32 + 1
	{"\x01\x01a\x01\xff\xff\xff\xff\xff\xff\xff\xff\x01", api.ErrForm}, // From MaxNum
	{"\x01\x01a\x01\xc0\x00\x00\x00\x80\x00\x00\x00", api.ErrShort},    // To is missing
	{"\x01\x01a\x01\x05\x00", api.ErrForm},                             // To 0
	{"\x01\x01a\x01\x05\x02", api.ErrForm},                             // To of no id
	{"\x01\x01a\x01\x05\x40\x40", api.ErrForm},                         // To 64
	{"\x01\x01a\x01\x05\xc0\x00\x00\x01\x00\x00\x00\x01", api.ErrForm}, // To 2^32 + 1
	{"\x01\x01a\x01\x05\xff\xff\xff\xff\xff\xff\xff\xff", api.ErrForm}, // To MaxNum
	{"\x00\x01\x05\x01", api.ErrForm},                                  // there are no ids
	{"\x00\x01\x05\x00", api.ErrForm},
	{"\x02\x01a\x01b\x02\x05\x01\x05\x02", api.ErrForm},         // does not rise
	{"\x02\x01a\x01b\x02\x05\x01\x04\x02", api.ErrForm},         // falls
	{"\x02\x01a\x01b\x02\x05\x01\x00\x02", api.ErrForm},         // to 0
	{"\x02\x01a\x01b\x02\x05\x01\x05", api.ErrShort},            // does not rise, but To is missing
	{"\x02\x01a\x01b\x02\x05\x01\x06\x01", api.ErrForm},         // To is there already
	{"\x02\x01a\x01b\x03\x05\x01\x06\x02\x07\x01", api.ErrForm}, // of an elder one
	{"\x02\x01a\x01b\x03\x05\x01\x06\x02\x07\x02", api.ErrForm},
	{"\x02\x01a\x01b\x03\x05\x01\x06\x01", api.ErrForm},              // ahead of one that is missing
	{"\x02\x01a\x01b\x03\x05\x01\x06\x02\x07", api.ErrShort},         // of a third one To is missing: it would be there
	{"\x03\x01a\x01b\x01c\x03\x05\x01\x07\x02\x06\x03", api.ErrForm}, // falls behind what rises
	{"\x03\x01a\x01b\x01c\x03\x05\x01\x07\x02\x05\x03", api.ErrForm},
	{"\x03\x01a\x01b\x01c\x03\x05\x01\x07\x02\x08\x04", api.ErrForm},
	{"\x01\x01a\xff\xff\xff\xff\xff\xff\xff\xff", api.ErrShort}, // as many Bounds as can be told
	{"\x01\x01a\xff\xff\xff\xff\xff\xff\xff\xff\x05\x01", api.ErrShort},
	{"\x01\x01a\xff\xff\xff\xff\xff\xff\xff\xff\x05\x01\x06", 3},
	{"\x01\x01a\xff\xff\xff\xff\xff\xff\xff\xff\x05\x01\x06\x02", 4},
	{"\x01\x01a\xff\xff\xff\xff\xff\xff\xff\xff\x05\x01\x06\x40\x02", 4},
	{"\x01\x01a\xc0\x00\x00\x00\x80\x00\x00\x00\x05\x01", api.ErrShort},
	{"\x00\xc0\x00\x00\x00\x80\x00\x00\x00", api.ErrShort},
	{"\x00\x00\x00", api.ErrForm}, // a byte is left
	{"\x01\x01a\x00x", api.ErrForm},
	{"\x01\x01a\x01\x05\x01\x00", api.ErrForm},
	{"\x01\x01a\x01\x05\x01\x40", api.ErrForm},               // also one that is no number
	{"\x02\x01a\x01b\x01\x05\x01\x06\x02", api.ErrForm},      // also one more Bound
	{"\x00\x00" + strings.Repeat("\x00", 1000), api.ErrForm}, // also many
	{"\xc0\x00\x00\x00\x80\x00\x00\x00", api.ErrLong},        // 2^31 texts
	{"\xc0\x00\x00\x00\x80\x00\x00\x00\x00\x00", api.ErrLong},
	{"\xff\xff\xff\xff\xff\xff\xff\xff", api.ErrLong},
	{"\xc0\x00\x00\x00\x7f\xff\xff\xff", api.ErrShort}, // 2^31 - 1 texts, and there are none
	{"\xc0\x00\x00\x00\x7f\xff\xff\xff\x00\x00", api.ErrShort},
	{"\x01\x80\x10\x00\x01", api.ErrLong},                                 // a text of 2^20 + 1 bytes, and there are none
	{"\x01\x80\x10\x00\x00", api.ErrShort},                                // one of 2^20
	{"\x02\x80\x10\x00\x01" + strings.Repeat("a", 1<<20+1), api.ErrLong},  // one of 2^20 + 1 bytes
	{"\x02\x01a\xc0\x00\x00\x00\x40\x00\x00\x00", api.ErrLong},            // the second one of 2^30
	{"\x01\xff\xff\xff\xff\xff\xff\xff\xff" + "a", api.ErrLong},           // one of MaxNum
	{"\x01\x80\x10\x00\x00" + strings.Repeat("a", 1<<20-1), api.ErrShort}, // one byte of it is missing
	{"\x01\x80\x10\x00\x00" + strings.Repeat("a", 1<<20), api.ErrShort},   // it is there, but no number of Bounds
	{"\x01\x80\x10\x00\x00" + strings.Repeat("a", 1<<20+1), api.ErrShort}, // 61 of these, and there are none
	{"\x01\x80\x10\x00\x00" + strings.Repeat("a", 1<<20) + "\x00\x00", 4}, // one byte too many
	{"\x01\x80\x10\x00\x01" + strings.Repeat("a", 1<<20+1) + "\x00", 2},   // nothing else is wrong
	{"\x01\x80\x10\x00\x01" + strings.Repeat("a", 1<<20+1) + "\x00z", 2},
	{"\x02\x01a\x01a\x01\x00\x00\x00", api.ErrForm},                    // all at once
	{"\x80\x00\x40\x00" + strings.Repeat("\x00", 1<<14) + "\x00", 4},   // one text so often
	{"\x80\x00\x40\x00" + strings.Repeat("\x00", 1<<14-1), 3},          // one is missing
	{"\x80\x00\x3f\xff" + strings.Repeat("\x00", 1<<14), 4},            // a number of too many bytes
	{"\x01\x01a\x01\x80\x00\x00\x05\x01", api.ErrForm},                 // of 4 bytes where one would do
	{"\x01\x01a\x01\xc0\x00\x00\x00\x00\x00\x00\x05\x01", api.ErrForm}, // of 8
	{"\x01\x01a\x01\x05\xc0\x00\x00\x00\x00\x00\x00\x01", api.ErrForm},
	{"\x01\x01a\x01\x05\xc0\x00\x00\x00\x00\x00\x00", api.ErrShort}, // one of these is missing
	{"\x01\x01a\x01\xc0\x00\x00\x00\x00\x00\x00", api.ErrShort},
	{"\x01\x01a\xc0\x00\x00\x00\x00\x00\x00", api.ErrShort},
	{"\x01\x01a\xc0\x00\x00\x00\x00\x00\x00\x01\x05\x01", api.ErrForm},
	{"\x01\x01a\x02\x05\x01\xc0\x00\x00\x00\x80\x00\x00\x00", 3},          // too great, but To is missing
	{"\x01\x01a\x02\x05\x01\xc0\x00\x00\x00\x80\x00\x00\x00\x40\x01", 4},  // both
	{"\x02\x01a\x01b\x02\x05\x01\xc0\x00\x00\x00\x7f\xff\xff\xff\x03", 4}, // the greatest foreign id, but no id
	{"\x02\x01a\x01b\x02\xc0\x00\x00\x00\x7f\xff\xff\xff\x01\x05\x02", 4}, // falls from there
	{"\x02\x01a\x01b\x02\xc0\x00\x00\x00\x7f\xff\xff\xff\x01\xc0", 3},
	{"\x02\x01a\x01b\x02\x05\x01\xc0\x00\x00\x00\x7f\xff\xff\xff\x02z", 4}, // a byte is left behind it
}

func TestLoadBroken(t *testing.T) { // P16.4: with a limit that is high enough, and with each that is not: ErrFull is told behind the others
	for _, x := range broken {
		for _, limit := range []uint64{api.MaxID, math.MaxUint64, 3, 2, 1, 0} {
			refused(t, limit, x.b, x.e)
		}
		if _, e := reading(x.b, 0); e != x.e {
			t.Errorf("the second reading of %.80q is %d, not %d", x.b, e, x.e)
		}
	}
}

func TestLoadFull(t *testing.T) { // P16.4: more texts than the limit, bound or not
	for _, x := range []struct {
		b string
		n uint64
	}{
		{"\x00\x00", 0},
		{"\x01\x01a\x00", 1},
		{"\x01\x00\x00", 1},
		{"\x01\x01a\x01\x05\x01", 1},
		{"\x02\x01a\x01b\x00", 2},
		{"\x02\x01a\x01b\x01\x05\x02", 2},
		{"\x02\x01a\x01b\x01\xc0\x00\x00\x00\x7f\xff\xff\xff\x02", 2},
		{"\x03\x01a\x01b\x01c\x03\x05\x03\x06\x02\x40\x40\x01", 3},
	} {
		for limit := range uint64(6) {
			if limit < x.n {
				refused(t, limit, x.b, api.ErrFull)
				continue
			}
			s, e := reading(x.b, limit)
			if e != api.OK {
				t.Fatalf("the second reading of %x is %d", x.b, e)
			}
			y := load(t, limit, x.b, s)
			for i := x.n; i < limit; i++ { // as many as the limit are left
				if id, e := y.Make(fmt.Sprint("new", i)); id != i+1 || e != api.OK {
					t.Errorf("Make = %d, %d, not %d", id, e, i+1)
				}
			}
			if id, e := y.Make("one too many"); id != 0 || e != api.ErrFull {
				t.Errorf("Make = %d, %d, not ErrFull", id, e)
			}
		}
		for _, limit := range []uint64{api.MaxID, api.MaxID + 1, math.MaxUint64} {
			s, _ := reading(x.b, limit)
			load(t, limit, x.b, s)
		}
	}
}

func TestLoadLongText(t *testing.T) { // P16.4, P16.6: a text of 2^20 bytes comes back, a longer one does not
	for _, n := range []int{1<<20 - 1, 1 << 20, 1<<20 + 1} {
		long := strings.Repeat("l", n)
		x, s := ids.New(3), anew(3)
		for _, p := range []step{{true, 3, "a"}, {true, 2, long}, {true, 1, "b"}} {
			p.both(t, x, s)
		}
		b := x.Save()
		if string(b) != s.save() {
			t.Errorf("%d: Save is another one", n)
		}
		if n > 1<<20 {
			refused(t, 3, string(b), api.ErrLong)
			continue
		}
		y, e := ids.Load(3, b)
		if e != api.OK || !bytes.Equal(y.Save(), b) {
			t.Fatalf("%d: Load answers %d", n, e)
		}
		if id, ok := y.Of(long); id != 2 || !ok {
			t.Errorf("%d: Of = %d, %t", n, id, ok)
		}
		if text, ok := y.Text(2); text != long || !ok {
			t.Errorf("%d: Text(2) is another one", n)
		}
	}
}

// cursor: bytes that are read from the left.
type cursor struct {
	b string
	e api.Errno // the first one
}

// wrong notes the first error.
func (c *cursor) wrong(e api.Errno, is bool) {
	if c.e == 0 && is {
		c.e = e
	}
}

// number: the next one; 0, if there was an error.
func (c *cursor) number() uint64 {
	if c.wrong(3, c.b == ""); c.e != 0 {
		return 0
	}
	size := 1 << (c.b[0] >> 6)
	if c.wrong(3, len(c.b) < size); c.e != 0 {
		return 0
	}
	n := binary.BigEndian.Uint64([]byte(strings.Repeat("\x00", 8-size)+c.b[:size])) << (64 - 8*size + 2) >> (64 - 8*size + 2)
	if c.wrong(4, least(n) != size); c.e != 0 {
		return 0
	}
	c.b = c.b[size:]
	return n
}

// reading: P16.4, word by word: the table that b is, or the first error.
func reading(b string, limit uint64) (*second, api.Errno) {
	c := &cursor{b: b}
	s := anew(limit)
	n := c.number()
	c.wrong(2, n > 1<<31-1)
	for i := uint64(0); i < n && c.e == 0; i++ {
		size := c.number()
		c.wrong(2, size > 1<<20)
		if c.wrong(3, size > uint64(len(c.b))); c.e == 0 {
			s.texts = append(s.texts, c.b[:size])
			c.b = c.b[size:]
		}
	}
	once := map[string]bool{}
	for _, text := range s.texts {
		c.wrong(4, once[text])
		once[text] = true
	}
	n = c.number()
	for i := uint64(0); i < n && c.e == 0; i++ {
		x := api.Bound{From: c.number()}
		x.To = c.number()
		c.wrong(4, x.From < 1 || x.From > 1<<31-1)
		c.wrong(4, x.To < 1 || x.To > uint64(len(s.texts)))
		for _, elder := range s.bounds {
			c.wrong(4, elder.From >= x.From || elder.To == x.To)
		}
		s.bounds = append(s.bounds, x)
	}
	c.wrong(4, c.b != "")
	c.wrong(8, uint64(len(s.texts)) > s.limit)
	if c.e != 0 {
		return nil, c.e
	}
	return s, 0
}

// against holds Load of b against the second reading.
func against(t *testing.T, limit uint64, b string) api.Errno {
	t.Helper()
	s, want := reading(b, limit)
	x, e := ids.Load(limit, []byte(b))
	if e != want || (x == nil) != (e != api.OK) {
		t.Fatalf("Load(%d, %x) answers %d, not %d", limit, b, e, want)
	}
	if e == api.OK {
		has(t, x, s)
		if string(x.Save()) != b {
			t.Fatalf("Load(%d, %x) is Saved as %x", limit, b, x.Save())
		}
	}
	return e
}

// anyTable: a table by chance, with numbers of each size among its foreign ids.
func anyTable(r *rand.Rand, limit int) *ids.Table {
	x := ids.New(uint64(limit))
	for range r.Intn(3*limit + 1) {
		p := anyStep(r, 2+limit)
		if r.Intn(3) == 0 {
			p.from = r.Uint64() >> (33 + r.Intn(31))
		}
		p.do(x)
	}
	return x
}

func TestLoadBeginnings(t *testing.T) { // P16.4: each beginning of a table's bytes ends too early
	r := rand.New(rand.NewSource(4))
	for range 300 {
		b := string(anyTable(r, 1+r.Intn(9)).Save())
		for i := range len(b) {
			refused(t, 9, b[:i], api.ErrShort)
			refused(t, 0, b[:i], api.ErrShort)
		}
	}
}

func TestLoadEachByte(t *testing.T) { // P16.4: each byte another one, put out, or doubled
	r := rand.New(rand.NewSource(5))
	seen := map[api.Errno]int{}
	for range 40 {
		b := string(anyTable(r, 1+r.Intn(5)).Save())
		for i := range len(b) {
			for c := range 256 {
				seen[against(t, 5, b[:i]+string([]byte{byte(c)})+b[i+1:])]++
			}
			against(t, 5, b[:i]+b[i+1:])
			against(t, 5, b[:i]+b[i:i+1]+b[i:])
		}
	}
	for _, e := range []api.Errno{api.OK, api.ErrLong, api.ErrShort, api.ErrForm} {
		if seen[e] < 10 {
			t.Errorf("%d of error %d", seen[e], e)
		}
	}
}

func TestLoadByChance(t *testing.T) { // P16.4: whatever numbers stand at each place of otherwise good bytes
	r := rand.New(rand.NewSource(6))
	seen := map[api.Errno]int{}
	for range 100000 {
		n, m := r.Intn(5), r.Intn(4)
		b := number(uint64(n))
		for i := range n {
			text := string(rune('a' + i))
			if r.Intn(8) == 0 {
				text = string(rune('a' + r.Intn(5)))
			}
			b += number(uint64(len(text))) + text
		}
		b += number(uint64(m))
		from, tos := uint64(0), r.Perm(max(n, m))
		for i := range m {
			from += 1 + uint64(r.Intn(90))
			x := api.Bound{From: from, To: uint64(tos[i] + 1)}
			switch r.Intn(12) {
			case 0:
				x.From = []uint64{0, api.MaxID - 1, api.MaxID, api.MaxID + 1, 1<<32 + from, api.MaxNum}[r.Intn(6)]
			case 1:
				x.To = []uint64{0, uint64(n), uint64(n) + 1, 1<<32 + 1, api.MaxNum}[r.Intn(5)]
			case 2:
				x.From -= min(from, uint64(r.Intn(50)))
			case 3:
				x.To = uint64(r.Intn(n + 1))
			}
			b += numbers(x.From, x.To)
		}
		switch r.Intn(10) {
		case 0:
			b = b[:r.Intn(len(b))]
		case 1:
			b += string([]byte{byte(r.Intn(256))})
		case 2:
			i := r.Intn(len(b))
			b = b[:i] + sized(uint64(r.Intn(64)), 1<<r.Intn(4)) + b[i:]
		}
		seen[against(t, uint64(r.Intn(7)), b)]++
	}
	for _, e := range []api.Errno{api.OK, api.ErrShort, api.ErrForm, api.ErrFull} {
		if seen[e] < 5000 {
			t.Errorf("%d of error %d", seen[e], e)
		}
	}
}

func TestBack(t *testing.T) { // P16.6: what is loaded answers alike, then and behind whatever calls; also with another limit as one of that does
	r := rand.New(rand.NewSource(7))
	for range 2000 {
		limit := 1 + r.Intn(12)
		x := anyTable(r, limit)
		s, e := reading(string(x.Save()), uint64(limit))
		if e != api.OK {
			t.Fatalf("Save() = %x is %d", x.Save(), e)
		}
		y := load(t, uint64(limit), string(x.Save()), s)
		other := uint64(x.Len() + r.Intn(5))
		z, o := load(t, other, string(x.Save()), s), &second{other, slices.Clone(s.texts), slices.Clone(s.bounds)}
		for range 30 {
			p := anyStep(r, limit+3)
			a, e := p.do(x)
			b, f := p.do(y)
			if a != b || e != f {
				t.Fatalf("%v = %d, %d, of what was loaded %d, %d", p, a, e, b, f)
			}
			p.both(t, z, o)
		}
		if !bytes.Equal(x.Save(), y.Save()) {
			t.Fatalf("Save() = %x, of what was loaded %x", x.Save(), y.Save())
		}
		has(t, z, o)
	}
}

// roomy: text's bytes with spare room behind them, and a look at whether that room, or they, were changed.
func roomy(text string) ([]byte, func(t *testing.T)) {
	all := append([]byte(text), bytes.Repeat([]byte{0xa5}, 64)...)
	was := slices.Clone(all)
	return all[:len(text)], func(t *testing.T) {
		t.Helper()
		if !bytes.Equal(all, was) {
			t.Errorf("an argument, or its spare room, was changed: %x, was %x", all, was)
		}
	}
}

// spoil fills a list, with its spare room, with what is none of its own.
func spoil[T any](l []T, x T) {
	l = l[:cap(l)]
	for i := range l {
		l[i] = x
	}
}

func TestMemoryOfArguments(t *testing.T) { // DOC.md, Memory: they are neither changed nor kept
	want := texts("ab", "c") + bounds(3, 2, 70, 1)
	s, _ := reading(want, 5)
	b, unchanged := roomy(want)
	x, e := ids.Load(5, b)
	if e != api.OK {
		t.Fatalf("Load answers %d", e)
	}
	unchanged(t)
	has(t, x, s)
	unchanged(t)
	spoil(b, 0xee)
	has(t, x, s)
	for _, bad := range []string{want + "z", want[:len(want)-1], texts("a", "a") + bounds(), texts() + bounds(1, 1)} {
		b, unchanged := roomy(bad)
		if x, e := ids.Load(5, b); x != nil || e == api.OK {
			t.Errorf("Load(%x) answers %d", bad, e)
		}
		unchanged(t)
	}
	x = ids.New(5)
	raw := []byte("abc")
	if x.Make(unsafe.String(&raw[0], 2)); x.Len() != 1 { // a text whose bytes go on being somebody's
		t.Fatalf("Len() = %d", x.Len())
	}
	x.Bind(70, unsafe.String(&raw[0], 2))
	x.Bind(3, unsafe.String(&raw[2], 1))
	spoil(raw, 'z')
	has(t, x, s)
}

func TestMemoryOfAnswers(t *testing.T) { // DOC.md, Memory: no list is shared with the table, or with another answer
	x, s := ids.New(9), anew(9)
	for _, p := range []step{{true, 5, "a"}, {true, 3, "b"}, {true, 9, "c"}, {false, 0, "d"}} {
		p.both(t, x, s)
	}
	first, other := x.Bounds(), x.Bounds()
	spoil(first, api.Bound{From: 77, To: 77})
	if !slices.Equal(other, s.rising()) {
		t.Errorf("two answers share memory: %d", other)
	}
	has(t, x, s)
	b, c := x.Save(), x.Save()
	spoil(b, 0xee)
	if string(c) != s.save() {
		t.Errorf("two answers share memory: %x", c)
	}
	has(t, x, s)
	step{true, 4, "e"}.both(t, x, s) // what comes next goes into no answer
	step{true, 7, "d"}.both(t, x, s)
	if !slices.Equal(other, bound(3, 2, 5, 1, 9, 3)) || string(c) != texts("a", "b", "c", "d")+bounds(3, 2, 5, 1, 9, 3) {
		t.Errorf("an answer was changed: %d, %x", other, c)
	}
	has(t, x, s)
	y := load(t, 9, string(x.Save()), s)
	spoil(y.Bounds(), api.Bound{From: 77, To: 77})
	spoil(y.Save(), 0xee)
	has(t, y, s)
	if l := ids.New(9).Bounds(); len(l) != 0 {
		t.Errorf("Bounds() = %d", l)
	}
}

func TestNilAndEmpty(t *testing.T) { // DOC.md, Memory: alike
	for _, b := range [][]byte{nil, {}, make([]byte, 0, 9)} {
		if x, e := ids.Load(9, b); x != nil || e != api.ErrShort {
			t.Errorf("Load answers %d", e)
		}
	}
}

func TestTwo(t *testing.T) { // DOC.md: they know nothing of one another, also if the one was loaded from the other one's bytes
	x, s := ids.New(3), anew(3)
	y, o := ids.New(2), anew(2)
	for _, p := range []step{{true, 5, "a"}, {false, 0, "b"}, {true, 6, "b"}} {
		p.both(t, x, s)
	}
	for _, p := range []step{{true, 6, "a"}, {true, 5, "c"}, {false, 0, "d"}} {
		p.both(t, y, o)
	}
	z := load(t, 3, string(x.Save()), s)
	u := &second{3, slices.Clone(s.texts), slices.Clone(s.bounds)}
	for _, p := range []step{{true, 5, "a"}, {true, 1, "new"}} {
		p.both(t, z, u)
	}
	step{true, 2, "newer"}.both(t, x, s)
	has(t, x, s)
	has(t, y, o)
	has(t, z, u)
}

func TestAskingChangesNothing(t *testing.T) { // DOC.md: what a method answers hangs on the calls made alone; those that only ask change nothing
	x, s := ids.New(3), anew(3)
	for _, p := range []step{{true, 5, "a"}, {false, 0, "b"}} {
		p.both(t, x, s)
	}
	for range 3 {
		x.Of("new")
		x.Text(3)
		x.Map(1)
		x.Bounds()
		x.Len()
		x.Save()
		has(t, x, s)
	}
	step{false, 0, "new"}.both(t, x, s)
	has(t, x, s)
}

func TestZeroValue(t *testing.T) { // DOC.md, Ends: no call panics
	var x ids.Table
	x.Make("a")
	x.Bind(1, "a")
	x.Bind(0, "a")
	x.Of("a")
	x.Text(1)
	x.Map(1)
	x.Bounds()
	x.Len()
	x.Save()
}

func TestLarge(t *testing.T) { // DOC.md, Ends: of many ids, bound in both orders; each call stays cheap
	const n = 1 << 16
	for _, from := range []func(i uint64) uint64{
		func(i uint64) uint64 { return i + 1 },
		func(i uint64) uint64 { return api.MaxID - i },
	} {
		x := ids.New(n)
		for i := range uint64(n) {
			if id, e := x.Bind(from(i), fmt.Sprint(i)); id != i+1 || e != api.OK {
				t.Fatalf("Bind = %d, %d", id, e)
			}
		}
		if id, e := x.Make("more"); id != 0 || e != api.ErrFull || x.Len() != n {
			t.Errorf("Make = %d, %d", id, e)
		}
		for i := range uint64(n) {
			if id, ok := x.Map(from(i)); id != i+1 || !ok {
				t.Fatalf("Map = %d, %t", id, ok)
			}
		}
		b := x.Save()
		y, e := ids.Load(n, b)
		if e != api.OK || !bytes.Equal(y.Save(), b) || !slices.Equal(x.Bounds(), y.Bounds()) || len(y.Bounds()) != n {
			t.Errorf("Load answers %d, or another table", e)
		}
	}
	const many = 1 << 21
	refused(t, n, "\x00\xff\xff\xff\xff\xff\xff\xff\xff"+strings.Repeat("\x01", many), api.ErrForm)
	refused(t, n, "\x00\x00"+strings.Repeat("\x00", many), api.ErrForm)
	refused(t, n, number(many)+strings.Repeat("\x00", many), api.ErrForm)
	refused(t, n, number(api.MaxID)+strings.Repeat("\x00", many), api.ErrShort)
}

func FuzzLoad(f *testing.F) { // P16.4, P16.6 of whatever bytes, and of calls behind them; and that nothing panics
	for _, s := range []string{"", "\x00\x00", "\x01\x00\x00", "\x02\x01a\x01b\x02\x05\x01\x06\x02", texts("ab", "c") + bounds(3, 2, 70, 1), texts("a", "a"), texts("a") + bounds(api.MaxID, 1)} {
		f.Add([]byte(s), uint64(3), uint64(5), "a")
	}
	f.Fuzz(func(t *testing.T, b []byte, limit, from uint64, text string) {
		against(t, limit, string(b))
		s, e := reading(string(b), limit)
		x, _ := ids.Load(limit, b)
		if e != api.OK {
			x, s = ids.New(limit), anew(limit)
		}
		for _, p := range []step{{true, from, text}, {true, 5, "a"}, {false, 0, text + "b"}, {true, from, text + "b"}, {true, from + 1, text}} {
			p.both(t, x, s)
			has(t, x, s)
		}
	})
}
