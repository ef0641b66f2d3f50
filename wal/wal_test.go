package wal_test

import (
	"bytes"
	"encoding/binary"
	"fmt"
	"math"
	"math/rand"
	"reflect"
	"slices"
	"strings"
	"testing"

	"suffragan/api"
	"suffragan/disk"
	"suffragan/wal"
)

// sum: the check sum of b, worked out bit by bit, without the layers below.
func sum(b string) uint32 {
	s := uint32(0xffffffff)
	for i := range len(b) {
		s ^= uint32(b[i]) << 24
		for range 8 {
			s = s<<1 ^ s>>31*0x04c11db7
		}
	}
	return s
}

// sized: n's bytes, without the layers below; in size of them (1, 2, 4, 8), also where fewer would do.
func sized(n uint64, size int) string {
	b := binary.BigEndian.AppendUint64(nil, n)[8-size:]
	b[0] |= map[int]byte{1: 0, 2: 0x40, 4: 0x80, 8: 0xc0}[size]
	return string(b)
}

// least: how many bytes n has.
func least(n uint64) int {
	switch {
	case n < 1<<6:
		return 1
	case n < 1<<14:
		return 2
	case n < 1<<30:
		return 4
	}
	return 8
}

// number: n's bytes.
func number(n uint64) string {
	return sized(n, least(n))
}

// framed: the frame of body, without the layers below.
func framed(body string) string {
	b := number(uint64(len(body))) + body
	return b + string(binary.BigEndian.AppendUint32(nil, sum(b)))
}

// entry: the frame of the number n, and text.
func entry(n uint64, text string) string {
	return framed(number(n) + text)
}

// entries: the frames of records with the numbers from first on.
func entries(first uint64, records ...string) string {
	b := ""
	for i, text := range records {
		b += entry(first+uint64(i), text)
	}
	return b
}

// takeNumber: the number with which b begins, and how many bytes it has; 0, if there is none.
func takeNumber(b string) (uint64, int) {
	if b == "" {
		return 0, 0
	}
	size := 1 << (b[0] >> 6)
	if len(b) < size {
		return 0, 0
	}
	n := binary.BigEndian.Uint64([]byte(strings.Repeat("\x00", 8-size)+b[:size])) << (64 - 8*size + 2) >> (64 - 8*size + 2)
	if least(n) != size {
		return 0, 0
	}
	return n, size
}

// takeFrame: what lies in the frame with which b begins, and how many bytes it has; 0, if there is none.
func takeFrame(b string) (string, int) {
	n, size := takeNumber(b)
	if size == 0 || n > 1<<20 || len(b) < size+int(n)+4 {
		return "", 0
	}
	whole := b[:size+int(n)+4]
	if framed(whole[size:size+int(n)]) != whole {
		return "", 0
	}
	return whole[size : size+int(n)], len(whole)
}

// kept: what a log has, in texts.
type kept struct {
	has     bool
	snap    string
	records []string
	next    uint64
}

// told: an answer of Open, in texts.
func told(k api.Kept) kept {
	l := kept{has: k.Has, snap: string(k.Snap), next: k.Next}
	for _, b := range k.Records {
		l.records = append(l.records, string(b))
	}
	return l
}

// same: whether they are the same.
func same(a, b kept) bool {
	return a.has == b.has && a.snap == b.snap && a.next == b.next && slices.Equal(a.records, b.records)
}

// second: P15.2, word by word: what is kept by the two files, and where the log is cut; false, if it is ErrForm.
func second(log, snap string) (kept, int, bool) {
	var k kept
	if snap != "" {
		body, size := takeFrame(snap)
		n, digits := takeNumber(body)
		if size != len(snap) || digits == 0 {
			return kept{}, 0, false
		}
		k = kept{has: true, snap: body[digits:], next: n}
	}
	at := 0
	take := func(good func(n uint64) bool) (string, bool) { // the record at that place, if its number is good
		body, size := takeFrame(log[at:])
		n, digits := takeNumber(body)
		if size == 0 || digits == 0 || !good(n) {
			return "", false
		}
		at += size
		return body[digits:], true
	}
	for ok := true; ok; {
		_, ok = take(func(n uint64) bool { return n < k.next })
	}
	for {
		text, ok := take(func(n uint64) bool { return n == k.next })
		if !ok {
			return k, at, true
		}
		k.records = append(k.records, text)
		k.next++
	}
}

// laid: a disk with those two files, which stand fast.
func laid(t *testing.T, log, snap string) *disk.Disk {
	t.Helper()
	d := disk.New(api.MaxDisk)
	for file, text := range []string{log, snap} {
		if d.Replace(file, []byte(text)) != api.OK || d.Sync(file) != api.OK {
			t.Fatal("the disk does not take it")
		}
	}
	return d
}

// read: the two files of d.
func read(t *testing.T, d *disk.Disk) (string, string) {
	t.Helper()
	log, e := d.Read(api.FileLog)
	snap, f := d.Read(api.FileSnap)
	if e != api.OK || f != api.OK {
		t.Errorf("Read answers %d, %d", e, f)
	}
	return string(log), string(snap)
}

// has holds what d reads against what it should.
func has(t *testing.T, d *disk.Disk, log, snap string) {
	t.Helper()
	if a, b := read(t, d); a != log || b != snap {
		t.Errorf("the files are %q, %q, not %q, %q", a, b, log, snap)
	}
}

// open opens d, which should be OK, and holds what is told against what should be.
func open(t *testing.T, d *disk.Disk, want kept) *wal.Wal {
	t.Helper()
	w, k, e := wal.Open(d)
	if e != api.OK || w == nil {
		t.Fatalf("Open answers %d", e)
	}
	if !same(told(k), want) {
		t.Errorf("Open tells %+v, not %+v", told(k), want)
	}
	if w.Next() != want.next {
		t.Errorf("Next() = %d, not %d", w.Next(), want.next)
	}
	return w
}

// refused opens d, which should be that error, and nothing beside it.
func refused(t *testing.T, d *disk.Disk, want api.Errno) {
	t.Helper()
	w, k, e := wal.Open(d)
	if w != nil || !reflect.DeepEqual(k, api.Kept{}) || e != want {
		t.Errorf("Open answers %v, %+v, %d, not nil, nothing, %d", w, k, e, want)
	}
}

// gone: whether the power of d is gone with its next call that counts, and not ahead of that.
func gone(d *disk.Disk) bool {
	return !d.Dead() && d.Sync(0) == api.ErrDead
}

func TestConstants(t *testing.T) { // what the chapter's words hang on
	if api.FileLog != 0 || api.FileSnap != 1 || api.MaxFrame != 1<<20 || api.MaxNum != 1<<62-1 {
		t.Error("another constant")
	}
	if api.ErrArg != 1 || api.ErrLong != 2 || api.ErrForm != 4 || api.ErrFull != 8 || api.ErrDead != 140 {
		t.Error("another error")
	}
}

func TestExample(t *testing.T) { // the chapter's one; the sum was worked out by another program
	d := disk.New(100)
	w := open(t, d, kept{})
	if e := w.Append([]byte("a")); e != api.OK || w.Next() != 1 {
		t.Errorf("Append answers %d, Next() = %d", e, w.Next())
	}
	has(t, d, "\x02\x00a\x1c\xb1\xff\x2e", "")
	if entry(0, "a") != "\x02\x00a\x1c\xb1\xff\x2e" || entry(0, "") != "\x01\x00\xd2\xae\xa5\xa1" {
		t.Error("the test's own way has another one")
	}
}

func TestOnTheDisk(t *testing.T) { // P15.1: numbers rise by one, from 0 on; the snapshot is one frame
	d := disk.New(1000)
	w := open(t, d, kept{})
	has(t, d, "", "")
	for i, s := range []struct {
		snap      bool
		text      string
		log, file string
	}{
		{false, "a", entries(0, "a"), ""},
		{false, "", entries(0, "a", ""), ""},
		{false, "\x00\xff", entries(0, "a", "", "\x00\xff"), ""},
		{true, "one", "", entry(3, "one")},
		{false, "b", entries(3, "b"), entry(3, "one")},
		{false, "one", entries(3, "b", "one"), entry(3, "one")},
		{true, "", "", entry(5, "")},
		{true, "two", "", entry(5, "two")},
		{false, entry(0, "in it"), entries(5, entry(0, "in it")), entry(5, "two")},
		{true, entry(0, "in it"), "", entry(6, entry(0, "in it"))},
	} {
		next := w.Next()
		if s.snap {
			if e := w.Snap([]byte(s.text)); e != api.OK || w.Next() != next {
				t.Errorf("number %d: Snap answers %d, Next() = %d, was %d", i, e, w.Next(), next)
			}
		} else if e := w.Append([]byte(s.text)); e != api.OK || w.Next() != next+1 {
			t.Errorf("number %d: Append answers %d, Next() = %d, was %d", i, e, w.Next(), next)
		}
		has(t, d, s.log, s.file)
	}
}

// bounds: numbers around which a number's bytes change.
func bounds() []uint64 {
	return []uint64{0, 1, 62, 63, 64, 65, 16382, 16383, 16384, 1<<30 - 2, 1<<30 - 1, 1 << 30, 1 << 32, 1<<62 - 3, 1<<62 - 2}
}

func TestNumbers(t *testing.T) { // P15.1, P15.3, P15.4: of each size
	for _, n := range bounds() {
		d := laid(t, "", entry(n, "s"))
		w := open(t, d, kept{true, "s", nil, n})
		if w.Append([]byte("a")) != api.OK || w.Append([]byte("b")) != api.OK || w.Next() != n+2 {
			t.Errorf("behind %d: Next() = %d", n, w.Next())
		}
		has(t, d, entries(n, "a", "b"), entry(n, "s"))
		w = open(t, d, kept{true, "s", []string{"a", "b"}, n + 2})
		if n+2 <= api.MaxNum {
			if w.Snap([]byte("x")) != api.OK || w.Next() != n+2 {
				t.Errorf("behind %d: Next() = %d", n, w.Next())
			}
			has(t, d, "", entry(n+2, "x"))
			open(t, d, kept{true, "x", nil, n + 2})
		}
	}
}

func TestOpenNil(t *testing.T) { // P15.2
	refused(t, nil, api.ErrArg)
}

func TestOpenNew(t *testing.T) { // P15.2: of an empty disk, also of one without room
	for _, limit := range []int{-1, 0, 1, 100, math.MaxInt} {
		d := disk.New(limit)
		open(t, d, kept{})
		has(t, d, "", "")
	}
	open(t, new(disk.Disk), kept{})
}

func TestOpenDead(t *testing.T) { // P15.2: ahead of ErrForm
	for _, snap := range []string{"", entry(1, "s"), "spoilt"} {
		d := laid(t, entries(0, "a"), snap)
		d.Arm(0)
		d.Sync(0)
		refused(t, d, api.ErrDead)
		refused(t, d, api.ErrDead)
		d.Crash(0, nil)
		has(t, d, entries(0, "a"), snap)
	}
}

func TestOpenForm(t *testing.T) { // P15.2: the snapshot is neither empty nor just one frame with a number; nothing is changed then
	good := entry(3, "snap")
	huge := strings.Repeat("h", 1<<20)
	bad := []string{
		"\x00", "\x01", "x", "spoilt", good + "\x00", "\x00" + good, good + good, good + entry(4, ""), framed("") + good,
		framed(""),               // no number
		framed("\x40"),           // nor a whole one
		framed("\xc0\x00\x00"),   // nor this
		framed("\x40\x03snap"),   // nor the least form of one
		framed(sized(63, 2)),     // nor this
		framed(sized(1<<14, 8)),  // nor this
		sized(5, 2) + good[1:],   // nor of the frame's length
		sized(1<<20+1, 4) + huge, // longer than a frame
		number(1<<40) + huge,     // and this
		string(binary.BigEndian.AppendUint32([]byte("\x05\x03snap"), sum("\x05\x03snap")+1)),
	}
	for i := range len(good) {
		bad = append(bad, good[:i], good[:i]+string(good[i]^1)+good[i+1:])
	}
	for _, snap := range bad {
		if snap == "" { // that one is none
			continue
		}
		for _, log := range []string{"", entries(0, "a"), entries(3, "a") + "spoilt", "spoilt"} {
			d := laid(t, log, snap)
			d.Arm(0)
			refused(t, d, api.ErrForm)
			if d.Dead() {
				t.Errorf("of the snapshot %q a call was made", snap[:min(len(snap), 40)])
			}
			has(t, d, log, snap)
		}
	}
}

func TestOpenSnap(t *testing.T) { // P15.2: Has and Snap
	d := laid(t, "", "")
	open(t, d, kept{})
	for _, text := range []string{"", "s", "\x00", strings.Repeat("long ", 5000), entry(0, "a"), strings.Repeat("\xff", 1<<20-8)} {
		for _, n := range append(bounds(), api.MaxNum) {
			if d := laid(t, "", entry(n, text)); len(text) < 1<<20-8 || n == api.MaxNum {
				open(t, d, kept{true, text, nil, n})
				has(t, d, "", entry(n, text))
			}
		}
	}
}

func TestOpenLog(t *testing.T) { // P15.2: what is passed over, taken and cut
	five := entry(5, "snap")
	for _, x := range []struct {
		good, cut string // the log: what is ahead, and what is cut
		snap      string
		records   []string
		next      uint64
	}{
		// without a snapshot: from 0 on
		{entries(0, "a"), "", "", []string{"a"}, 1},
		{entries(0, "a", "", "c"), "", "", []string{"a", "", "c"}, 3},
		{"", entries(1, "a"), "", nil, 0},
		{"", entries(1, "a") + entries(0, "b"), "", nil, 0},
		{entries(0, "a"), entries(0, "a"), "", []string{"a"}, 1},
		{entries(0, "a"), entries(2, "b"), "", []string{"a"}, 1},
		{entries(0, "a"), entries(2, "b") + entries(1, "c"), "", []string{"a"}, 1},
		{entries(0, "a", "b"), entries(0, "a"), "", []string{"a", "b"}, 2},
		{entries(0, "a", "b"), entries(1, "b"), "", []string{"a", "b"}, 2},
		{entries(0, "a", "b"), entries(1<<40, "b"), "", []string{"a", "b"}, 2},
		{"", entries(api.MaxNum, "a"), "", nil, 0},
		// what is no frame, or has no number
		{"", "\x00", "", nil, 0},
		{"", "spoilt", "", nil, 0},
		{"", framed(""), "", nil, 0},
		{"", framed("") + entries(0, "a"), "", nil, 0},
		{"", framed("\x40\x00a"), "", nil, 0},
		{entries(0, "a"), "\x00", "", []string{"a"}, 1},
		{entries(0, "a"), "\x02\x01b", "", []string{"a"}, 1},
		{entries(0, "a"), framed("") + entries(1, "b"), "", []string{"a"}, 1},
		{entries(0, "a"), framed("\x40"), "", []string{"a"}, 1},
		{entries(0, "a"), framed("\x40\x01b") + entries(1, "b"), "", []string{"a"}, 1},
		{entries(0, "a"), sized(2, 2) + entry(1, "b")[1:], "", []string{"a"}, 1},
		{entries(0, "a"), "\x00" + entries(1, "b"), "", []string{"a"}, 1},
		{entries(0, "a"), entry(1, "b")[:6] + "!" + entry(2, "c"), "", []string{"a"}, 1},
		// behind a snapshot
		{"", "", five, nil, 5},
		{entries(5, "a"), "", five, []string{"a"}, 6},
		{entries(5, "a", "b"), "", five, []string{"a", "b"}, 7},
		{entries(0, "a", "b", "c", "d", "e"), "", five, nil, 5},
		{entries(0, "a", "b", "c", "d", "e", "f"), "", five, []string{"f"}, 6},
		{entries(3, "d", "e", "f", "g"), "", five, []string{"f", "g"}, 7},
		{entries(0, "a"), "", five, nil, 5},
		{entries(0, "a") + entries(5, "f"), "", five, []string{"f"}, 6},
		{entries(4, "a") + entries(4, "b") + entries(0, "c") + entries(5, "f"), "", five, []string{"f"}, 6}, // those passed over are in any order
		{entries(0, "a"), entries(6, "f"), five, nil, 5},
		{entries(0, "a"), entries(6, "g") + entries(5, "f"), five, nil, 5},
		{"", entries(6, "f"), five, nil, 5},
		{"", entries(1<<50, "f"), five, nil, 5},
		{entries(5, "f"), entries(4, "e"), five, []string{"f"}, 6}, // none is passed over behind one that was taken
		{entries(5, "f"), entries(0, "e") + entries(6, "g"), five, []string{"f"}, 6},
		{entries(3, "d") + entries(5, "f"), entries(3, "d") + entries(6, "g"), five, []string{"f"}, 6},
		{entries(5, "f"), entries(5, "f"), five, []string{"f"}, 6},
		{entries(0, "a"), "spoilt", five, nil, 5},
		{entries(0, "a", "b"), framed("") + entries(5, "f"), five, nil, 5},
		{"", framed("") + entries(5, "f"), five, nil, 5},
		{entries(0, "a", "b"), framed("\x40\x02c") + entries(5, "f"), five, nil, 5},
		{entries(0, "a", "b"), entry(2, "c")[:3] + entries(5, "f"), five, nil, 5},
		{"", entry(5, "f")[:5], five, nil, 5},
		{entries(5, "f"), "\x00", five, []string{"f"}, 6},
		// a snapshot of 0: none is below
		{entries(0, "a"), "", entry(0, "snap"), []string{"a"}, 1},
		{"", entries(1, "a"), entry(0, "snap"), nil, 0},
		{entries(0, "a"), entries(0, "b"), entry(0, "snap"), []string{"a"}, 1},
		// around the greatest number
		{entries(0, "a") + entry(api.MaxNum, "z"), "", entry(api.MaxNum, "snap"), []string{"z"}, 1 << 62},
		{entry(api.MaxNum-1, "y") + entry(api.MaxNum, "z"), entry(api.MaxNum, "z"), entry(api.MaxNum, "snap"), []string{"z"}, 1 << 62},
		{entries(api.MaxNum-1, "y", "z"), entries(0, "a"), entry(api.MaxNum-1, "snap"), []string{"y", "z"}, 1 << 62},
	} {
		want := kept{x.snap != "", "", x.records, x.next}
		if want.has {
			want.snap = "snap"
		}
		d := laid(t, x.good+x.cut, x.snap)
		open(t, d, want)
		has(t, d, x.good, x.snap)
		d.Crash(0, []byte("!")) // the cut stands fast
		has(t, d, x.good, x.snap)
		open(t, d, want)
		k, end, ok := second(x.good+x.cut, x.snap)
		if !ok || !same(k, want) || end != len(x.good) {
			t.Errorf("the test's second way of %q, %q tells %v, %d, %t", x.good+x.cut, x.snap, k, end, ok)
		}
	}
}

func TestOpenTorn(t *testing.T) { // P15.2: each beginning of a log, and each byte of it another one
	records := []string{"a", "", "some more", strings.Repeat("long", 30)}
	for _, snap := range []string{"", entry(0, "s"), entry(2, "s"), entry(3, "s"), entry(9, "s")} {
		log := entries(0, records...)
		for i := range len(log) {
			for _, file := range []string{log[:i], log[:i] + string([]byte{log[i] ^ 0x10}) + log[i+1:], log[:i] + log[i+1:], log[:i] + "\x00" + log[i:]} {
				want, end, _ := second(file, snap)
				d := laid(t, file, snap)
				open(t, d, want)
				has(t, d, file[:end], snap)
			}
		}
	}
}

func TestOpenManyByChance(t *testing.T) { // P15.2: against a second way
	r := rand.New(rand.NewSource(1))
	part := func() string {
		text := "records"[r.Intn(7):]
		switch r.Intn(12) {
		case 0:
			return framed(sized(uint64(r.Intn(9)), 2) + text)
		case 1:
			return framed(text[:r.Intn(2)])
		case 2:
			return text
		case 3:
			return entry(uint64(r.Intn(9)), text)[r.Intn(3):]
		case 4:
			return entry(bounds()[r.Intn(len(bounds()))], text)
		}
		return entry(uint64(r.Intn(9)), text)
	}
	good, bad, cut := 0, 0, 0
	for range 40000 {
		snap, log := "", ""
		if r.Intn(3) > 0 {
			snap = entry(uint64(r.Intn(6)), "snap"[r.Intn(5):])
		}
		if r.Intn(10) == 0 {
			snap += part()
		}
		next := uint64(r.Intn(6))
		for range r.Intn(9) {
			if r.Intn(8) == 0 {
				log += part()
			} else {
				log += entry(next, "records"[r.Intn(8):])
				next++
			}
		}
		d := laid(t, log, snap)
		want, end, ok := second(log, snap)
		if !ok {
			refused(t, d, api.ErrForm)
			has(t, d, log, snap)
			bad++
			continue
		}
		open(t, d, want)
		has(t, d, log[:end], snap)
		if t.Failed() {
			t.Fatalf("of %q, %q", log, snap)
		}
		if len(want.records) > 0 {
			good++
		}
		if end < len(log) {
			cut++
		}
	}
	if good < 5000 || bad < 1000 || cut < 5000 {
		t.Errorf("only %d had records, %d were refused, %d cut", good, bad, cut)
	}
}

func TestOpenCalls(t *testing.T) { // P15.2: of the disk none that counts, or Replace and Sync, if something is cut
	for _, x := range []struct{ good, cut, snap string }{
		{"", "", ""},
		{entries(0, "a", "b"), "", ""},
		{entries(0, "a", "b"), "", entry(1, "s")},
		{entries(0, "a", "b"), "", entry(5, "s")},
		{entries(0, "a"), "x", ""},
		{entries(0, "a"), entries(3, "b"), entry(1, "s")},
		{"", entries(9, "b"), ""},
	} {
		log := x.good + x.cut
		want, _, _ := second(log, x.snap)
		d := laid(t, log, x.snap)
		if x.cut == "" {
			d.Arm(0)
			open(t, d, want)
			if !gone(d) {
				t.Errorf("of %q a call was made", log)
			}
			continue
		}
		d.Arm(2)
		open(t, d, want)
		if !gone(d) {
			t.Errorf("of %q other calls than two were made", log)
		}
		for keep := range 2 {
			d = laid(t, log, x.snap)
			d.Arm(0) // ahead of Replace
			refused(t, d, api.ErrDead)
			d.Crash(keep, []byte("tail"))
			has(t, d, log, x.snap)
			d.Arm(1) // ahead of Sync
			refused(t, d, api.ErrDead)
			d.Crash(keep, []byte("tail"))
			has(t, d, []string{log, x.good}[keep], x.snap)
			open(t, d, want)
			has(t, d, x.good, x.snap)
			d.Crash(0, nil)
			has(t, d, x.good, x.snap)
		}
	}
}

func TestOpenFull(t *testing.T) { // P15.2: disk's other error, of a disk with more than its limit
	snap, ahead := entry(0, "snapshot"), entries(0, "a")
	d := disk.New(len(snap) + len(ahead) - 1)
	d.Replace(1, []byte(snap))
	d.Sync(1)
	d.Write(0, []byte{ahead[0]})
	d.Crash(1, []byte(ahead[1:]+"spoilt"))
	has(t, d, ahead+"spoilt", snap)
	refused(t, d, api.ErrFull)
	has(t, d, ahead+"spoilt", snap)
	d = disk.New(len(snap) + len(ahead)) // room for just what is left
	d.Replace(1, []byte(snap))
	d.Sync(1)
	d.Write(0, []byte{ahead[0]})
	d.Crash(1, []byte(ahead[1:]+"spoilt"))
	open(t, d, kept{true, "snapshot", []string{"a"}, 1})
	has(t, d, ahead, snap)
}

func TestOpenReadsWhatIsWritten(t *testing.T) { // P15.2: whether it stands fast or not: if nothing is cut, nothing is Synced
	d := disk.New(1000)
	d.Write(0, []byte(entries(2, "c")))
	d.Write(1, []byte(entry(2, "s")))
	open(t, d, kept{true, "s", []string{"c"}, 3})
	d.Crash(0, nil)
	has(t, d, "", "")
}

func TestAppendOrder(t *testing.T) { // P15.3: ErrArg, ErrLong, disk's error; nothing is changed
	long := make([]byte, api.MaxFrame+1)
	for _, x := range []struct {
		next     uint64
		dead     bool
		record   []byte
		e        api.Errno
		log      string
		nextThen uint64
	}{
		{api.MaxNum, false, []byte("a"), api.OK, entry(api.MaxNum, "a"), api.MaxNum + 1},
		{api.MaxNum, false, long, api.ErrLong, "", api.MaxNum},
		{api.MaxNum, true, long, api.ErrLong, "", api.MaxNum},
		{api.MaxNum, true, nil, api.ErrDead, "", api.MaxNum},
		{api.MaxNum + 1, false, nil, api.ErrArg, entry(api.MaxNum, "z"), api.MaxNum + 1},
		{api.MaxNum + 1, false, long, api.ErrArg, entry(api.MaxNum, "z"), api.MaxNum + 1},
		{api.MaxNum + 1, true, nil, api.ErrArg, entry(api.MaxNum, "z"), api.MaxNum + 1},
		{api.MaxNum + 1, true, long, api.ErrArg, entry(api.MaxNum, "z"), api.MaxNum + 1},
	} {
		for _, snap := range []bool{false, true} { // P15.4: Snap likewise
			d := laid(t, "", entry(api.MaxNum, "s"))
			w := open(t, d, kept{true, "s", nil, api.MaxNum})
			if x.next > api.MaxNum {
				if w.Append([]byte("z")) != api.OK || w.Next() != x.next {
					t.Errorf("Next() = %d, not %d", w.Next(), x.next)
				}
			}
			if x.dead {
				d.Arm(0)
				d.Sync(0)
			}
			call, log, file, then := w.Append, x.log, entry(api.MaxNum, "s"), x.nextThen
			if snap {
				call = w.Snap
				if x.e == api.OK {
					log, file, then = "", entry(api.MaxNum, "a"), api.MaxNum
				}
			}
			if e := call(x.record); e != x.e || w.Next() != then {
				t.Errorf("Next %d, dead %t, %d bytes, Snap %t: %d, not %d; Next() = %d", x.next, x.dead, len(x.record), snap, e, x.e, w.Next())
			}
			if x.dead {
				d.Crash(9, []byte("!"))
			}
			has(t, d, log, file)
		}
	}
}

func TestLong(t *testing.T) { // P15.3, P15.4: number and record together are at most MaxFrame
	for _, n := range append(bounds(), api.MaxNum) {
		room := api.MaxFrame - least(n)
		b := bytes.Repeat([]byte("r"), room+1)
		d := laid(t, "", entry(n, "s"))
		w := open(t, d, kept{true, "s", nil, n})
		d.Arm(0)
		if w.Append(b) != api.ErrLong || w.Snap(b) != api.ErrLong || w.Append(append(b, b...)) != api.ErrLong || w.Next() != n {
			t.Errorf("behind %d: %d bytes are not too long", n, len(b))
		}
		if !gone(d) {
			t.Errorf("behind %d: a call was made", n)
		}
		d.Crash(0, nil)
		has(t, d, "", entry(n, "s"))
		if e := w.Append(b[:room]); e != api.OK || w.Next() != n+1 {
			t.Errorf("behind %d: Append of %d bytes answers %d", n, room, e)
		}
		w = open(t, d, kept{true, "s", []string{string(b[:room])}, n + 1})
		if n+1 > api.MaxNum {
			continue
		}
		room = api.MaxFrame - least(n+1)
		if e := w.Snap(b[:room]); e != api.OK {
			t.Errorf("behind %d: Snap of %d bytes answers %d", n, room, e)
		}
		open(t, d, kept{true, string(b[:room]), nil, n + 1})
	}
}

func TestAppendCalls(t *testing.T) { // P15.3: Write, Sync
	was := entries(0, "a", "b")
	all := was + entry(2, "new")
	for _, x := range []struct {
		calls, keep int
		tail        string
		log         string
	}{
		{0, 0, "", was}, {0, 9, "tail", was}, // Write is not done
		{1, 0, "", was}, {1, -1, "", was}, {1, 0, "tail", was + "tail"}, {1, 3, "", all[:len(was)+3]}, // Sync is not done
		{1, 3, "tail", all[:len(was)+3] + "tail"}, {1, 99, "", all}, {1, 99, "tail", all + "tail"},
	} {
		d := laid(t, was, "")
		w := open(t, d, kept{false, "", []string{"a", "b"}, 2})
		d.Arm(x.calls)
		if e := w.Append([]byte("new")); e != api.ErrDead || w.Next() != 2 {
			t.Errorf("Arm(%d): Append answers %d, Next() = %d", x.calls, e, w.Next())
		}
		d.Crash(x.keep, []byte(x.tail))
		has(t, d, x.log, "")
	}
	d := laid(t, was, "")
	w := open(t, d, kept{false, "", []string{"a", "b"}, 2})
	d.Arm(2)
	if e := w.Append([]byte("new")); e != api.OK || w.Next() != 3 || !gone(d) {
		t.Errorf("Append answers %d, Next() = %d, or makes other calls than two", e, w.Next())
	}
	d.Crash(0, []byte("tail"))
	has(t, d, all, "")
	d.Arm(0)
	if w.Append(nil) != api.ErrDead || w.Append(nil) != api.ErrDead || w.Snap(nil) != api.ErrDead || w.Next() != 3 {
		t.Error("without power")
	}
}

func TestSnapCalls(t *testing.T) { // P15.4: Replace, Sync of the snapshot, Replace, Sync of the log
	log, elder, newer := entries(1, "b", "c"), entry(1, "elder"), entry(3, "newer")
	for _, x := range []struct {
		calls, keep int
		log, snap   string
	}{
		{0, 0, log, elder}, {0, 1, log, elder},
		{1, 0, log, elder}, {1, 1, log, newer},
		{2, 0, log, newer}, {2, 1, log, newer},
		{3, 0, log, newer}, {3, 1, "", newer},
	} {
		d := laid(t, log, elder)
		w := open(t, d, kept{true, "elder", []string{"b", "c"}, 3})
		d.Arm(x.calls)
		if e := w.Snap([]byte("newer")); e != api.ErrDead || w.Next() != 3 {
			t.Errorf("Arm(%d): Snap answers %d, Next() = %d", x.calls, e, w.Next())
		}
		d.Crash(x.keep, []byte("tail"))
		has(t, d, x.log, x.snap)
		if x.snap == elder {
			open(t, d, kept{true, "elder", []string{"b", "c"}, 3})
		} else {
			open(t, d, kept{true, "newer", nil, 3})
		}
		has(t, d, x.log, x.snap) // what is passed over is not cut
	}
	for _, log := range []string{log, ""} {
		d := laid(t, log, elder)
		want, _, _ := second(log, elder)
		w := open(t, d, want)
		d.Arm(4)
		if e := w.Snap([]byte("newer")); e != api.OK || w.Next() != want.next || !gone(d) {
			t.Errorf("Snap answers %d, Next() = %d, or makes other calls than four", e, w.Next())
		}
		d.Crash(0, []byte("tail"))
		has(t, d, "", entry(want.next, "newer"))
	}
}

func TestSnapFull(t *testing.T) { // P15.4: disk's error of the first call: the others are not done
	d := disk.New(40)
	w := open(t, d, kept{})
	log := entries(0, "record", "r")
	if w.Append([]byte("record")) != api.OK || w.Append([]byte("r")) != api.OK {
		t.Error("Append")
	}
	room := 40 - len(log) - len(entry(2, ""))
	b := bytes.Repeat([]byte("s"), room+1)
	d.Arm(1)
	if e := w.Snap(b); e != api.ErrFull || w.Next() != 2 || !gone(d) {
		t.Errorf("Snap answers %d, Next() = %d, or makes other calls than one", e, w.Next())
	}
	d.Crash(1, []byte("tail"))
	has(t, d, log, "")
	if e := w.Snap(b[:room]); e != api.OK {
		t.Errorf("Snap answers %d", e)
	}
	has(t, d, "", entry(2, string(b[:room])))
	open(t, d, kept{true, string(b[:room]), nil, 2})
}

// op: a call of a Wal: Append of text, or Snap, or, if again, Open.
type op struct {
	snap, again bool
	text        string
}

// do makes that call of w, which is of d; w is another one behind Open.
func (o op) do(w *wal.Wal, d *disk.Disk) (*wal.Wal, api.Errno) {
	switch {
	case o.again:
		v, _, e := wal.Open(d)
		return v, e
	case o.snap:
		return w, w.Snap([]byte(o.text))
	}
	return w, w.Append([]byte(o.text))
}

// behind: what is kept behind a call that was done.
func (k kept) behind(o op) kept {
	switch {
	case o.again:
		return k
	case o.snap:
		return kept{true, o.text, nil, k.next}
	}
	k.records = append(slices.Clone(k.records), o.text)
	k.next++
	return k
}

// tails: bytes of which, behind whatever is left of a frame, no frame comes; or one that is none of the next record.
func tails() []string {
	return []string{"", "\x00", "\x01", "tail", "\xff\xff\xff\xff", strings.Repeat("\x00", 30), "\x03\x02ab", entry(1, "x")[:5],
		framed(""), framed("\x40\x01x"), entry(1<<40, "x"), "\x80\x10\x00\x00" + strings.Repeat("g", 50)}
}

// leftOver opens d behind Crash, the power going in the midst of that, too, and answers what is told.
func leftOver(t *testing.T, d *disk.Disk, calls, keep int, tail string) (*wal.Wal, kept) {
	t.Helper()
	d.Arm(calls)
	if _, _, e := wal.Open(d); e != api.OK && e != api.ErrDead {
		t.Fatalf("Open answers %d", e)
	}
	d.Crash(keep, []byte(tail))
	w, k, e := wal.Open(d)
	if e != api.OK {
		t.Fatalf("Open answers %d", e)
	}
	return w, told(k)
}

func TestPowerAtEachCall(t *testing.T) { // P15.5: each line of four calls out of four, each call of the disk, each rest of a frame, each tail
	ops := []op{{text: "a"}, {text: ""}, {snap: true, text: "s"}, {snap: true}}
	halves := 0
	var line func(l []op)
	line = func(l []op) {
		if len(l) < 4 {
			for _, o := range ops {
				line(append(slices.Clone(l), o))
			}
			return
		}
		for calls := 0; ; calls++ {
			over := false
			for i := range 9 * len(tails()) {
				keep, tail := i%9, tails()[i/9]
				d := disk.New(1000)
				w, _, _ := wal.Open(d)
				d.Arm(calls)
				var sure, maybe kept
				e := api.OK
				for _, o := range l {
					if _, e = o.do(w, d); e != api.OK {
						maybe = sure.behind(o)
						break
					}
					sure = sure.behind(o)
				}
				if over = e == api.OK; over {
					maybe = sure
				} else if e != api.ErrDead {
					t.Fatalf("of %v a call answers %d", l, e)
				}
				d.Crash(keep-1, []byte(tail))
				w, k := leftOver(t, d, keep%3, keep%2, tail)
				if !same(k, sure) && !same(k, maybe) {
					t.Fatalf("of %v, Arm(%d), Crash(%d, %q): %+v is told, not %+v or %+v", l, calls, keep-1, tail, k, sure, maybe)
				}
				if !same(k, sure) {
					halves++
				}
				if w.Append([]byte("more")) != api.OK {
					t.Fatalf("of %v, Arm(%d), Crash(%d, %q): no more can be put behind", l, calls, keep-1, tail)
				}
				open(t, d, k.behind(op{text: "more"}))
			}
			if over {
				return
			}
		}
	}
	line(nil)
	if halves < 3000 {
		t.Errorf("only %d calls that were not answered OK were done", halves)
	}
}

// anyOp: a call by chance.
func anyOp(r *rand.Rand) op {
	text := strings.Repeat("letters and more"[r.Intn(16):], r.Intn(6))
	return op{r.Intn(6) == 0, r.Intn(6) == 0, text}
}

func TestPowerByChance(t *testing.T) { // P15.5, P15.6: again and again
	r := rand.New(rand.NewSource(2))
	done, undone := 0, 0
	for range 3000 {
		d := disk.New(api.MaxDisk)
		w := open(t, d, kept{})
		var sure kept
		for range r.Intn(6) {
			d.Arm(r.Intn(60))
			for {
				o := anyOp(r)
				v, e := o.do(w, d)
				if e == api.OK {
					w, sure = v, sure.behind(o)
					if w.Next() != sure.next {
						t.Fatalf("Next() = %d, not %d", w.Next(), sure.next)
					}
					continue
				}
				if e != api.ErrDead {
					t.Fatalf("a call answers %d", e)
				}
				maybe := sure.behind(o)
				d.Crash(r.Intn(120)-1, []byte(tails()[r.Intn(len(tails()))]))
				var k kept
				w, k = leftOver(t, d, r.Intn(4), r.Intn(2), "tail")
				switch {
				case same(k, sure):
					undone++
				case same(k, maybe):
					sure = maybe
					done++
				default:
					t.Fatalf("behind %v %+v is told, not %+v or %+v", o, k, sure, maybe)
				}
				break
			}
		}
	}
	if done < 1000 || undone < 1000 {
		t.Errorf("only %d were done, %d undone", done, undone)
	}
}

func TestGoesOn(t *testing.T) { // P15.6: as if it had not been opened again
	r := rand.New(rand.NewSource(3))
	for range 3000 {
		a, b := disk.New(2000), disk.New(2000)
		once, again := open(t, a, kept{}), open(t, b, kept{})
		var want kept
		for range r.Intn(40) {
			o := anyOp(r)
			o.again = false
			_, e := o.do(once, a)
			if _, f := o.do(again, b); e != f {
				t.Fatalf("%v answers %d, of the other one %d", o, e, f)
			}
			if e == api.OK {
				want = want.behind(o)
			}
			if r.Intn(3) == 0 {
				b.Crash(r.Intn(5), []byte("tail")) // all stands fast
			}
			again = open(t, b, want)
			log, snap := read(t, a)
			has(t, b, log, snap)
			if once.Next() != want.next || t.Failed() {
				t.Fatalf("behind %v Next() = %d, not %d", o, once.Next(), want.next)
			}
		}
	}
}

func TestGoesOnBehindWhatWasCut(t *testing.T) { // P15.6: new records stand where the log was cut
	for _, tail := range tails() {
		d := laid(t, entries(0, "a", "b")+tail, entry(1, "s"))
		w := open(t, d, kept{true, "s", []string{"b"}, 2})
		if w.Append([]byte("c")) != api.OK || w.Append([]byte("d")) != api.OK {
			t.Error("Append")
		}
		has(t, d, entries(0, "a", "b", "c", "d"), entry(1, "s"))
		open(t, d, kept{true, "s", []string{"b", "c", "d"}, 4})
	}
}

func TestFull(t *testing.T) { // P15.7: of each limit
	for limit := range 80 {
		d := disk.New(limit)
		w := open(t, d, kept{})
		var want kept
		log := ""
		for i, text := range []string{"first", "", strings.Repeat("long", 4), "b", "", "c", strings.Repeat("d", 30), ""} {
			e := w.Append([]byte(text))
			if all := log + entry(want.next, text); len(all) <= limit {
				log, want = all, want.behind(op{text: text})
				if e != api.OK {
					t.Errorf("limit %d, number %d: Append answers %d", limit, i, e)
				}
			} else if e != api.ErrFull {
				t.Errorf("limit %d, number %d: Append answers %d", limit, i, e)
			}
			if w.Next() != want.next {
				t.Errorf("limit %d, number %d: Next() = %d, not %d", limit, i, w.Next(), want.next)
			}
			has(t, d, log, "")
			open(t, d, want)
			d.Crash(9, []byte("tail"))
			has(t, d, log, "")
		}
	}
}

func TestFullMakesNoOtherCall(t *testing.T) { // P15.3, P15.7: Write alone is done; room that comes is used
	d := disk.New(20)
	w := open(t, d, kept{})
	if w.Append([]byte("record")) != api.OK {
		t.Error("Append")
	}
	d.Arm(1)
	if e := w.Append([]byte("another")); e != api.ErrFull || w.Next() != 1 || !gone(d) {
		t.Errorf("Append answers %d, Next() = %d, or makes other calls than one", e, w.Next())
	}
	d.Crash(9, nil)
	has(t, d, entries(0, "record"), "")
	if w.Snap(nil) != api.OK || w.Append([]byte("another")) != api.OK || w.Next() != 2 {
		t.Errorf("behind Snap: Next() = %d", w.Next())
	}
	has(t, d, entries(1, "another"), entry(1, ""))
	open(t, d, kept{true, "", []string{"another"}, 2})
}

// roomy: b with spare room behind it, and a look at whether that room, or b, was changed.
func roomy(text string) ([]byte, func(t *testing.T)) {
	all := append([]byte(text), bytes.Repeat([]byte{0xa5}, 100)...)
	was := slices.Clone(all)
	return all[:len(text)], func(t *testing.T) {
		t.Helper()
		if !bytes.Equal(all, was) {
			t.Errorf("an argument, or its spare room, was changed: %x, was %x", all, was)
		}
	}
}

// spoil fills b, with its spare room.
func spoil(b []byte) {
	b = b[:cap(b)]
	for i := range b {
		b[i] = '#'
	}
}

func TestMemoryOfArguments(t *testing.T) { // DOC.md, Memory: they are neither changed nor kept
	for _, text := range []string{"", "r", "record", strings.Repeat("long", 100)} {
		for _, limit := range []int{10, 10000} { // also if it is ErrFull
			d := disk.New(limit)
			w := open(t, d, kept{})
			for _, call := range []func([]byte) api.Errno{w.Append, w.Snap, w.Append, w.Append} {
				b, unchanged := roomy(text)
				call(b)
				unchanged(t)
				log, snap := read(t, d)
				spoil(b)
				has(t, d, log, snap)
			}
		}
	}
	d := disk.New(10000)
	w := open(t, d, kept{})
	b, unchanged := roomy("record")
	d.Arm(1)
	w.Append(b)
	unchanged(t)
	spoil(b)
	d.Crash(99, nil)
	has(t, d, entries(0, "record"), "")
}

func TestMemoryOfAnswers(t *testing.T) { // DOC.md, Memory: no list is shared with the disk, the Wal, or another list
	log, snap := entries(1, "old")+entries(2, "a", "b", "", "long", "c"), entry(2, "snap")
	for _, tail := range []string{"", "tail"} {
		want := kept{true, "snap", []string{"a", "b", "", "long", "c"}, 7}
		d := laid(t, log+tail, snap)
		w, k, _ := wal.Open(d)
		_, other, _ := wal.Open(d)
		spoil(k.Snap)
		if l := told(k); !slices.Equal(l.records, want.records) {
			t.Errorf("the records are %q behind a change of the snapshot", l.records)
		}
		for i := range k.Records {
			left := told(k).records
			spoil(k.Records[i])
			left[i] = strings.Repeat("#", len(left[i]))
			if l := told(k); l.snap != "####" || !slices.Equal(l.records, left) {
				t.Errorf("behind a change of record %d there is %+v", i, l)
			}
		}
		room := k.Records[:cap(k.Records)]
		for i := range room {
			room[i] = []byte("#")
		}
		if !same(told(other), want) {
			t.Errorf("another answer is %+v", told(other))
		}
		open(t, d, want)
		has(t, d, log, snap)
		if w.Append([]byte("more")) != api.OK {
			t.Error("Append")
		}
		has(t, d, log+entry(7, "more"), snap)
		if !same(told(other), want) {
			t.Errorf("behind Append another answer is %+v", told(other))
		}
	}
}

func TestNilAndEmpty(t *testing.T) { // DOC.md, Memory: alike
	for _, none := range [][]byte{nil, {}, make([]byte, 0, 9)} {
		d := disk.New(100)
		w := open(t, d, kept{})
		if w.Append(none) != api.OK || w.Append(none) != api.OK {
			t.Error("Append")
		}
		has(t, d, entries(0, "", ""), "")
		open(t, d, kept{false, "", []string{"", ""}, 2})
		if w.Snap(none) != api.OK || w.Append(none) != api.OK {
			t.Error("Snap")
		}
		has(t, d, entries(2, ""), entry(2, ""))
		open(t, d, kept{true, "", []string{""}, 3})
	}
}

func TestTwo(t *testing.T) { // DOC.md: they know nothing of one another
	a, b := disk.New(100), disk.New(100)
	v, w := open(t, a, kept{}), open(t, b, kept{})
	v.Append([]byte("a"))
	w.Append([]byte("x"))
	v.Append([]byte("b"))
	w.Snap([]byte("y"))
	a.Arm(0)
	if v.Append(nil) != api.ErrDead || w.Append([]byte("z")) != api.OK || v.Next() != 2 || w.Next() != 2 {
		t.Errorf("Next() = %d, %d", v.Next(), w.Next())
	}
	a.Crash(0, nil)
	has(t, a, entries(0, "a", "b"), "")
	has(t, b, entries(1, "z"), entry(1, "y"))
}

func TestZeroValue(t *testing.T) { // DOC.md, Ends: no call panics
	var w wal.Wal
	if w.Append([]byte("a")) == api.OK || w.Snap([]byte("a")) == api.OK || w.Next() != 0 {
		t.Error("a Wal of no disk takes records")
	}
}

func TestLarge(t *testing.T) { // DOC.md, Ends: a disk full of the least records, and one full of the greatest
	d := disk.New(math.MaxInt)
	w := open(t, d, kept{})
	n := 0
	for ; w.Append(nil) == api.OK; n++ {
	}
	if w.Next() != uint64(n) || n != 64+(1<<14-64)+(1<<24-64*6-(1<<14-64)*7)/9 {
		t.Errorf("Next() = %d behind %d records", w.Next(), n)
	}
	open(t, d, kept{false, "", make([]string, n), uint64(n)})
	if e := w.Snap([]byte("s")); e != api.ErrFull { // there is no room for both at once
		t.Errorf("Snap answers %d", e)
	}
	d = disk.New(math.MaxInt)
	w = open(t, d, kept{})
	great := strings.Repeat("g", api.MaxFrame-1)
	for range 15 {
		if e := w.Append([]byte(great)); e != api.OK {
			t.Errorf("Append answers %d", e)
		}
	}
	if e := w.Append([]byte(great)); e != api.ErrFull {
		t.Errorf("Append answers %d", e)
	}
	open(t, d, kept{false, "", slices.Repeat([]string{great}, 15), 15})
}

func FuzzWal(f *testing.F) { // P15.2, P15.5, P15.6 of whatever stands on the disk; and that nothing panics
	f.Add([]byte(entries(0, "a", "b")+"tail"), []byte(nil), 1, 2)
	f.Add([]byte(entries(0, "a", "b", "c")), []byte(entry(2, "s")), 3, 0)
	f.Add([]byte("\x00\x4e\x08\xbf\xb4"), []byte(framed("\x40\x01")), 0, 9)
	f.Fuzz(func(t *testing.T, log, snap []byte, calls, keep int) {
		d := laid(t, string(log), string(snap))
		want, end, ok := second(string(log), string(snap))
		if !ok {
			refused(t, d, api.ErrForm)
			has(t, d, string(log), string(snap))
			return
		}
		w := open(t, d, want)
		has(t, d, string(log[:end]), string(snap))
		d.Arm(calls % 8)
		for _, o := range []op{{text: "new"}, {snap: true, text: fmt.Sprint(calls)}, {text: "newer"}} {
			_, e := o.do(w, d)
			if e == api.ErrDead {
				d.Crash(keep, nil)
				v, k, e := wal.Open(d)
				if e != api.OK || !same(told(k), want) && !same(told(k), want.behind(o)) {
					t.Fatalf("%+v is told, and %d, not %+v, or behind %v", k, e, want, o)
				}
				w, want = v, told(k)
			} else if e == api.OK {
				want = want.behind(o)
			} else if want.next <= api.MaxNum {
				t.Fatalf("%v answers %d", o, e)
			}
		}
		open(t, d, want)
	})
}
