package disk_test

import (
	"bytes"
	"fmt"
	"math"
	"math/rand"
	"slices"
	"strings"
	"testing"

	"suffragan/api"
	"suffragan/disk"
)

// The kinds of steps.
const (
	write = iota
	replace
	sync
	read
	arm
	crash
	steps
)

// step: a call of a disk: of a file n with b, or Arm of n, or Crash of n and b.
type step struct {
	kind, n int
	b       string
}

func (s step) String() string {
	return fmt.Sprintf("%s(%d, %q)", []string{"Write", "Replace", "Sync", "Read", "Arm", "Crash"}[s.kind], s.n, s.b)
}

// do makes that call of d; of one that answers nothing: OK.
func do(d *disk.Disk, s step) api.Errno {
	switch s.kind {
	case write:
		return d.Write(s.n, []byte(s.b))
	case replace:
		return d.Replace(s.n, []byte(s.b))
	case sync:
		return d.Sync(s.n)
	case read:
		_, e := d.Read(s.n)
		return e
	case arm:
		d.Arm(s.n)
	case crash:
		d.Crash(s.n, []byte(s.b))
	}
	return api.OK
}

// history: a disk as the chapter has it, word by word: of each file what stands fast, and each Write and Replace since.
type history struct {
	limit int
	fast  [2]string
	since [2][]step
	gone  bool  // the power
	goes  []int // how many calls that count come ahead of the one with which it goes, if it is armed
}

// written: the file as it was written.
func (h *history) written(file int) string {
	text := h.fast[file]
	for _, s := range h.since[file] {
		if s.kind == replace {
			text = ""
		}
		text += s.b
	}
	return text
}

// size: how many bytes all files as written have.
func (h *history) size() int {
	return len(h.written(0)) + len(h.written(1))
}

// do: what the call answers; what it does is noted.
func (h *history) do(s step) api.Errno {
	switch s.kind {
	case arm:
		h.goes = []int{max(0, s.n)}
		return 0
	case crash:
		h.crash(s.n, s.b)
		return 0
	case write, replace, sync:
		if len(h.goes) == 1 {
			h.gone = h.gone || h.goes[0] == 0
			h.goes[0]--
		}
	}
	if h.gone {
		return 140
	}
	if s.n != 0 && s.n != 1 {
		return 1
	}
	switch s.kind {
	case write, replace:
		h.since[s.n] = append(slices.Clone(h.since[s.n]), s)
		if h.size() > h.limit {
			h.since[s.n] = h.since[s.n][:len(h.since[s.n])-1]
			return 8
		}
	case sync:
		h.fast[s.n], h.since[s.n] = h.written(s.n), nil
	}
	return 0
}

// crash: P14.3.
func (h *history) crash(keep int, tail string) {
	h.gone, h.goes = false, nil
	for file, since := range h.since {
		left := h.fast[file]
		if slices.ContainsFunc(since, func(s step) bool { return s.kind == replace }) {
			if keep > 0 {
				left = h.written(file)
			}
		} else if behind := strings.TrimPrefix(h.written(file), left); behind != "" {
			for i := 0; i < len(behind) && i < keep; i++ {
				left += behind[i : i+1]
			}
			left += tail
		}
		h.fast[file], h.since[file] = left, nil
	}
}

// text: the file as d reads it.
func text(t *testing.T, d *disk.Disk, file int) string {
	t.Helper()
	b, e := d.Read(file)
	if e != api.OK {
		t.Errorf("Read(%d) answers %d", file, e)
	}
	return string(b)
}

// has holds d, which has power, against what its files should have.
func has(t *testing.T, d *disk.Disk, first, second string) {
	t.Helper()
	if a, b := text(t, d, 0), text(t, d, 1); a != first || b != second {
		t.Errorf("the files are %q, %q, not %q, %q", a, b, first, second)
	}
	if d.Size() != len(first)+len(second) {
		t.Errorf("Size() = %d, not %d", d.Size(), len(first)+len(second))
	}
	if d.Dead() {
		t.Error("Dead() = true")
	}
}

// play makes all calls of a new disk, each of which should be OK.
func play(t *testing.T, limit int, l ...step) *disk.Disk {
	t.Helper()
	d := disk.New(limit)
	for i, s := range l {
		if e := do(d, s); e != api.OK {
			t.Errorf("of %v number %d answers %d", l, i, e)
		}
	}
	return d
}

// compare makes all calls of a new disk, and holds what is to be seen behind each one against a history.
func compare(t *testing.T, limit int, l []step) {
	t.Helper()
	d, h := disk.New(limit), &history{limit: max(0, min(limit, 1<<24))}
	for i, s := range l {
		if got, want := do(d, s), h.do(s); got != want {
			t.Fatalf("limit %d, of %v number %d answers %d, not %d", limit, l, i, got, want)
		}
		if d.Size() != h.size() || d.Dead() != h.gone {
			t.Fatalf("limit %d, of %v behind number %d: Size() = %d, Dead() = %t, not %d, %t", limit, l, i, d.Size(), d.Dead(), h.size(), h.gone)
		}
		for file := range 2 {
			b, e := d.Read(file)
			if h.gone && (len(b) != 0 || e != api.ErrDead) || !h.gone && (string(b) != h.written(file) || e != api.OK) {
				t.Fatalf("limit %d, of %v behind number %d: Read(%d) = %q, %d, not %q", limit, l, i, file, b, e, h.written(file))
			}
		}
	}
}

func TestConstants(t *testing.T) { // what the chapter's words hang on
	if api.FileLog != 0 || api.FileSnap != 1 || api.Files != 2 || api.MaxDisk != 16777216 {
		t.Error("another constant")
	}
	if api.ErrArg != 1 || api.ErrFull != 8 || api.ErrDead != 140 {
		t.Error("another error")
	}
}

func TestExample(t *testing.T) { // the chapter's one
	d := play(t, 100, step{write, 0, "ab"}, step{sync, 0, ""}, step{write, 0, "cd"}, step{crash, 1, "x"})
	has(t, d, "abcx", "")
}

func TestNew(t *testing.T) { // P14.1: two empty files; the limit is from 0 to MaxDisk
	for _, x := range []struct{ limit, room int }{
		{math.MinInt, 0}, {-1 << 40, 0}, {-1, 0}, {0, 0}, {1, 1}, {2, 2}, {1000, 1000},
		{1<<24 - 1, 1<<24 - 1}, {1 << 24, 1 << 24}, {1<<24 + 1, 1 << 24}, {1 << 40, 1 << 24}, {math.MaxInt, 1 << 24},
	} {
		for file := range 2 {
			for _, kind := range []int{write, replace} {
				d := disk.New(x.limit)
				has(t, d, "", "")
				b := strings.Repeat("b", x.room+1)
				if e := do(d, step{kind, file, b}); e != api.ErrFull || d.Size() != 0 {
					t.Errorf("New(%d), %d bytes: %d, Size() = %d", x.limit, len(b), e, d.Size())
				}
				if e := do(d, step{kind, file, b[1:]}); e != api.OK || d.Size() != x.room {
					t.Errorf("New(%d), %d bytes: %d, Size() = %d", x.limit, x.room, e, d.Size())
				}
				if e := do(d, step{write, 1 - file, "y"}); e != api.ErrFull || d.Size() != x.room {
					t.Errorf("New(%d), one byte more in the other file: %d, Size() = %d", x.limit, e, d.Size())
				}
			}
		}
	}
}

func TestNewHasNothing(t *testing.T) { // P14.1, P14.3: nothing is armed, and nothing of it is left
	for _, keep := range []int{-1, 0, 1, 9} {
		d := play(t, 9, step{crash, keep, "tail"})
		has(t, d, "", "")
		d = play(t, 9, step{write, 0, ""}, step{write, 1, ""}, step{crash, keep, "tail"})
		has(t, d, "", "")
	}
	d := disk.New(100)
	for range 50 {
		for _, s := range []step{{write, 0, "a"}, {replace, 1, "b"}, {sync, 0, ""}, {sync, 1, ""}} {
			if e := do(d, s); e != api.OK {
				t.Fatalf("%v answers %d", s, e)
			}
		}
	}
}

func TestWriteAndReplace(t *testing.T) { // P14.2
	for _, x := range []struct {
		l             []step
		first, second string
	}{
		{[]step{{write, 0, "ab"}}, "ab", ""},
		{[]step{{write, 1, "ab"}}, "", "ab"},
		{[]step{{write, 0, "ab"}, {write, 0, "c"}}, "abc", ""},
		{[]step{{write, 0, "ab"}, {write, 1, "x"}, {write, 0, "c"}, {write, 1, "y"}}, "abc", "xy"},
		{[]step{{write, 0, "ab"}, {write, 0, ""}}, "ab", ""},
		{[]step{{replace, 0, "ab"}}, "ab", ""},
		{[]step{{replace, 1, "ab"}}, "", "ab"},
		{[]step{{write, 0, "abc"}, {replace, 0, "d"}}, "d", ""},
		{[]step{{write, 0, "a"}, {replace, 0, "bcd"}}, "bcd", ""},
		{[]step{{write, 0, "abc"}, {replace, 0, ""}}, "", ""},
		{[]step{{write, 0, "abc"}, {write, 1, "x"}, {replace, 0, "d"}}, "d", "x"},
		{[]step{{write, 0, "abc"}, {write, 1, "x"}, {replace, 1, "d"}}, "abc", "d"},
		{[]step{{replace, 0, "abc"}, {replace, 0, "d"}, {write, 0, "e"}}, "de", ""},
		{[]step{{write, 0, "ab"}, {sync, 0, ""}, {write, 0, "c"}, {sync, 1, ""}, {write, 0, "d"}}, "abcd", ""},
		{[]step{{write, 0, "ab"}, {sync, 0, ""}, {replace, 0, "c"}, {sync, 0, ""}, {write, 0, "d"}}, "cd", ""},
		{[]step{{write, 0, "\x00\xff"}, {write, 0, "\x00"}, {replace, 1, "\x80"}}, "\x00\xff\x00", "\x80"},
	} {
		t.Run(fmt.Sprint(x.l), func(t *testing.T) {
			has(t, play(t, 100, x.l...), x.first, x.second)
		})
	}
}

func TestFull(t *testing.T) { // P14.2: both files together; what is too much changes nothing
	for _, x := range []struct {
		s step
		e api.Errno
	}{
		{step{write, 0, ""}, api.OK}, {step{write, 1, ""}, api.OK},
		{step{write, 0, "1"}, api.OK}, {step{write, 1, "1"}, api.OK},
		{step{write, 0, "12"}, api.ErrFull}, {step{write, 1, "12"}, api.ErrFull},
		{step{write, 0, strings.Repeat("1", 1000)}, api.ErrFull},
		{step{replace, 0, "123456"}, api.OK}, {step{replace, 0, "1234567"}, api.ErrFull}, // beside the other's 4
		{step{replace, 1, "12345"}, api.OK}, {step{replace, 1, "123456"}, api.ErrFull}, // beside the other's 5
		{step{replace, 0, ""}, api.OK}, {step{replace, 1, strings.Repeat("1", 11)}, api.ErrFull},
	} {
		for _, crashed := range []int{-1, 0, 1, 2, 9} {
			l := []step{{write, 0, "abc"}, {sync, 0, ""}, {write, 0, "de"}, {write, 1, "wxyz"}}
			d := play(t, 10, l...)
			if e := do(d, x.s); e != x.e {
				t.Errorf("%v answers %d, not %d", x.s, e, x.e)
			}
			if x.e == api.OK {
				continue
			}
			has(t, d, "abcde", "wxyz")
			d.Crash(crashed, []byte("!"))
			n := max(0, crashed)
			has(t, d, "abc"+"de"[:min(n, 2)]+"!", "wxyz"[:min(n, 4)]+"!")
		}
	}
}

func TestFullOfWhatIsWritten(t *testing.T) { // P14.2: what stands fast, and is not written any more, takes no room
	d := play(t, 4, step{write, 0, "abcd"}, step{sync, 0, ""}, step{replace, 0, ""}, step{write, 1, "wxyz"})
	has(t, d, "", "wxyz")
	if e := d.Write(0, []byte("a")); e != api.ErrFull {
		t.Errorf("one more answers %d", e)
	}
	d.Crash(0, nil)
	has(t, d, "abcd", "")
	d = play(t, 4, step{write, 0, "abcd"}, step{sync, 0, ""}, step{replace, 0, ""}, step{write, 1, "wxyz"}, step{sync, 1, ""}, step{crash, 0, ""})
	has(t, d, "abcd", "wxyz")
}

func TestOverTheLimit(t *testing.T) { // P14.3: Crash does not ask the limit; P14.2: those behind it do
	for _, x := range []struct {
		s             step
		e             api.Errno
		first, second string
	}{
		{step{write, 0, ""}, api.ErrFull, "ab123456", "w123456"},
		{step{write, 1, "a"}, api.ErrFull, "ab123456", "w123456"},
		{step{replace, 0, "ab12345"}, api.ErrFull, "ab123456", "w123456"},
		{step{replace, 0, ""}, api.ErrFull, "ab123456", "w123456"},
		{step{replace, 1, ""}, api.ErrFull, "ab123456", "w123456"},
		{step{sync, 0, ""}, api.OK, "ab123456", "w123456"},
		{step{sync, 1, ""}, api.OK, "ab123456", "w123456"},
	} {
		d := play(t, 3, step{write, 0, "a"}, step{sync, 0, ""}, step{write, 0, "b"}, step{write, 1, "w"}, step{crash, 5, "123456"})
		has(t, d, "ab123456", "w123456")
		if e := do(d, x.s); e != x.e {
			t.Errorf("%v answers %d, not %d", x.s, e, x.e)
		}
		has(t, d, x.first, x.second)
		d.Crash(1, []byte("!"))
		has(t, d, x.first, x.second)
	}
	d := play(t, 8, step{write, 0, "ab"}, step{sync, 0, ""}, step{write, 0, "c"}, step{write, 1, "wxyz"}, step{sync, 1, ""}, step{crash, 0, "123456"})
	has(t, d, "ab123456", "wxyz")
	if e := d.Replace(0, []byte("ab123")); e != api.ErrFull {
		t.Errorf("9 bytes of 8: %d", e)
	}
	if e := d.Replace(0, []byte("ab12")); e != api.OK {
		t.Errorf("8 bytes of 8: %d", e)
	}
	has(t, d, "ab12", "wxyz")
}

func TestNoSuchFile(t *testing.T) { // P14.1: ErrArg, ahead of ErrFull, and nothing changes
	for _, file := range []int{math.MinInt, -1 << 32, -2, -1, 2, 3, 1 << 32, math.MaxInt} {
		d := play(t, 5, step{write, 0, "ab"}, step{sync, 0, ""}, step{write, 0, "c"}, step{replace, 1, "x"})
		for _, kind := range []int{write, replace, sync, read} {
			for _, b := range []string{"", "a", "abcdef"} {
				if e := do(d, step{kind, file, b}); e != api.ErrArg {
					t.Errorf("%v answers %d", step{kind, file, b}, e)
				}
			}
		}
		if b, e := d.Read(file); len(b) != 0 || e != api.ErrArg {
			t.Errorf("Read(%d) = %q, %d", file, b, e)
		}
		has(t, d, "abc", "x")
		d.Crash(0, []byte("!"))
		has(t, d, "ab!", "")
	}
}

func TestArm(t *testing.T) { // P14.1: the first call that counts behind so many more
	for calls := -2; calls < 8; calls++ {
		for _, last := range []step{
			{write, 0, "z"}, {write, 1, ""}, {replace, 0, "z"}, {replace, 1, "z"}, {sync, 0, ""}, {sync, 1, ""},
			{write, 2, "z"}, {replace, -1, ""}, {sync, 7, ""}, // ErrDead is told ahead of ErrArg
			{write, 0, strings.Repeat("z", 100)}, {replace, 1, strings.Repeat("z", 100)}, // and of ErrFull
		} {
			d := play(t, 50, step{write, 0, "ab"}, step{sync, 0, ""}, step{write, 0, "c"}, step{write, 1, "w"}, step{arm, calls, ""})
			first := "abc"
			for i := range max(0, calls) {
				s := []step{{write, 0, "d"}, {write, 2, "d"}, {sync, -1, ""}, {replace, 0, strings.Repeat("d", 50)}}[i%4]
				if e := do(d, s); e != []api.Errno{api.OK, api.ErrArg, api.ErrArg, api.ErrFull}[i%4] {
					t.Errorf("Arm(%d), %v answers %d", calls, s, e)
				}
				if i%4 == 0 {
					first += "d"
				}
				has(t, d, first, "w")
			}
			if e := do(d, last); e != api.ErrDead || !d.Dead() {
				t.Errorf("Arm(%d), %v answers %d, Dead() = %t", calls, last, e, d.Dead())
			}
			if d.Size() != len(first)+1 {
				t.Errorf("Arm(%d), %v: Size() = %d", calls, last, d.Size())
			}
			d.Crash(100, []byte("!"))
			has(t, d, first+"!", "w!")
		}
	}
}

func TestArmEachKind(t *testing.T) { // P14.1: Write, Replace, Sync count, each alone, with OK and with ErrArg or ErrFull; no other call does
	full := strings.Repeat("z", 11)
	for _, x := range []struct {
		s step
		e api.Errno
		n int // how many times it counts
	}{
		{step{write, 0, ""}, api.OK, 1}, {step{write, 1, "b"}, api.OK, 1}, {step{write, 5, "b"}, api.ErrArg, 1}, {step{write, 1, full}, api.ErrFull, 1},
		{step{replace, 0, ""}, api.OK, 1}, {step{replace, 1, "b"}, api.OK, 1}, {step{replace, -5, "b"}, api.ErrArg, 1}, {step{replace, 0, full}, api.ErrFull, 1},
		{step{sync, 0, ""}, api.OK, 1}, {step{sync, 1, ""}, api.OK, 1}, {step{sync, 2, ""}, api.ErrArg, 1},
		{step{read, 0, ""}, api.OK, 0}, {step{read, 1, ""}, api.OK, 0}, {step{read, 2, ""}, api.ErrArg, 0},
	} {
		d := play(t, 10, step{arm, 3, ""})
		for i := range 3 {
			if e := do(d, x.s); e != x.e || d.Dead() || d.Size() > 10 {
				t.Errorf("%v number %d answers %d", x.s, i, e)
			}
		}
		for i := range 3 - 3*x.n {
			if e := d.Sync(0); e != api.OK {
				t.Errorf("behind %v, Sync number %d answers %d", x.s, i, e)
			}
		}
		if e := d.Sync(0); e != api.ErrDead {
			t.Errorf("behind %v, Sync answers %d", x.s, e)
		}
	}
}

func TestArmAgain(t *testing.T) { // P14.1: an elder one is forgotten
	for first := range 4 {
		for second := range 4 {
			for between := range first + 1 {
				d := play(t, 9, step{arm, first, ""})
				for range between {
					if e := d.Sync(0); e != api.OK {
						t.Errorf("Arm(%d): %d", first, e)
					}
				}
				d.Arm(second)
				for i := range second {
					if e := d.Sync(0); e != api.OK {
						t.Errorf("Arm(%d), %d calls, Arm(%d), call %d: %d", first, between, second, i, e)
					}
				}
				if d.Dead() || d.Sync(0) != api.ErrDead || !d.Dead() {
					t.Errorf("Arm(%d), %d calls, Arm(%d): another call", first, between, second)
				}
			}
		}
	}
}

func TestArmWhileDead(t *testing.T) { // P14.1: the power is gone until Crash; P14.3: nothing is armed then
	for _, calls := range []int{-1, 0, 1, 5} {
		d := play(t, 90, step{write, 0, "a"}, step{arm, 0, ""})
		if e := d.Sync(0); e != api.ErrDead {
			t.Errorf("Sync: %d", e)
		}
		d.Arm(calls)
		for range 3 {
			if e := d.Sync(0); e != api.ErrDead || !d.Dead() {
				t.Errorf("Arm(%d) while dead, Sync: %d", calls, e)
			}
		}
		d.Crash(0, nil)
		for range 20 {
			if e := d.Write(0, []byte("b")); e != api.OK {
				t.Errorf("Arm(%d) while dead, Crash, Write: %d", calls, e)
			}
		}
		has(t, d, strings.Repeat("b", 20), "")
	}
}

func TestCrashDisarms(t *testing.T) { // P14.3: whatever was armed, and however much of it had come
	for calls := range 5 {
		for between := range calls + 1 {
			d := play(t, 90, step{write, 0, "a"}, step{arm, calls, ""})
			for range between {
				d.Sync(1)
			}
			d.Crash(1, nil)
			for range 20 {
				if e := d.Sync(0); e != api.OK || d.Dead() {
					t.Errorf("Arm(%d), %d calls, Crash, Sync: %d", calls, between, e)
				}
			}
			has(t, d, "a", "")
		}
	}
}

func TestArmOften(t *testing.T) { // P14.1: of as many calls as an int can be
	for _, calls := range []int{1 << 31, 1 << 32, math.MaxInt} {
		d := play(t, 90, step{arm, calls, ""})
		for range 100000 {
			if e := d.Sync(0); e != api.OK {
				t.Fatalf("Arm(%d): %d", calls, e)
			}
		}
	}
	d := play(t, 90, step{arm, math.MinInt, ""})
	if e := d.Sync(0); e != api.ErrDead {
		t.Errorf("Arm of the least int: %d", e)
	}
	d = play(t, 90, step{arm, 100000, ""})
	for range 100000 {
		if e := d.Sync(0); e != api.OK {
			t.Fatalf("Arm(100000): %d", e)
		}
	}
	if e := d.Sync(0); e != api.ErrDead {
		t.Errorf("behind 100000 calls: %d", e)
	}
}

func TestDead(t *testing.T) { // P14.1: all have ErrDead until Crash, and no effect; Size is told still
	d := play(t, 9, step{write, 0, "ab"}, step{sync, 0, ""}, step{write, 0, "cd"}, step{replace, 1, "x"}, step{arm, 0, ""})
	has(t, d, "abcd", "x") // the power goes with a call, not ahead of it
	if e := d.Replace(0, nil); e != api.ErrDead {
		t.Errorf("Replace: %d", e)
	}
	for range 3 {
		for _, file := range []int{0, 1, -1, 2, math.MaxInt} {
			for kind := range arm {
				for _, b := range []string{"", "e", "0123456789"} {
					if e := do(d, step{kind, file, b}); e != api.ErrDead {
						t.Errorf("%v: %d", step{kind, file, b}, e)
					}
				}
			}
			if b, e := d.Read(file); len(b) != 0 || e != api.ErrDead {
				t.Errorf("Read(%d) = %q, %d", file, b, e)
			}
		}
		if !d.Dead() || d.Size() != 5 {
			t.Errorf("Dead() = %t, Size() = %d", d.Dead(), d.Size())
		}
	}
	d.Crash(1, []byte("!"))
	has(t, d, "abc!", "x")
}

func TestCrash(t *testing.T) { // P14.3: keep and tail, of each way that a file can stand in
	for _, x := range []struct {
		l    []step
		keep int
		tail string
		want string
	}{
		// only Writes since: the first keep of the bytes behind, and the tail
		{[]step{{write, 0, "abc"}}, 0, "", ""},
		{[]step{{write, 0, "abc"}}, 1, "", "a"},
		{[]step{{write, 0, "abc"}}, 2, "", "ab"},
		{[]step{{write, 0, "abc"}}, 3, "", "abc"},
		{[]step{{write, 0, "abc"}}, 4, "", "abc"},
		{[]step{{write, 0, "abc"}}, math.MaxInt, "", "abc"},
		{[]step{{write, 0, "abc"}}, -1, "", ""},
		{[]step{{write, 0, "abc"}}, math.MinInt, "", ""},
		{[]step{{write, 0, "abc"}}, 0, "xyz", "xyz"},
		{[]step{{write, 0, "abc"}}, -1, "xyz", "xyz"},
		{[]step{{write, 0, "abc"}}, 1, "xyz", "axyz"},
		{[]step{{write, 0, "abc"}}, 3, "xyz", "abcxyz"},
		{[]step{{write, 0, "abc"}}, 9, "xyz", "abcxyz"},
		{[]step{{write, 0, "ab"}, {write, 0, "cd"}}, 3, "x", "abcx"},
		{[]step{{write, 0, "ab"}, {sync, 0, ""}, {write, 0, "cd"}}, 0, "", "ab"},
		{[]step{{write, 0, "ab"}, {sync, 0, ""}, {write, 0, "cd"}}, -9, "x", "abx"},
		{[]step{{write, 0, "ab"}, {sync, 0, ""}, {write, 0, "cd"}}, 0, "x", "abx"},
		{[]step{{write, 0, "ab"}, {sync, 0, ""}, {write, 0, "cd"}}, 1, "", "abc"},
		{[]step{{write, 0, "ab"}, {sync, 0, ""}, {write, 0, "cd"}}, 2, "x", "abcdx"},
		{[]step{{write, 0, "ab"}, {sync, 0, ""}, {write, 0, "cd"}}, 3, "x", "abcdx"},
		{[]step{{write, 0, "ab"}, {sync, 0, ""}, {write, 0, "c"}, {write, 0, ""}, {write, 0, "d"}}, 2, "x", "abcdx"},
		{[]step{{write, 0, "ab"}, {sync, 1, ""}, {write, 0, "cd"}}, 1, "x", "ax"}, // the other file was Synced
		{[]step{{replace, 0, "ab"}, {sync, 0, ""}, {write, 0, "cd"}}, 1, "x", "abcx"},
		// nothing new: the tail is not put behind
		{[]step{{write, 0, "ab"}, {sync, 0, ""}}, 0, "x", "ab"},
		{[]step{{write, 0, "ab"}, {sync, 0, ""}}, 5, "x", "ab"},
		{[]step{{write, 0, "ab"}, {sync, 0, ""}, {write, 0, ""}}, 5, "x", "ab"},
		{[]step{{replace, 0, "ab"}, {sync, 0, ""}}, 5, "x", "ab"},
		{[]step{{write, 0, "ab"}, {sync, 0, ""}, {sync, 0, ""}}, -1, "x", "ab"},
		// a Replace since: all, or what stood fast
		{[]step{{replace, 0, "abc"}}, 0, "x", ""},
		{[]step{{replace, 0, "abc"}}, -1, "x", ""},
		{[]step{{replace, 0, "abc"}}, 1, "x", "abc"},
		{[]step{{replace, 0, "abc"}}, math.MaxInt, "x", "abc"},
		{[]step{{write, 0, "ab"}, {sync, 0, ""}, {replace, 0, "cde"}}, 0, "x", "ab"},
		{[]step{{write, 0, "ab"}, {sync, 0, ""}, {replace, 0, "cde"}}, math.MinInt, "x", "ab"},
		{[]step{{write, 0, "ab"}, {sync, 0, ""}, {replace, 0, "cde"}}, 1, "x", "cde"},
		{[]step{{write, 0, "ab"}, {sync, 0, ""}, {replace, 0, ""}}, 1, "x", ""},
		{[]step{{write, 0, "ab"}, {sync, 0, ""}, {replace, 0, ""}}, 0, "x", "ab"},
		// whether anything else was written then or not
		{[]step{{write, 0, "ab"}, {sync, 0, ""}, {replace, 0, "cd"}, {write, 0, "ef"}}, 0, "x", "ab"},
		{[]step{{write, 0, "ab"}, {sync, 0, ""}, {replace, 0, "cd"}, {write, 0, "ef"}}, 1, "x", "cdef"},
		{[]step{{write, 0, "ab"}, {sync, 0, ""}, {write, 0, "cd"}, {replace, 0, "ef"}}, 0, "x", "ab"},
		{[]step{{write, 0, "ab"}, {sync, 0, ""}, {write, 0, "cd"}, {replace, 0, "ef"}}, 1, "x", "ef"},
		{[]step{{write, 0, "ab"}, {sync, 0, ""}, {replace, 0, "cd"}, {replace, 0, "ef"}}, 1, "x", "ef"},
		{[]step{{write, 0, "ab"}, {sync, 0, ""}, {replace, 0, "ab"}}, 1, "x", "ab"},
		{[]step{{write, 0, "ab"}, {sync, 0, ""}, {replace, 0, "ab"}, {write, 0, "cd"}}, 1, "x", "abcd"}, // it begins with what stands fast, but was replaced
		{[]step{{write, 0, "ab"}, {sync, 0, ""}, {replace, 0, "ab"}, {write, 0, "cd"}}, 0, "x", "ab"},
		{[]step{{write, 0, "ab"}, {sync, 0, ""}, {replace, 0, "abcd"}}, 1, "x", "abcd"},
		{[]step{{replace, 0, ""}, {write, 0, "ab"}}, 1, "x", "ab"},
		{[]step{{replace, 0, ""}, {write, 0, "ab"}}, 0, "x", ""},
		{[]step{{write, 0, "ab"}, {replace, 0, "c"}, {sync, 1, ""}, {write, 0, "d"}}, 1, "x", "cd"},
		// since the last Sync, or Crash
		{[]step{{replace, 0, "ab"}, {sync, 0, ""}, {sync, 0, ""}, {write, 0, "cd"}}, 1, "x", "abcx"},
		{[]step{{replace, 0, "ab"}, {crash, 1, ""}, {write, 0, "cd"}}, 1, "x", "abcx"},
		{[]step{{replace, 0, "ab"}, {crash, 0, ""}, {write, 0, "cd"}}, 1, "x", "cx"},
		{[]step{{write, 0, "abc"}, {crash, 1, ""}}, 9, "x", "a"},
		{[]step{{write, 0, "abc"}, {crash, 1, "yz"}}, 0, "x", "ayz"},
		{[]step{{write, 0, "abc"}, {crash, 1, "yz"}, {write, 0, "d"}}, 0, "x", "ayzx"},
		{[]step{{write, 0, "abc"}, {crash, 0, ""}}, 9, "x", ""},
		{[]step{{write, 0, "abc"}, {crash, 2, "yz"}, {replace, 0, "d"}}, 0, "x", "abyz"},
	} {
		t.Run(fmt.Sprint(x.l, x.keep, x.tail), func(t *testing.T) {
			d := play(t, 20, x.l...)
			d.Crash(x.keep, []byte(x.tail))
			has(t, d, x.want, "")
			d.Crash(x.keep, []byte(x.tail)) // all of that stands fast now
			has(t, d, x.want, "")
			other := slices.Clone(x.l)
			for i, s := range other {
				if s.kind <= sync {
					other[i].n = 1 - s.n
				}
			}
			d = play(t, 20, other...)
			d.Crash(x.keep, []byte(x.tail))
			has(t, d, "", x.want)
		})
	}
}

func TestCrashOfBoth(t *testing.T) { // P14.3: of each file by itself
	stand := []struct {
		l         []step
		none, one string // what is left with keep 0, and with keep 1
	}{
		{nil, "", ""},
		{[]step{{write, 0, "ab"}}, "!", "a!"},
		{[]step{{write, 0, "ab"}, {sync, 0, ""}}, "ab", "ab"},
		{[]step{{write, 0, "ab"}, {sync, 0, ""}, {write, 0, "cd"}}, "ab!", "abc!"},
		{[]step{{write, 0, "ab"}, {sync, 0, ""}, {replace, 0, "cd"}}, "ab", "cd"},
		{[]step{{replace, 0, "cd"}, {write, 0, "e"}}, "", "cde"},
	}
	for _, x := range stand {
		for _, y := range stand {
			l := slices.Clone(x.l)
			for _, s := range y.l {
				l = append(l, step{s.kind, 1, s.b})
			}
			d := play(t, 20, append(slices.Clone(l), step{crash, 0, "!"})...)
			has(t, d, x.none, y.none)
			d = play(t, 20, append(slices.Clone(l), step{crash, 1, "!"})...)
			has(t, d, x.one, y.one)
		}
	}
}

func TestRefusedReplaceIsNone(t *testing.T) { // P14.3: one that had no effect did not replace
	for _, refused := range []step{{replace, 0, "0123456789"}, {replace, 2, "c"}, {replace, -1, ""}} {
		d := play(t, 8, step{write, 0, "ab"}, step{sync, 0, ""}, step{write, 0, "cd"})
		if e := do(d, refused); e == api.OK {
			t.Errorf("%v answers OK", refused)
		}
		d.Crash(1, []byte("x"))
		has(t, d, "abcx", "")
	}
	d := play(t, 8, step{write, 0, "ab"}, step{sync, 0, ""}, step{write, 0, "cd"}, step{arm, 0, ""})
	if e := d.Replace(0, []byte("e")); e != api.ErrDead {
		t.Errorf("Replace answers %d", e)
	}
	d.Crash(1, []byte("x"))
	has(t, d, "abcx", "")
	d = play(t, 8, step{write, 0, "ab"}, step{sync, 0, ""}, step{replace, 0, "cd"}, step{arm, 0, ""})
	if e := d.Sync(0); e != api.ErrDead {
		t.Errorf("Sync answers %d", e)
	}
	d.Crash(0, []byte("x"))
	has(t, d, "ab", "")
}

func TestAllShort(t *testing.T) { // P14.1, P14.2, P14.3: each line of five calls of these, against a history
	kinds := []step{
		{write, 0, "ab"}, {write, 1, "c"}, {write, 0, ""}, {replace, 0, "d"}, {replace, 0, "ab"}, {sync, 0, ""}, {sync, 2, ""},
		{arm, 1, ""}, {crash, 0, "x"}, {crash, 1, ""}, {crash, 9, "yz"},
	}
	l := make([]step, 5)
	var all func(i int)
	all = func(i int) {
		if i == len(l) {
			compare(t, 5, l)
			return
		}
		for _, s := range kinds {
			l[i] = s
			all(i + 1)
		}
	}
	all(0)
}

// some: a step by chance.
func some(r *rand.Rand) step {
	letters := "abcdefgh"[r.Intn(8):]
	s := step{kind: r.Intn(arm), n: r.Intn(2), b: letters[:r.Intn(len(letters)+1)]}
	switch r.Intn(20) {
	case 0:
		s = step{arm, r.Intn(12) - 1, ""}
	case 1, 2, 3:
		s = step{crash, r.Intn(12) - 1, s.b}
	case 4:
		s.n = r.Intn(6) - 2
	}
	return s
}

func TestManyByChance(t *testing.T) { // P14.1, P14.2, P14.3: against a history
	r := rand.New(rand.NewSource(1))
	for range 6000 {
		l := make([]step, r.Intn(80))
		for i := range l {
			l[i] = some(r)
		}
		compare(t, r.Intn(60)-2, l)
	}
}

func TestFast(t *testing.T) { // P14.4: what stood fast is a beginning of what is there behind any Crash
	r := rand.New(rand.NewSource(2))
	longer, whole := 0, 0
	for range 30000 {
		d := disk.New(40)
		var fast [2]string
		var replaced [2]bool
		for range r.Intn(30) {
			s := some(r)
			e := do(d, s)
			switch {
			case e != api.OK:
			case s.kind == replace:
				replaced[s.n] = true
			case s.kind == sync || s.kind == crash:
				for file := range fast {
					if s.kind == crash || s.n == file {
						fast[file], replaced[file] = text(t, d, file), false
					}
				}
			}
		}
		d.Crash(r.Intn(9)-1, []byte("!?"[:r.Intn(3)]))
		for file := range fast {
			got := text(t, d, file)
			if !replaced[file] && !strings.HasPrefix(got, fast[file]) {
				t.Fatalf("%q stood fast, and %q is there", fast[file], got)
			}
			if !replaced[file] && len(got) > len(fast[file]) {
				longer++
			}
			if replaced[file] && got != fast[file] {
				whole++
			}
		}
	}
	if longer < 3000 || whole < 3000 {
		t.Errorf("only %d were longer, and %d replaced", longer, whole)
	}
}

func TestLimit(t *testing.T) { // P14.5: no Write, Replace or Sync makes more than the limit, nor more of what is more
	r := rand.New(rand.NewSource(3))
	full := 0
	for range 20000 {
		limit := r.Intn(30)
		d := disk.New(limit)
		for range r.Intn(40) {
			s, was := some(r), d.Size()
			e := do(d, s)
			if s.kind != crash && d.Size() > max(limit, was) {
				t.Fatalf("limit %d, %v: Size() was %d, is %d", limit, s, was, d.Size())
			}
			if (s.kind == write || s.kind == replace) && e == api.OK && d.Size() > limit {
				t.Fatalf("limit %d, %v: Size() = %d", limit, s, d.Size())
			}
			if e != api.OK && d.Size() != was {
				t.Fatalf("limit %d, %v answers %d: Size() was %d, is %d", limit, s, e, was, d.Size())
			}
			if e == api.ErrFull {
				full++
			}
		}
	}
	if full < 20000 {
		t.Errorf("only %d found it full", full)
	}
}

// roomy: b with spare room behind it, and a look at whether that room, or b, was changed.
func roomy(text string) ([]byte, func(t *testing.T)) {
	all := append([]byte(text), bytes.Repeat([]byte{0xa5}, 100)...)
	was := slices.Clone(all)
	return all[:len(text)], func(t *testing.T) {
		t.Helper()
		if !bytes.Equal(all, was) {
			t.Errorf("an argument, or its spare room, was changed: %x, was %x", all, was)
		}
	}
}

// spoil fills b, with its spare room.
func spoil(b []byte) {
	b = b[:cap(b)]
	for i := range b {
		b[i] = '#'
	}
}

func TestMemoryOfArguments(t *testing.T) { // DOC.md, Memory: they are neither changed nor kept
	calls := map[string]func(d *disk.Disk, b []byte){
		"Write":         func(d *disk.Disk, b []byte) { d.Write(0, b) },
		"Replace":       func(d *disk.Disk, b []byte) { d.Replace(0, b) },
		"Crash":         func(d *disk.Disk, b []byte) { d.Write(0, []byte("loose")); d.Crash(1, b) },
		"Write, Sync":   func(d *disk.Disk, b []byte) { d.Write(0, b); d.Sync(0) },
		"Replace, Sync": func(d *disk.Disk, b []byte) { d.Replace(0, b); d.Sync(0) },
		"Write, Crash":  func(d *disk.Disk, b []byte) { d.Write(0, b); d.Crash(99, nil) },
		"both":          func(d *disk.Disk, b []byte) { d.Write(0, b); d.Replace(1, b); d.Crash(99, b) },
		"ErrFull": func(d *disk.Disk, b []byte) {
			d.Replace(1, make([]byte, 100-d.Size()))
			d.Write(0, b)
			d.Write(1, b)
			d.Replace(1, nil)
		},
		"ErrArg":  func(d *disk.Disk, b []byte) { d.Write(2, b); d.Replace(-1, b) },
		"ErrDead": func(d *disk.Disk, b []byte) { d.Arm(0); d.Write(0, b); d.Replace(0, b); d.Crash(9, b) },
	}
	for name, call := range calls {
		for _, ahead := range []string{"", "ahead"} {
			for _, given := range []string{"", "b", "given", "given, and longer than that"} {
				t.Run(name, func(t *testing.T) {
					d := play(t, 100, step{write, 0, ahead})
					b, unchanged := roomy(given)
					call(d, b)
					unchanged(t)
					first, second := text(t, d, 0), text(t, d, 1)
					spoil(b)
					has(t, d, first, second)
					spoiled := slices.Clone(b[:cap(b)])
					d.Write(0, []byte("more"))
					d.Write(1, []byte("other"))
					has(t, d, first+"more", second+"other")
					d.Crash(1, []byte("tail"))
					d.Write(0, []byte("more"))
					if !bytes.Equal(b[:cap(b)], spoiled) {
						t.Errorf("an argument of an elder call was changed: %q", b[:cap(b)])
					}
				})
			}
		}
	}
}

func TestMemoryOfAnswers(t *testing.T) { // DOC.md, Memory: an answer shares none with the disk, nor with another answer
	for _, l := range [][]step{
		{{write, 0, "abc"}},
		{{write, 0, "abc"}, {write, 0, "d"}, {write, 1, "xyz"}},
		{{write, 0, "abc"}, {sync, 0, ""}},
		{{write, 0, "abc"}, {sync, 0, ""}, {write, 0, "d"}},
		{{replace, 0, "abc"}, {replace, 1, "x"}},
		{{replace, 0, "abc"}, {sync, 0, ""}, {write, 0, "d"}, {crash, 9, "tail"}},
		{{write, 0, "abc"}, {write, 1, "abc"}, {crash, 0, "tail"}},
		{{replace, 0, "abc"}, {crash, 1, ""}, {replace, 0, "de"}},
	} {
		d := play(t, 100, l...)
		first, second := text(t, d, 0), text(t, d, 1)
		a, _ := d.Read(0)
		b, _ := d.Read(0)
		c, _ := d.Read(1)
		spoil(a)
		spoil(c)
		if string(b) != first {
			t.Errorf("%v: two answers share memory", l)
		}
		has(t, d, first, second)
		b = append(b, "more"...)
		has(t, d, first, second)
		want := slices.Clone(b)
		d.Write(0, []byte("later"))
		d.Crash(9, []byte("tail"))
		d.Write(0, []byte("later"))
		if !bytes.Equal(b, want) {
			t.Errorf("%v: an answer changes with the disk", l)
		}
		left := text(t, d, 0)
		spoil(a)
		has(t, d, left, text(t, d, 1))
	}
}

func TestFilesShareNothing(t *testing.T) { // P14.3: the tail is put behind both; each goes on by itself
	tail, unchanged := roomy("tail")
	d := play(t, 100, step{write, 0, "a"}, step{write, 1, "b"})
	d.Crash(0, tail)
	has(t, d, "tail", "tail")
	for i := range 5 {
		d.Write(0, []byte{'0' + byte(i)})
		d.Write(1, []byte{'5' + byte(i)})
	}
	has(t, d, "tail01234", "tail56789")
	unchanged(t)
	d.Crash(0, nil)
	has(t, d, "tail", "tail")
}

func TestWhatStandsFastStays(t *testing.T) { // P14.3: whatever is written, taken back and written anew behind it
	for size := range 70 {
		d := play(t, 1000, step{write, 0, strings.Repeat("a", size)}, step{sync, 0, ""})
		want := strings.Repeat("a", size)
		for i := range 6 {
			d.Write(0, []byte("loose"))
			d.Replace(0, []byte("other"))
			d.Write(0, []byte("more"))
			d.Crash(0, []byte("?"))
			has(t, d, want, "")
			d.Write(0, bytes.Repeat([]byte{'b' + byte(i)}, 3))
			has(t, d, want+strings.Repeat(string(rune('b'+i)), 3), "")
			d.Crash(2, nil)
			want += strings.Repeat(string(rune('b'+i)), 2)
			has(t, d, want, "")
		}
	}
}

func TestNilAndEmpty(t *testing.T) { // DOC.md, Memory: alike
	for _, none := range [][]byte{nil, {}, make([]byte, 0, 9)} {
		d := play(t, 9, step{write, 0, "ab"}, step{sync, 0, ""}, step{write, 0, "cd"}, step{write, 1, "x"})
		if e := d.Write(0, none); e != api.OK {
			t.Errorf("Write: %d", e)
		}
		has(t, d, "abcd", "x")
		if e := d.Replace(1, none); e != api.OK {
			t.Errorf("Replace: %d", e)
		}
		has(t, d, "abcd", "")
		d.Crash(1, none)
		has(t, d, "abc", "")
	}
}

func TestTwoDisks(t *testing.T) { // DOC.md: they know nothing of one another
	a, b := disk.New(9), disk.New(4)
	a.Write(0, []byte("ab"))
	b.Write(0, []byte("x"))
	a.Arm(0)
	has(t, b, "x", "")
	if e := b.Sync(0); e != api.OK {
		t.Errorf("the other one's Sync: %d", e)
	}
	if e := a.Sync(0); e != api.ErrDead || b.Dead() {
		t.Errorf("Sync: %d, the other one is dead: %t", e, b.Dead())
	}
	b.Write(1, []byte("yz"))
	b.Crash(9, nil)
	if !a.Dead() {
		t.Error("the other one's Crash brought the power back")
	}
	a.Crash(1, nil)
	has(t, a, "a", "")
	has(t, b, "x", "yz")
}

func TestLarge(t *testing.T) { // DOC.md, Ends: a whole disk, by as many calls as it has bytes
	d := disk.New(math.MaxInt)
	for i := range 1 << 23 {
		if d.Write(0, []byte{byte(i)}) != api.OK || d.Sync(0) != api.OK || d.Write(1, []byte{'y'}) != api.OK {
			t.Fatalf("call number %d", i)
		}
	}
	if e := d.Write(0, []byte("z")); e != api.ErrFull || d.Size() != 1<<24 {
		t.Errorf("one byte more: %d, Size() = %d", e, d.Size())
	}
	d.Crash(1<<22, bytes.Repeat([]byte("t"), 1<<23))
	if b := text(t, d, 0); len(b) != 1<<23 || b[1<<22+77] != 77 || b[1<<23-1] != 0xff {
		t.Errorf("the log has %d bytes", len(b))
	}
	if b := text(t, d, 1); b != strings.Repeat("y", 1<<22)+strings.Repeat("t", 1<<23) {
		t.Errorf("the snapshot has %d bytes", len(b))
	}
	if d.Size() != 1<<23+1<<22+1<<23 {
		t.Errorf("Size() = %d", d.Size())
	}
}

func FuzzDisk(f *testing.F) { // P14.1, P14.2, P14.3, of whatever calls; and that nothing panics
	f.Add(20, []byte("\x00\x00ab\x02\x00\x00\x00cd\x05\x01x"))
	f.Add(3, []byte("\x01\x00abc\x04\x01\x00\x01xyz\x05\x09!\x03\x02"))
	f.Add(-1, []byte("\x00\x07a"))
	f.Fuzz(func(t *testing.T, limit int, b []byte) {
		var l []step
		for len(b) >= 2 && len(l) < 200 {
			s := step{kind: int(b[0]) % steps, n: int(int8(b[1]))}
			n := min(int(b[0])/steps%8, len(b)-2)
			s.b, b = string(b[2:2+n]), b[2+n:]
			if s.kind < arm && s.n > 1 {
				s.n %= 3
			}
			l = append(l, s)
		}
		compare(t, limit, l)
	})
}
