package policy_test

import (
	"fmt"
	"math"
	"math/rand"
	"slices"
	"strconv"
	"strings"
	"testing"
	"unsafe"

	"suffragan/api"
	"suffragan/canon"
	"suffragan/policy"
	"suffragan/resolve"
)

// short tells a thing's beginning.
func short(x any) string { return fmt.Sprintf("%.300s", fmt.Sprintf("%+q", x)) }

// told writes a log out: P and the policy's number, or the quoted text.
func told(l []api.Entry) string {
	var parts []string
	for _, e := range l {
		if e.Policy {
			parts = append(parts, "P"+strconv.Itoa(e.P))
		} else {
			parts = append(parts, strconv.Quote(e.S))
		}
	}
	return fmt.Sprintf("%.600s", strings.Join(parts, " "))
}

// ---- another way of working it all out

// looks: of each policy whether it looks at what a version reads, at what reads it, and whether at each one ahead.
var looks = []struct{ back, forth, all bool }{
	{false, false, false}, {true, false, false}, {false, true, false}, {true, true, false},
	{true, false, true}, {false, true, true}, {true, true, true},
}

// formed: the schemas of texts, each asked for once.
type formed map[string]api.Schema

// get: the schema of s, and whether s is its own form.
func (f formed) get(s string) (api.Schema, bool) {
	o, ok := f[s]
	if !ok {
		form, _, e := canon.Text(s)
		if e != api.OK || form != s {
			return o, false
		}
		o, _ = canon.Schema(s)
		f[s] = o
	}
	return o, true
}

// next: what P12.1 says of Next, word by word.
func (f formed) next(p int, l []string, s string) bool {
	if p < 0 || p > 6 {
		return false
	}
	for _, t := range append(slices.Clone(l), s) {
		if _, ok := f.get(t); !ok {
			return false
		}
	}
	for i, t := range l {
		if looks[p].all || i == len(l)-1 {
			if looks[p].back && !resolve.Can(f[s], f[t]) || looks[p].forth && !resolve.Can(f[t], f[s]) {
				return false
			}
		}
	}
	return true
}

// holds: what P12.1 says of Holds: pair by pair, from the last one on.
func (f formed) holds(p int, l []string) bool {
	if p < 0 || p > 6 {
		return false
	}
	for _, s := range l {
		if _, ok := f.get(s); !ok {
			return false
		}
	}
	for i := len(l) - 1; i > 0; i-- {
		first := i - 1
		if looks[p].all {
			first = 0
		}
		for j := first; j < i; j++ {
			if looks[p].back && !resolve.Can(f[l[i]], f[l[j]]) || looks[p].forth && !resolve.Can(f[l[j]], f[l[i]]) {
				return false
			}
		}
	}
	return true
}

// admit: what P12.2 says, each time of all that is visible.
func (f formed) admit(l []api.Entry) api.Admitted {
	a := api.Admitted{P: 1}
	var visible []string
	for i, e := range l {
		if e.Policy {
			if f.holds(e.P, visible) {
				a.P = e.P
			} else {
				a.Held = append(a.Held, i)
			}
			continue
		}
		if f.next(a.P, visible, e.S) {
			visible = append(visible, e.S)
			a.Visible = append(a.Visible, i)
		} else {
			a.Held = append(a.Held, i)
		}
	}
	return a
}

// alike tells whether two answers of Admit are the same.
func alike(a, b api.Admitted) bool {
	return a.P == b.P && slices.Equal(a.Visible, b.Visible) && slices.Equal(a.Held, b.Held)
}

// expectHolds holds Holds of all policies against digits: 1 of those that hold, from none on; and against the second way.
func expectHolds(t *testing.T, want string, l ...string) {
	t.Helper()
	got, second := "", ""
	for p := range 7 {
		got += digit(policy.Holds(p, l))
		second += digit(formed{}.holds(p, l))
	}
	if got != want || second != want {
		t.Errorf("of %s: the policies hold %s, in the second way %s, not %s", short(l), got, second, want)
	}
}

// expectNext holds Next of all policies against digits, and against the second way.
func expectNext(t *testing.T, want, s string, l ...string) {
	t.Helper()
	got, second := "", ""
	for p := range 7 {
		got += digit(policy.Next(p, l, s))
		second += digit(formed{}.next(p, l, s))
	}
	if got != want || second != want {
		t.Errorf("%q behind %s: Next %s, in the second way %s, not %s", s, short(l), got, second, want)
	}
}

// digit: 1 of true.
func digit(is bool) string {
	if is {
		return "1"
	}
	return "0"
}

// entry: of "P" and a number a policy, else a schema.
func entry(s string) api.Entry {
	if n, ok := strings.CutPrefix(s, "P"); ok {
		p, _ := strconv.Atoi(n)
		return api.Entry{Policy: true, P: p}
	}
	return api.Entry{S: s}
}

// logOf: entries, one of each text.
func logOf(l ...string) []api.Entry {
	var entries []api.Entry
	for _, s := range l {
		entries = append(entries, entry(s))
	}
	return entries
}

// expectAdmit holds Admit of a log against what is wanted: the policy, and for each entry + (visible), - (held back) or . (neither).
func expectAdmit(t *testing.T, p int, marks string, l ...string) {
	t.Helper()
	want := api.Admitted{P: p}
	for i, c := range marks {
		switch c {
		case '+':
			want.Visible = append(want.Visible, i)
		case '-':
			want.Held = append(want.Held, i)
		}
	}
	if len(marks) != len(l) {
		t.Fatalf("%d marks of %d entries", len(marks), len(l))
	}
	if got := policy.Admit(logOf(l...)); !alike(got, want) {
		t.Errorf("of %s: %v, not %v", told(logOf(l...)), got, want)
	}
	if got := (formed{}).admit(logOf(l...)); !alike(got, want) {
		t.Errorf("of %s in the second way: %v, not %v", told(logOf(l...)), got, want)
	}
}

// ---- the chapter's example, numbers, names

func TestExamples(t *testing.T) { // the chapter's example
	if l := []string{"int", "long"}; !policy.Holds(api.Backward, l) || policy.Holds(api.Forward, l) {
		t.Error("int, long: backward does not hold, or forward does")
	}
}

func TestConstants(t *testing.T) { // P12.1: the numbers that this file writes out are those of api
	l := []int{api.None, api.Backward, api.Forward, api.Full, api.BackwardAll, api.ForwardAll, api.FullAll, api.Policies}
	for i, p := range l {
		if i != p {
			t.Errorf("policy %d is %d", i, p)
		}
	}
}

// others: numbers that are no policies.
func others() []int {
	l := []int{math.MinInt, math.MinInt32, math.MinInt8, math.MaxInt8, math.MaxInt32, math.MaxInt}
	for i := range 60 {
		l = append(l, -1-i, 7+i, 1<<32+i, 1<<8+i, -1<<32+i)
	}
	return l
}

func TestName(t *testing.T) { // P12.1
	for p, want := range []string{"none", "backward", "forward", "full", "backward-all", "forward-all", "full-all"} {
		if got := policy.Name(p); got != want {
			t.Errorf("Name(%d) = %q", p, got)
		}
	}
	for _, p := range others() {
		if got := policy.Name(p); got != "?" {
			t.Errorf("Name(%d) = %q", p, got)
		}
	}
}

// ---- what may follow what

func TestHolds(t *testing.T) { // P12.1: of each policy, in the order none, backward, forward, full, and those three that end with -all
	expectHolds(t, "1111111")
	expectHolds(t, "1111111", "int")
	expectHolds(t, "1111111", "int", "int")
	expectHolds(t, "1100100", "int", "long")
	expectHolds(t, "1010010", "long", "int")
	expectHolds(t, "1000000", "int", "text")
	expectHolds(t, "1111111", "text", "bytes", "text", "text")
	expectHolds(t, "1000000", "int", "long", "int")
	expectHolds(t, "1100100", "int", "(int|null)", "(int|null|text)")
	expectHolds(t, "1010010", "(int|null|text)", "(int|null)", "int")
	expectHolds(t, "1100100", "int", "int", "long", "long")
	expectHolds(t, "1000000", "int", "null", "text", "long")
	// What the one ahead allows, an elder one may not.
	expectHolds(t, "1100000", "record r{a:int;}", "record r{}", "record r{a?:text;}")
	expectHolds(t, "1010000", "record r{a?:text;}", "record r{}", "record r{a:int;}")
	expectHolds(t, "1111000", "record r{a?:int;}", "record r{}", "record r{a?:text;}")
	expectHolds(t, "1111100", "record r{a?:int;}", "record r{}", "record r{a?:long;}")
	expectHolds(t, "1111010", "record r{a?:long;}", "record r{}", "record r{a?:int;}")
	expectHolds(t, "1111111", "record r{a?:int;}", "record r{}", "record r{b?:text;}", "record r{a?:int;b?:text;}")
	// Not only the first one, not only the last one.
	expectHolds(t, "1111000", "record r{b?:text;}", "record r{a?:int;}", "record r{}", "record r{a?:text;}")
	expectHolds(t, "1111000", "record r{a?:int;}", "record r{b?:int;}", "record r{}", "record r{a?:text;}")
	expectHolds(t, "1111000", "record r{a?:int;}", "record r{}", "record r{b?:int;}", "record r{a?:text;}")
	expectHolds(t, "1111000", "record r{a?:int;}", "record r{}", "record r{a?:text;}", "record r{}")
	// The failing one is the second, or comes later.
	expectHolds(t, "1000000", "text", "int", "int", "int")
	expectHolds(t, "1000000", "int", "int", "int", "text")
	expectHolds(t, "1000000", "int", "text", "int", "text", "int")
	// Versions that come again.
	expectHolds(t, "1111111", "record r{}", "record r{a?:int;}", "record r{}", "record r{a?:int;}", "record r{}")
	expectHolds(t, "1100000", "record r{a:int;}", "record r{}", "record r{}", "record r{a?:text;}")
}

func TestNext(t *testing.T) { // P12.1
	expectNext(t, "1111111", "int")
	expectNext(t, "1111111", "int", "int")
	expectNext(t, "1100100", "long", "int")
	expectNext(t, "1010010", "int", "long")
	expectNext(t, "1000000", "text", "int")
	expectNext(t, "1111010", "int", "long", "int")
	expectNext(t, "1111100", "long", "int", "long")
	expectNext(t, "1111010", "int", "long", "int", "int")
	expectNext(t, "1111000", "record r{a?:text;}", "record r{a:int;}", "record r{}")
	expectNext(t, "1100000", "record r{a?:text;b?:long;}", "record r{a:int;}", "record r{b:int;}")
	expectNext(t, "1010000", "record r{a:int;}", "record r{a?:text;}", "record r{}")
	expectNext(t, "1111000", "record r{a?:text;}", "record r{a?:int;}", "record r{}")
	expectNext(t, "1111111", "record r{a?:text;}", "record r{b?:int;}", "record r{}")
	// Those ahead need not follow one another.
	expectNext(t, "1111000", "int", "text", "int")
	expectNext(t, "1111111", "(int|text)", "(int|text)", "(text|int)")
	expectNext(t, "1100100", "(int|text)", "int", "text", "bytes", "int")
	expectNext(t, "1100000", "(int|text)", "int", "text", "null", "int")
	expectNext(t, "1010010", "int", "(int|text)", "(null|int)", "long")
	// The last one is not any of them.
	expectNext(t, "1000000", "int", "int", "int", "text")
	expectNext(t, "1000000", "text", "text", "text", "int")
	expectNext(t, "1111000", "text", "int", "text", "int", "text")
}

// formless: texts that are not their own forms, though some have one.
func formless() []string {
	return []string{
		"", " ", "int ", " int", "int\n", "[ int ]", "int# x", "(int | null)", "record r { }", "x", "Int", "int int", "(int|int)", "record r{a:q;}", "enum e<>", "fixed f 01", "fixed f 5000",
		"P1", "none", "\x00", "\xff", "int\x00", strings.Repeat("int", 1<<16), strings.Repeat("[", 21) + "int" + strings.Repeat("]", 21), strings.Repeat("[", 1<<20), strings.Repeat(" ", 1<<20) + "int",
	}
}

func TestFormless(t *testing.T) { // P12.1: whatever the policy, at each place
	for i, s := range formless() {
		if canon.Is(s) {
			t.Fatalf("the %dth is its own form", i)
		}
		expectHolds(t, "0000000", s)
		expectHolds(t, "0000000", s, s)
		expectHolds(t, "0000000", s, "int", "int")
		expectHolds(t, "0000000", "int", s, "int")
		expectHolds(t, "0000000", "int", "int", s)
		expectNext(t, "0000000", s)
		expectNext(t, "0000000", "int", s)
		expectNext(t, "0000000", "int", s, "int")
		expectNext(t, "0000000", "int", "int", s)
		expectNext(t, "0000000", "int", "int", s, "int")
		expectNext(t, "0000000", s, "int")
		expectNext(t, "0000000", s, "int", "int")
		expectNext(t, "0000000", s, s)
	}
}

func TestNoPolicy(t *testing.T) { // P12.1 to P12.3: what is none holds of nothing, lets nothing follow, is held back, implies nothing
	for _, p := range others() {
		for _, l := range [][]string{nil, {"int"}, {"int", "int"}, {"int", "long"}, {""}} {
			if policy.Holds(p, l) || policy.Next(p, l, "int") || policy.Next(p, l, "") {
				t.Errorf("%d holds of %q, or int may follow", p, l)
			}
		}
		for q := range 7 {
			if policy.Implies(p, q) || policy.Implies(q, p) || policy.Implies(p, p) {
				t.Errorf("%d implies %d, or is implied, or implies itself", p, q)
			}
		}
		for _, q := range others()[:20] {
			if policy.Implies(p, q) {
				t.Errorf("%d implies %d", p, q)
			}
		}
		of := strconv.Itoa(p)
		expectAdmit(t, 1, "-", "P"+of)
		expectAdmit(t, 1, "+-+-", "int", "P"+of, "int", "P"+of)
		expectAdmit(t, 0, ".-++", "P0", "P"+of, "int", "text")
	}
}

// ---- which policy implies which

func TestImplies(t *testing.T) { // P12.3: a row of each p, a digit of each q
	for p, row := range []string{"1000000", "1100000", "1010000", "1111000", "1100100", "1010010", "1111111"} {
		for q := range 7 {
			if got := digit(policy.Implies(p, q)); got != row[q:q+1] {
				t.Errorf("Implies(%d, %d) = %s", p, q, got)
			}
		}
	}
}

func TestWhatIsImplied(t *testing.T) { // P12.3: whether each list of which p Holds is one of which q Holds
	witness := [7][7]int{}
	lists := [][]string{
		{"int", "text"}, {"int", "long"}, {"long", "int"},
		{"record r{a:int;}", "record r{}", "record r{a?:text;}"}, {"record r{a?:text;}", "record r{}", "record r{a:int;}"}, {"record r{a?:int;}", "record r{}", "record r{a?:text;}"},
	}
	r := rand.New(rand.NewSource(12))
	for range 3000 {
		lists = append(lists, someTexts(r, r.Intn(7)))
	}
	for _, l := range lists {
		for p := range 7 {
			for q := range 7 {
				if policy.Holds(p, l) && !policy.Holds(q, l) {
					witness[p][q]++
				}
			}
		}
	}
	for p := range 7 {
		for q := range 7 {
			if policy.Implies(p, q) != (witness[p][q] == 0) {
				t.Errorf("Implies(%d, %d) = %t, but %d lists tell against it", p, q, policy.Implies(p, q), witness[p][q])
			}
		}
	}
}

// ---- what is admitted

func TestAdmit(t *testing.T) { // P12.2
	expectAdmit(t, 1, "")
	// Backward, at first.
	expectAdmit(t, 1, "+", "int")
	expectAdmit(t, 1, "++", "int", "long")
	expectAdmit(t, 1, "+-", "long", "int")
	expectAdmit(t, 1, "+-+", "long", "int", "long")
	expectAdmit(t, 1, "++-+", "int", "long", "int", "(long|null)")
	expectAdmit(t, 1, "++", "int", "int")
	// By the one ahead that is visible, not by what is held back.
	expectAdmit(t, 1, "+--+", "int", "text", "bytes", "long")
	// Backward is not backward-all.
	expectAdmit(t, 1, "+++", "record r{a:int;}", "record r{}", "record r{a?:text;}")
	expectAdmit(t, 4, ".++-", "P4", "record r{a:int;}", "record r{}", "record r{a?:text;}")
	// Each policy, where nothing is visible; the last one stays.
	expectAdmit(t, 0, ".", "P0")
	expectAdmit(t, 1, ".", "P1")
	expectAdmit(t, 2, ".", "P2")
	expectAdmit(t, 3, ".", "P3")
	expectAdmit(t, 4, ".", "P4")
	expectAdmit(t, 5, ".", "P5")
	expectAdmit(t, 6, ".", "P6")
	expectAdmit(t, 2, "........", "P0", "P6", "P5", "P5", "P1", "P3", "P4", "P2")
	expectAdmit(t, 0, ".+++", "P0", "int", "text", "null")
	expectAdmit(t, 2, ".+-+", "P2", "int", "long", "int")
	expectAdmit(t, 2, ".++-", "P2", "long", "int", "long")
	expectAdmit(t, 3, ".+--+", "P3", "text", "int", "(text|int)", "bytes")
	expectAdmit(t, 5, ".++-", "P5", "record r{a?:text;}", "record r{}", "record r{a:int;}")
	expectAdmit(t, 6, ".++-+", "P6", "record r{a?:int;}", "record r{}", "record r{a?:text;}", "record r{b?:int;}")
	// Another policy holds of what is visible, or is held back.
	expectAdmit(t, 4, "++.", "int", "long", "P4")
	expectAdmit(t, 1, "++-", "int", "long", "P2")
	expectAdmit(t, 4, "++-.-.", "int", "long", "P3", "P0", "P6", "P4")
	expectAdmit(t, 1, "++---+", "int", "long", "P2", "P3", "P5", "(long|null)")
	expectAdmit(t, 1, "+++-.", "record r{a:int;}", "record r{}", "record r{a?:text;}", "P4", "P1")
	expectAdmit(t, 0, ".++----.", "P0", "int", "text", "P1", "P2", "P3", "P6", "P0")
	expectAdmit(t, 3, ".++.-+.", "P3", "text", "bytes", "P6", "int", "text", "P3")
	expectAdmit(t, 5, "+.-+.+.", "long", "P3", "int", "long", "P2", "int", "P5")
	// A policy that was refused is asked anew, and not of what is held back; one that held need not hold later.
	expectAdmit(t, 0, ".++-+-", "P0", "int", "text", "P1", "long", "P4")
	expectAdmit(t, 2, "+.+---+.", "long", "P2", "int", "text", "long", "P1", "int", "P2")
	expectAdmit(t, 0, "+.+.+-.+-", "int", "P4", "long", "P0", "text", "P4", "P0", "bytes", "P1")
	// Versions that are no forms.
	expectAdmit(t, 1, "-+-+-", "", "int", " int", "int", "x")
	expectAdmit(t, 6, ".-+-.", "P0", "[ int ]", "[int]", "int#", "P6")
	// Versions that come again are visible again.
	expectAdmit(t, 3, ".+++-+", "P3", "text", "bytes", "text", "int", "bytes")
}

func TestWhatAnEntryHas(t *testing.T) { // P12.2: of an entry of a policy P alone, of another one S alone
	l := []api.Entry{
		{Policy: true, P: 2, S: "int", ID: 7}, {P: 4, S: "long"}, {P: -1, S: "int", ID: math.MaxUint64}, {P: 1, S: "long"},
		{Policy: true, P: 9, S: "int"}, {P: 7, S: "int"}, {Policy: true, P: 5, S: " "},
	}
	if got, want := policy.Admit(l), (api.Admitted{P: 5, Visible: []int{1, 2, 5}, Held: []int{3, 4}}); !alike(got, want) {
		t.Errorf("%v, not %v", got, want)
	}
	if got, want := policy.Admit([]api.Entry{{}}), (api.Admitted{P: 1, Held: []int{0}}); !alike(got, want) {
		t.Errorf("of the zero entry: %v, not %v", got, want)
	}
	if got, want := policy.Admit([]api.Entry{{Policy: true}}), (api.Admitted{}); !alike(got, want) {
		t.Errorf("of the policy none: %v, not %v", got, want)
	}
}

func TestTexts(t *testing.T) { // P12.3
	l := []api.Entry{{S: "int"}, {Policy: true, P: 3}, {S: ""}, {S: "no schema \xff", ID: 3}, {Policy: true, P: -2, S: "kept"}}
	for _, x := range []struct {
		at   []int
		want []string
	}{
		{nil, nil}, {[]int{0}, []string{"int"}}, {[]int{1}, []string{""}}, {[]int{0, 1, 2, 3, 4}, []string{"int", "", "", "no schema \xff", "kept"}},
		{[]int{4, 3, 0}, []string{"kept", "no schema \xff", "int"}}, {[]int{3, 3, 0, 3}, []string{"no schema \xff", "no schema \xff", "int", "no schema \xff"}},
		{[]int{5}, nil}, {[]int{-1}, nil}, {[]int{-1, 0, 5, 6, 4, math.MaxInt, math.MinInt}, []string{"int", "kept"}}, {[]int{1 << 32, 1<<32 + 1, -1 << 32, 2}, []string{""}},
	} {
		if got := policy.Texts(l, x.at); !slices.Equal(got, x.want) {
			t.Errorf("Texts at %d = %q, not %q", x.at, got, x.want)
		}
		if got := policy.Texts(nil, x.at); len(got) > 0 {
			t.Errorf("Texts of nothing at %d = %q", x.at, got)
		}
	}
	if got := policy.Texts(logOf("int", "P1", "text", "long"), policy.Admit(logOf("int", "P1", "text", "long")).Visible); !slices.Equal(got, []string{"int", "long"}) {
		t.Errorf("what is visible: %q", got)
	}
}

// ---- many by chance

// families: texts many of which read one another; some that are no forms.
var families = [][]string{
	{"int", "long", "(int|long)", "(null|int)", "(int|null)", "(null|long)", "null", "int ", "(long)"},
	{"text", "bytes", "(text)", "(bytes|null)", "(null|text|int)", "int", "text#"},
	{"record r{}", "record r{a:int;}", "record r{a?:int;}", "record r{a:long;}", "record r{a?:text;}", "record r{a?:bytes;}", "record r{a?:int;b?:int;}", "record r{b?:text;}", "record r{b:int;a?:long;}", "record r{a:(null|int);}", "record q{}", "record r {}"},
	{"record r{a?:r;}", "record r{a?:(null|r);}", "record r{a:(null|r);}", "record r{a?:(r|null);b?:int;}", "record r{a?:[r];}", "record r{a:null;}", "record r{a:q;}"},
	{"enum e<x>", "enum e<x,y>", "enum e<y>", "enum e<y,x>", "enum e<x,y,z>", "enum f<x>", "(enum e<x>|enum f<x>)", "enum e<x,>"},
	{"[int]", "[long]", "[(int|null)]", "[[int]]", "{int}", "{long}", "([int]|{int})", "([long]|{long}|null)", "[ int]"},
	{"fixed f 1", "fixed f 2", "fixed g 1", "(fixed f 1|null)", "(null|fixed f 1|fixed g 1)", "fixed f 1 "},
}

// someTexts: n texts by chance, most of them of one family; half of the time all of them are their own forms.
func someTexts(r *rand.Rand, n int) []string {
	family := families[r.Intn(len(families))]
	var pick []string
	for range 1 + r.Intn(5) {
		pick = append(pick, family[r.Intn(len(family))])
	}
	if r.Intn(4) == 0 {
		pick = append(pick, families[r.Intn(len(families))][0], formless()[r.Intn(20)])
	}
	if r.Intn(2) == 0 {
		pick = slices.DeleteFunc(append(pick, family[0]), func(s string) bool { return !canon.Is(s) })
	}
	var l []string
	for range n {
		l = append(l, pick[r.Intn(len(pick))])
	}
	return l
}

// someLog: n entries by chance, some of them of policies, few of these of numbers that are none.
func someLog(r *rand.Rand, n int) []api.Entry {
	often := 2 + r.Intn(8)
	var l []api.Entry
	for _, s := range someTexts(r, n) {
		e := api.Entry{S: s, ID: uint64(r.Intn(9))}
		if r.Intn(often) == 0 {
			e = api.Entry{Policy: true, P: r.Intn(9) - 1}
		}
		l = append(l, e)
	}
	return l
}

func TestSomeLists(t *testing.T) { // P12.1, P12.6 of lists by chance, by another way; Holds is that each Next is so, from the first on
	r := rand.New(rand.NewSource(1))
	f := formed{}
	yes, no, forms := [7]int{}, [7]int{}, [7]int{}
	for range 4000 {
		l := someTexts(r, r.Intn(9))
		allForms := !slices.ContainsFunc(l, func(s string) bool { return !canon.Is(s) })
		for p := range 7 {
			holds := policy.Holds(p, l)
			if want := f.holds(p, l); holds != want {
				t.Errorf("Holds(%d, %s) = %t", p, short(l), holds)
			}
			each := true
			for i, s := range l {
				next := policy.Next(p, l[:i], s)
				if want := f.next(p, l[:i], s); next != want {
					t.Errorf("Next(%d, %s, %q) = %t", p, short(l[:i]), s, next)
				}
				each = each && next
				if got := policy.Holds(p, l[:i+1]); got != each {
					t.Errorf("Holds(%d, %s) = %t, but each Next is so: %t", p, short(l[:i+1]), got, each)
				}
			}
			switch {
			case holds && len(l) > 3:
				yes[p]++
			case !holds && allForms:
				forms[p]++
			case !holds:
				no[p]++
			}
		}
	}
	if slices.Min(yes[:]) < 200 || slices.Min(no[:]) < 500 || slices.Min(forms[1:]) < 500 || forms[0] > 0 {
		t.Errorf("of policies hold %v, do not %v, and not though there are forms alone %v", yes, no, forms)
	}
}

// visible: the texts that are visible.
func visible(l []api.Entry, a api.Admitted) []string { return policy.Texts(l, a.Visible) }

// below: those of rising places that are below n.
func below(l []int, n int) []int {
	return slices.DeleteFunc(slices.Clone(l), func(i int) bool { return i >= n })
}

// expectLog holds what is admitted of a log, and of each beginning of it, against the second way and what it comes to.
func expectLog(t testing.TB, f formed, l []api.Entry) api.Admitted {
	t.Helper()
	whole := policy.Admit(l)
	for n := range len(l) + 1 {
		a := policy.Admit(l[:n])
		if want := f.admit(l[:n]); !alike(a, want) {
			t.Fatalf("of %s: %v, not %v", told(l[:n]), a, want)
		}
		if !policy.Holds(a.P, visible(l, a)) {
			t.Fatalf("of %s: the policy %d does not hold of what is visible, %v", told(l[:n]), a.P, a.Visible)
		}
		if !slices.Equal(a.Visible, below(whole.Visible, n)) || !slices.Equal(a.Held, below(whole.Held, n)) {
			t.Fatalf("of %s: %v, not the places below %d of %v", told(l[:n]), a, n, whole)
		}
	}
	return whole
}

// expectPlaces: that of each entry it is told once at most what comes of it, and of those of schemas just once.
func expectPlaces(t testing.TB, l []api.Entry, a api.Admitted) {
	t.Helper()
	for i, e := range l {
		is, held := slices.Contains(a.Visible, i), slices.Contains(a.Held, i)
		if is && held || is && e.Policy || !is && !held && !e.Policy {
			t.Errorf("of %s: the entry %d is visible: %t, held back: %t", told(l), i, is, held)
		}
	}
	if !slices.IsSorted(a.Visible) || !slices.IsSorted(a.Held) {
		t.Errorf("of %s: places do not rise: %v", told(l), a)
	}
}

func TestSomeLogs(t *testing.T) { // P12.2, P12.4, P12.5 of logs by chance, of all their beginnings, by another way
	r := rand.New(rand.NewSource(2))
	f := formed{}
	ends, seen, held, refused, taken := [7]int{}, 0, 0, 0, 0
	for range 3000 {
		l := someLog(r, r.Intn(16))
		a := expectLog(t, f, l)
		expectPlaces(t, l, a)
		ends[a.P]++
		seen += len(a.Visible)
		for i, e := range l {
			switch is := slices.Contains(a.Held, i); {
			case is && e.Policy:
				refused++
			case is:
				held++
			case e.Policy:
				taken++
			}
		}
	}
	if slices.Min(ends[:]) < 100 || seen < 5000 || held < 2000 || refused < 500 || taken < 1000 {
		t.Errorf("ends %v, visible %d, held back %d, policies refused %d, taken %d", ends, seen, held, refused, taken)
	}
}

func TestLongLogs(t *testing.T) { // P12.2, P12.4, P12.5 of logs as long as there may be, and longer
	r := rand.New(rand.NewSource(3))
	for _, n := range []int{api.MaxEntries - 1, api.MaxEntries, api.MaxEntries + 1, 100} {
		for range 8 {
			l := someLog(r, n)
			expectPlaces(t, l, expectLog(t, formed{}, l))
		}
	}
}

// ---- that it ends

// distinct: n texts, each of which all that are behind it read.
func distinct(n int) []string {
	var l []string
	for i := range n {
		l = append(l, "enum e<"+symbols(i+1)+">")
	}
	return l
}

// symbols: n of them.
func symbols(n int) string {
	var l []string
	for i := range n {
		l = append(l, "s"+strconv.Itoa(i))
	}
	return strings.Join(l, ",")
}

// count tells how many entries are visible, and how many held back.
func count(a api.Admitted) [2]int { return [2]int{len(a.Visible), len(a.Held)} }

func TestEnds(t *testing.T) { // DOC.md, Ends: of lists far longer than a log, by each policy
	const many = 20000
	same := slices.Repeat([]string{"text", "bytes", "text"}, many)
	rising := slices.Repeat([]string{"record r{a?:int;}", "record r{}"}, many)
	for p := range 7 {
		if !policy.Holds(p, same) || !policy.Next(p, same, "bytes") || policy.Holds(p, append(slices.Clip(same), "int ")) {
			t.Errorf("the policy %d of many texts", p)
		}
		if !policy.Holds(p, rising) || policy.Next(p, rising, "record r{a:text;}") != (p == 0 || p == 2) {
			t.Errorf("the policy %d of many records", p)
		}
		var l []api.Entry
		for i := range many {
			l = append(l, api.Entry{Policy: true, P: p}, api.Entry{S: []string{"text", "bytes"}[i%2]}, api.Entry{S: "x"}, api.Entry{Policy: true, P: i % 7})
		}
		if a := policy.Admit(l); count(a) != [2]int{many, many} || a.P != (many-1)%7 {
			t.Errorf("the policy %d: %d, %v", p, a.P, count(a))
		}
	}
	l := logOf("int")
	for range many {
		l = append(l, api.Entry{S: "long"}, api.Entry{Policy: true, P: 6})
	}
	if a := policy.Admit(l); count(a) != [2]int{many + 1, many} || a.P != 1 {
		t.Errorf("of longs behind an int: %d, %v", a.P, count(a))
	}
	long := distinct(120)
	if !policy.Holds(4, long) || policy.Holds(5, long) || !policy.Next(4, long, long[119]) || policy.Next(4, long, long[118]) {
		t.Error("of many enums")
	}
	huge := strings.Repeat("[", 1<<26)
	if policy.Holds(0, []string{huge}) || policy.Next(0, nil, huge) || policy.Next(0, []string{huge}, "int") || count(policy.Admit([]api.Entry{{S: huge}})) != [2]int{0, 1} {
		t.Error("a huge text")
	}
	if got := policy.Texts([]api.Entry{{S: "int"}}, make([]int, 1<<20)); len(got) != 1<<20 {
		t.Errorf("%d texts", len(got))
	}
}

// heavy: a text of much that a reader has to look at: records, each with the ones ahead of it.
func heavy(base string) string {
	s := "record r{"
	for i := range 45 {
		s += "f" + strconv.Itoa(i) + ":record n" + strconv.Itoa(i) + "{a:" + base + ";b:(null"
		for j := max(0, i-4); j < i; j++ {
			s += "|n" + strconv.Itoa(j)
		}
		s += ");};"
	}
	return s + "}"
}

func TestHeavy(t *testing.T) { // DOC.md, Ends: of schemas as large as there may be, as many as a log has
	ints, longs := heavy("int"), heavy("long")
	var l []string
	for i := range api.MaxEntries {
		l = append(l, []string{ints, longs}[i/32])
	}
	expectHolds(t, "1100100", l...)
	slices.Reverse(l)
	expectHolds(t, "1010010", l...)
}

// ---- the rules that hold everywhere

// spare fills the spare room of a list.
func spare[T any](l []T, x T) []T {
	l = append(l, x, x, x)[:len(l)]
	room := l[len(l):cap(l)]
	for i := range room {
		room[i] = x
	}
	return l
}

// whole: a list with its spare room, written out.
func whole[T any](l []T) string { return fmt.Sprintf("%#v", l[:cap(l)]) }

// lend: s in bytes that can be changed behind it.
func lend(s string) (string, []byte) {
	b := append([]byte(s), 0)
	return unsafe.String(&b[0], len(s)), b
}

func TestMemory(t *testing.T) { // DOC.md, Memory: what is handed in is neither changed nor kept; each answer is new
	r := rand.New(rand.NewSource(5))
	for range 300 {
		l, texts := spare(someLog(r, r.Intn(12)), api.Entry{S: "spare"}), spare(someTexts(r, r.Intn(12)), "spare")
		at := spare([]int{0, 2, -1, 0, 40, 1}, 0)
		was, wasToo, wasAt := whole(l), whole(texts), whole(at)
		first, second := policy.Admit(l), policy.Admit(l)
		got, again := policy.Texts(l, at), policy.Texts(l, at)
		for p := range 7 {
			policy.Holds(p, texts)
			policy.Next(p, texts, "int")
		}
		want, wantTexts := fmt.Sprint(formed{}.admit(l)), fmt.Sprint(got)
		// The answers' room is filled one by one: nothing else may change by it.
		for _, room := range [][]int{first.Visible, first.Held} {
			room = room[:cap(room)]
			for i := range room {
				room[i] = -7
			}
			if whole(l) != was || whole(texts) != wasToo || whole(at) != wasAt || fmt.Sprint(second) != want {
				t.Fatalf("of %s: an answer shares memory", told(l))
			}
		}
		spare(got, "other")
		clear(got)
		if whole(l) != was || whole(texts) != wasToo || whole(at) != wasAt || fmt.Sprint(again) != wantTexts {
			t.Fatalf("of %s: Texts shares memory", told(l))
		}
		clear(l)
		clear(at)
		if fmt.Sprint(second) != want || fmt.Sprint(again) != wantTexts {
			t.Fatalf("an answer was kept in an argument: %v, %q", second, again)
		}
	}
}

func TestPlacesApart(t *testing.T) { // DOC.md, Memory: no two lists of an answer share any, spare room included
	r := rand.New(rand.NewSource(6))
	for range 500 {
		a := policy.Admit(someLog(r, r.Intn(20)))
		was := slices.Clone(a.Held)
		for i := range a.Visible[:cap(a.Visible)] {
			a.Visible[:cap(a.Visible)][i] = -1
		}
		if !slices.Equal(a.Held, was) {
			t.Fatal("what is visible and what is held back share memory")
		}
		for i := range a.Held[:cap(a.Held)] {
			a.Held[:cap(a.Held)][i] = -2
		}
		if slices.Contains(a.Visible[:cap(a.Visible)], -2) {
			t.Fatal("what is held back and what is visible share memory")
		}
	}
}

func TestLentTexts(t *testing.T) { // DOC.md, Memory: also the texts that are answered are new
	for _, s := range []string{"i", "int", "record r{a:int;}", strings.Repeat("long", 1000)} {
		lent, b := lend(s)
		l := policy.Texts([]api.Entry{{S: lent}, {S: lent}}, []int{1, 0})
		policy.Holds(0, []string{lent})
		policy.Next(0, []string{lent}, lent)
		policy.Admit([]api.Entry{{S: lent}})
		clear(b)
		if !slices.Equal(l, []string{s, s}) {
			t.Errorf("%q was kept: %q", short(s), short(l))
		}
		if policy.Holds(0, []string{s}) != canon.Is(s) || policy.Next(0, []string{s}, s) != canon.Is(s) || (len(policy.Admit([]api.Entry{{S: s}}).Visible) == 1) != canon.Is(s) {
			t.Errorf("%q was kept", short(s))
		}
	}
}

func TestNilAndEmpty(t *testing.T) { // DOC.md, Memory: they are alike
	for p := range 7 {
		if !policy.Holds(p, nil) || !policy.Holds(p, []string{}) || !policy.Next(p, nil, "int") || !policy.Next(p, []string{}, "int") {
			t.Errorf("the policy %d of nothing", p)
		}
	}
	for _, l := range [][]api.Entry{nil, {}} {
		if !alike(policy.Admit(l), api.Admitted{P: 1}) || len(policy.Texts(l, nil)) > 0 || len(policy.Texts(l, []int{})) > 0 || len(policy.Texts(l, []int{0})) > 0 {
			t.Errorf("of the log %#v", l)
		}
	}
	if len(policy.Texts(logOf("int"), nil)) > 0 || len(policy.Texts(logOf("int"), []int{})) > 0 {
		t.Error("texts at no places")
	}
}

func TestArgumentsAlone(t *testing.T) { // DOC.md, From arguments alone: each time the same, whatever was asked ahead
	r := rand.New(rand.NewSource(7))
	var logs [][]api.Entry
	var wants []api.Admitted
	for range 100 {
		l := someLog(r, 20)
		logs, wants = append(logs, l), append(wants, policy.Admit(l))
	}
	for range 500 {
		i := r.Intn(len(logs))
		if got := policy.Admit(logs[i]); !alike(got, wants[i]) {
			t.Fatalf("of %s: %v, not %v", told(logs[i]), got, wants[i])
		}
		policy.Holds(r.Intn(9)-1, someTexts(r, 4))
		policy.Next(r.Intn(9)-1, someTexts(r, 4), "int")
	}
}

func FuzzAdmit(f *testing.F) { // P12.1 to P12.6 of whatever entries: of lines, those that begin with P are of policies
	f.Add("P1\nint\nlong\nP4\ntext\nP0\ntext")
	f.Add("P3\nrecord r{a?:int;}\nrecord r{}\nrecord r{a?:text;}\nP6\nP-1\nP7")
	for _, l := range families {
		f.Add(strings.Join(l, "\nP0\n"))
	}
	f.Fuzz(func(t *testing.T, s string) {
		lines := strings.Split(s, "\n")
		if len(lines) > 40 {
			return
		}
		l := logOf(lines...)
		expectPlaces(t, l, expectLog(t, formed{}, l))
		for p := -1; p < 8; p++ {
			if got := policy.Holds(p, lines); got != (formed{}).holds(p, lines) {
				t.Errorf("Holds(%d, %q) = %t", p, lines, got)
			}
			last := len(lines) - 1
			if got := policy.Next(p, lines[:last], lines[last]); got != (formed{}).next(p, lines[:last], lines[last]) {
				t.Errorf("Next(%d, %q) = %t", p, lines, got)
			}
		}
	})
}
