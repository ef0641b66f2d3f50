package fault_test

import (
	"errors"
	"fmt"
	"math"
	"math/rand"
	"slices"
	"strconv"
	"strings"
	"testing"

	"suffragan/api"
	"suffragan/fault"
)

// The errors below are from outside of the program; each has its own way of being looked into.

// link wraps one error, by a pointer that may be nil: then its method panics.
type link struct{ behind error }

func (l *link) Error() string { return "link" }
func (l *link) Unwrap() error { return l.behind }

// many wraps a list of errors, and can't be compared.
type many []error

func (m many) Error() string   { return "many" }
func (m many) Unwrap() []error { return m }

// posing is what its methods Is and As say that it is.
type posing struct {
	why    api.Errno
	behind error
}

func (p posing) Error() string        { return "posing" }
func (p posing) Unwrap() error        { return p.behind }
func (p posing) Is(target error) bool { return target == p.why }
func (p posing) As(target any) bool {
	why, ok := target.(*api.Errno)
	if ok {
		*why = p.why
	}
	return ok
}

// alike says by Is alone what it is.
type alike struct{ why api.Errno }

func (a alike) Error() string        { return "alike" }
func (a alike) Is(target error) bool { return target == a.why }

// faulty says by As alone that it is a fault.
type faulty struct{ f api.Fault }

func (f faulty) Error() string { return "faulty" }
func (f faulty) As(target any) bool {
	g, ok := target.(*api.Fault)
	if ok {
		*g = f.f
	}
	return ok
}

// bad panics, however it is looked into.
type bad struct{ with any }

func (b bad) Error() string { panic(b.with) }
func (b bad) Unwrap() error { panic(b.with) }
func (b bad) Is(error) bool { panic(b.with) }
func (b bad) As(any) bool   { panic(b.with) }

// plain are errors that one may compare and that have no reason.
var plain, other = errors.New("plain"), errors.New("other")

// sample is an error, and what each call tells of it.
type sample struct {
	name string
	e    error
	why  api.Errno
	is   []api.Errno
	way  []string
	root error // nil stands for e itself, where there is no way
}

// chains: errors each of which wraps one at most, faults by hand among them.
func chains() []sample {
	link1 := &link{api.ErrLong}
	return []sample{
		{"nil", nil, api.OK, []api.Errno{api.OK}, nil, nil},
		{"OK", api.OK, api.OK, []api.Errno{api.OK}, nil, nil},
		{"an Errno", api.ErrForm, api.ErrForm, []api.Errno{api.ErrForm}, nil, nil},
		{"ErrState", api.ErrState, api.ErrState, []api.Errno{api.ErrState}, nil, nil},
		{"a layer's", api.ErrDead, api.ErrDead, []api.Errno{api.ErrDead}, nil, nil},
		{"of no name", api.Errno(-7), -7, []api.Errno{-7}, nil, nil},
		{"plain", plain, api.ErrState, nil, nil, nil}, // its Why is ErrState, but there is none in it
		{"OK wrapped", fmt.Errorf("a: %w", api.OK), api.OK, []api.Errno{api.OK}, nil, nil},
		{"OK wrapped twice", &link{fmt.Errorf("a: %w", api.OK)}, api.OK, []api.Errno{api.OK}, nil, nil},
		{"an Errno wrapped", fmt.Errorf("a: %w", api.ErrNone), api.ErrNone, []api.Errno{api.ErrNone}, nil, nil},
		{"plain wrapped", &link{plain}, api.ErrState, nil, nil, nil},
		{"only told of", fmt.Errorf("a: %v", api.ErrNone), api.ErrState, nil, nil, nil},
		{"a pointer to an Errno", new(api.Errno), api.ErrState, nil, nil, nil},
		{"a fault", api.Fault{Where: "x", Err: api.ErrForm}, api.ErrForm, []api.Errno{api.ErrForm}, []string{"x"}, api.ErrForm},
		{"a fault of OK", api.Fault{Where: "x", Err: api.OK}, api.OK, []api.Errno{api.OK}, []string{"x"}, api.OK},
		{"faults", api.Fault{Where: "x", Err: api.Fault{Where: "", Err: plain}}, api.ErrState, nil, []string{"x", ""}, plain},
		{"a fault wrapped", &link{api.Fault{Where: "x", Err: link1}}, api.ErrLong, []api.Errno{api.ErrLong}, []string{"x"}, link1},
		{"a fault's pointer", &api.Fault{Where: "x", Err: api.ErrForm}, api.ErrForm, []api.Errno{api.ErrForm}, nil, nil},
		{"a fault's pointer ahead of one", &api.Fault{Where: "x", Err: api.Fault{Where: "y", Err: api.ErrArg}}, api.ErrArg, []api.Errno{api.ErrArg}, []string{"y"}, api.ErrArg},
		{"between", api.Fault{Where: "x", Err: fmt.Errorf("a: %w", api.Fault{Where: "y", Err: link1})}, api.ErrLong, []api.Errno{api.ErrLong}, []string{"x", "y"}, link1},
	}
}

// trees: errors that wrap several ones.
func trees() []sample {
	x, y := api.Fault{Where: "x", Err: api.ErrForm}, api.Fault{Where: "y", Err: api.ErrArg}
	inner := errors.Join(plain, y)
	return []sample{
		{"two reasons", errors.Join(api.ErrArg, api.ErrFull), api.ErrArg, []api.Errno{api.ErrArg, api.ErrFull}, nil, nil},
		{"the second one", errors.Join(plain, api.ErrFull), api.ErrFull, []api.Errno{api.ErrFull}, nil, nil},
		{"OK first", errors.Join(api.OK, api.ErrFull), api.OK, []api.Errno{api.OK, api.ErrFull}, nil, nil},
		{"OK last", errors.Join(api.ErrFull, api.OK), api.ErrFull, []api.Errno{api.ErrFull}, nil, nil},
		{"depth first", errors.Join(&link{&link{api.ErrFull}}, api.ErrArg), api.ErrFull, []api.Errno{api.ErrArg, api.ErrFull}, nil, nil},
		{"a fault last", errors.Join(plain, x), api.ErrForm, []api.Errno{api.ErrForm}, []string{"x"}, api.ErrForm},
		{"a fault among others", fmt.Errorf("%w, %w, %w", api.ErrThere, x, other), api.ErrThere, []api.Errno{api.ErrForm, api.ErrThere}, []string{"x"}, api.ErrForm},
		{"a fault of several", api.Fault{Where: "x", Err: inner}, api.ErrArg, []api.Errno{api.ErrArg}, []string{"x", "y"}, api.ErrArg},
		{"several of a fault", many{plain, &link{api.Fault{Where: "x", Err: y}}}, api.ErrArg, []api.Errno{api.ErrArg}, []string{"x", "y"}, api.ErrArg},
		{"nil ahead", many{nil, x}, api.ErrForm, []api.Errno{api.ErrForm}, []string{"x"}, api.ErrForm},
	}
}

// strange: errors with methods Is and As of their own.
func strange() []sample {
	return []sample{
		{"posing", posing{why: api.ErrNone}, api.ErrNone, []api.Errno{api.ErrNone}, nil, nil},
		{"posing as OK", posing{why: api.OK}, api.OK, []api.Errno{api.OK}, nil, nil},
		{"posing ahead", posing{api.ErrNone, api.ErrArg}, api.ErrNone, []api.Errno{api.ErrNone, api.ErrArg}, nil, nil},
		{"posing in a fault", api.Fault{Where: "x", Err: posing{why: api.ErrNone}}, api.ErrNone, []api.Errno{api.ErrNone}, []string{"x"}, posing{why: api.ErrNone}},
		{"alike", alike{api.ErrFull}, api.ErrState, []api.Errno{api.ErrFull}, nil, nil},
		{"alike to OK", alike{api.OK}, api.ErrState, nil, nil, nil}, // As finds no OK in it
		{"faulty", faulty{api.Fault{Where: "x", Err: plain}}, api.ErrState, nil, []string{"x"}, plain},
	}
}

// panicking: errors whose own methods panic: nothing is found behind these.
func panicking() []sample {
	lost, number := (*link)(nil), (*strconv.NumError)(nil)
	return []sample{
		{"a nil pointer", lost, api.ErrState, nil, nil, nil},
		{"a nil pointer of the library", number, api.ErrState, nil, nil, nil},
		{"bad", bad{"text"}, api.ErrState, nil, nil, nil},
		{"bad with an error", bad{api.ErrForm}, api.ErrState, nil, nil, nil},
		{"bad with nil", bad{nil}, api.ErrState, nil, nil, nil},
		{"wrapped", &link{lost}, api.ErrState, nil, nil, nil},
		{"in faults", api.Fault{Where: "x", Err: api.Fault{Where: "y", Err: lost}}, api.ErrState, nil, []string{"x", "y"}, lost},
		{"between faults", api.Fault{Where: "x", Err: &link{bad{plain}}}, api.ErrState, nil, []string{"x"}, nil},
		{"behind a reason", errors.Join(api.ErrArg, lost), api.ErrArg, []api.Errno{api.ErrArg}, nil, nil},
	}
}

// samples: all of them.
func samples() []sample {
	return slices.Concat(chains(), trees(), strange(), panicking())
}

// reasons: all that the document names, and some more.
func reasons() []api.Errno {
	l := []api.Errno{api.ErrSum, api.ErrDead, api.ErrPolicy, api.ErrDown, math.MaxInt, math.MinInt, 1 << 32}
	for n := -12; n < 300; n++ {
		l = append(l, api.Errno(n))
	}
	return l
}

// same tells whether a and b are one error, though it could not be compared.
func same(a, b error) (yes bool) {
	defer func() {
		if recover() != nil {
			yes = fmt.Sprintf("%T%p", a, a) == fmt.Sprintf("%T%p", b, b)
		}
	}()
	return a == b
}

// holdSame holds what Why and Is tell of got against what x says.
func holdSame(t *testing.T, x sample, got error) {
	t.Helper()
	if why := fault.Why(got); why != x.why {
		t.Errorf("%s: Why is %d, not %d", x.name, why, x.why)
	}
	for _, why := range reasons() {
		if is := fault.Is(got, why); is != slices.Contains(x.is, why) {
			t.Errorf("%s: Is of %d is %t", x.name, why, is)
		}
	}
}

func TestExample(t *testing.T) { // the chapter's example, and the document's third
	e := fault.At("x", fault.At("y", api.ErrForm))
	if why, way := fault.Why(e), fault.Way(e); why != api.ErrForm || !slices.Equal(way, []string{"x", "y"}) {
		t.Errorf("%d, %q", why, way)
	}
}

func TestWhyAndIs(t *testing.T) { // P4.1
	for _, x := range samples() {
		holdSame(t, x, x.e)
	}
}

func TestWhyOfEachReason(t *testing.T) { // P4.1
	for _, why := range reasons() {
		for _, e := range []error{why, &link{why}, errors.Join(plain, why), api.Fault{Where: "x", Err: why}} {
			if got := fault.Why(e); got != why {
				t.Errorf("Why(%v) = %d", e, got)
			}
			for _, asked := range []api.Errno{why, why + 1, why - 1, -why, api.OK} {
				if got := fault.Is(e, asked); got != (asked == why) {
					t.Errorf("Is(%v, %d) = %t", e, asked, got)
				}
			}
		}
	}
}

func TestAt(t *testing.T) { // P4.1
	for _, x := range samples() {
		for _, where := range []string{"", "x", "a: b", "\xff\x00", "é\n", strings.Repeat("w", 5000)} {
			got := fault.At(where, x.e)
			if x.why == api.OK {
				if got != nil {
					t.Errorf("At of %s is not nil", x.name)
				}
				continue
			}
			var f api.Fault
			if got == nil || !errors.As(got, &f) || f.Where != where || !same(f.Err, x.e) {
				t.Errorf("At(%q) of %s has the fault %q", where, x.name, f.Where)
			}
			if !same(errors.Unwrap(got), x.e) {
				t.Errorf("At of %s does not wrap it", x.name)
			}
		}
	}
}

func TestAtSays(t *testing.T) { // of a fault: its Error
	for _, x := range []struct{ got, want string }{
		{fault.At("x", plain).Error(), "x: plain"},
		{fault.At("", plain).Error(), ": plain"},
		{fault.At("x", fault.At("y", api.ErrForm)).Error(), "x: y: " + api.ErrForm.Error()},
	} {
		if x.got != x.want {
			t.Errorf("%q, not %q", x.got, x.want)
		}
	}
}

func TestWayAndRoot(t *testing.T) { // P4.2
	for _, x := range samples() {
		root := x.root
		if root == nil {
			root = x.e
			if f, ok := x.e.(api.Fault); ok {
				root = f.Err
			}
		}
		if way := fault.Way(x.e); !slices.Equal(way, x.way) {
			t.Errorf("%s: Way is %q, not %q", x.name, way, x.way)
		}
		if got := fault.Root(x.e); !same(got, root) {
			t.Errorf("%s: Root is a %T", x.name, got)
		}
	}
}

func TestFaultOfNothing(t *testing.T) { // P4.1, P4.2: a fault that was made by hand and has no error behind it
	e := error(api.Fault{Where: "x"})
	if fault.Why(e) != api.ErrState || fault.Is(e, api.OK) || fault.Is(e, api.ErrState) || !slices.Equal(fault.Way(e), []string{"x"}) || fault.Root(e) != nil {
		t.Error(fault.Why(e), fault.Way(e), fault.Root(e))
	}
	e = fault.At("y", e)
	if fault.Why(e) != api.ErrState || !slices.Equal(fault.Way(e), []string{"y", "x"}) || fault.Root(e) != nil {
		t.Error(fault.Why(e), fault.Way(e), fault.Root(e))
	}
}

func TestTwoFaultsSideBySide(t *testing.T) { // P4.2: an error came by one way, the one that errors.As finds
	deep := fault.At("a", &link{fault.At("b", api.ErrForm)})
	e := errors.Join(plain, deep, fault.At("c", fault.At("d", fault.At("e", other))))
	if way := fault.Way(e); !slices.Equal(way, []string{"a", "b"}) || fault.Root(e) != api.ErrForm {
		t.Errorf("%q, %v", way, fault.Root(e))
	}
}

func TestGrave(t *testing.T) { // P4.3
	weights := map[api.Errno]int{
		api.OK:       0,
		api.ErrThere: 1,
		api.ErrNone:  2, api.ErrState: 2,
		api.ErrArg: 3, api.ErrShort: 3, api.ErrForm: 3,
		api.ErrLong: 4, api.ErrFull: 4,
	}
	for _, why := range reasons() {
		want, there := weights[why]
		if !there {
			want = 5
		}
		if got := fault.Grave(why); got != want {
			t.Errorf("Grave(%d) = %d, not %d", why, got, want)
		}
	}
}

func TestWorse(t *testing.T) { // P4.3
	l := samples()
	for _, why := range []api.Errno{api.OK, api.ErrThere, api.ErrNone, api.ErrState, api.ErrArg, api.ErrShort, api.ErrForm, api.ErrLong, api.ErrFull, 9, -1, api.ErrSum, api.ErrDead, api.ErrPolicy, api.ErrDown} {
		l = append(l, sample{name: "the reason", e: why, why: why}, sample{name: "the fault", e: fault.At("x", why), why: why})
	}
	for _, a := range l {
		for _, b := range l {
			want := a.e
			if fault.Grave(b.why) > fault.Grave(a.why) {
				want = b.e
			}
			if got := fault.Worse(a.e, b.e); !same(got, want) {
				t.Errorf("Worse of %s %d, %s %d is the other one", a.name, a.why, b.name, b.why)
			}
		}
	}
}

func TestWorseByHand(t *testing.T) { // P4.3
	x, y := fault.At("x", api.ErrNone), fault.At("y", api.ErrState)
	for _, l := range [][3]error{ // a, b, and which one
		{nil, nil, nil},
		{nil, api.OK, nil},
		{api.OK, nil, api.OK},
		{nil, api.ErrThere, api.ErrThere},
		{api.ErrThere, nil, api.ErrThere},
		{x, y, x},
		{y, x, y},
		{x, plain, x}, // what has no reason weighs as ErrState
		{plain, x, plain},
		{plain, api.ErrThere, plain},
		{plain, api.ErrArg, api.ErrArg},
		{api.ErrFull, api.ErrSum, api.ErrSum},
		{api.ErrDown, api.ErrSum, api.ErrDown},
		{api.ErrLong, api.ErrArg, api.ErrLong}, // by weight, not by number
		{api.ErrThere, api.ErrArg, api.ErrArg},
	} {
		if got := fault.Worse(l[0], l[1]); got != l[2] {
			t.Errorf("Worse(%v, %v) = %v", l[0], l[1], got)
		}
	}
}

func TestWrapped(t *testing.T) { // P4.4
	for _, x := range samples() {
		if x.why == api.OK { // At makes nil of it
			continue
		}
		root, way := fault.Root(x.e), fault.Way(x.e)
		e := x.e
		for i := range 30 {
			where := strconv.Itoa(i % 7)
			e = fault.At(where, e)
			way = slices.Insert(way, 0, where)
			if got := fault.Way(e); !slices.Equal(got, way) {
				t.Fatalf("%s: Way is %q, not %q", x.name, got, way)
			}
			if !same(fault.Root(e), root) {
				t.Fatalf("%s: another Root", x.name)
			}
		}
		holdSame(t, x, e)
	}
}

func TestWrappedByOthersToo(t *testing.T) { // P4.2, P4.4: what others put between does not tell
	r := rand.New(rand.NewSource(1))
	for range 2000 {
		why := api.Errno(1 + r.Intn(300))
		var e, root error = why, nil
		var way []string
		for range r.Intn(12) {
			where := strings.Repeat("w", r.Intn(4))
			switch r.Intn(6) {
			case 0:
				e = &link{e}
			case 1:
				e = fmt.Errorf("%w, %w", plain, e)
			case 2:
				e = errors.Join(e, other)
			default:
				if root == nil {
					root = e
				}
				e = fault.At(where, e)
				way = append([]string{where}, way...)
			}
		}
		if root == nil {
			root = e
		}
		if !slices.Equal(fault.Way(e), way) || fault.Root(e) != root || fault.Why(e) != why || !fault.Is(e, why) || fault.Is(e, why+1) {
			t.Fatalf("%v: %q, %v, %d", e, fault.Way(e), fault.Root(e), fault.Why(e))
		}
	}
}

func TestWrappedDeep(t *testing.T) { // P4.4: as deep as the document's bound lets it be
	const deep = 1 << 16
	e := error(api.ErrPolicy)
	for i := range deep {
		if i < 1000 || i >= deep-1000 {
			e = fault.At(strconv.Itoa(i), e)
		} else { // as At makes it, which looks anew at all that lies behind each time
			e = api.Fault{Where: strconv.Itoa(i), Err: e}
		}
	}
	if fault.Why(e) != api.ErrPolicy || !fault.Is(e, api.ErrPolicy) || fault.Is(e, api.OK) || fault.Is(e, api.ErrState) || fault.Root(e) != api.ErrPolicy {
		t.Error(fault.Why(e))
	}
	way := fault.Way(e)
	if len(way) != deep {
		t.Fatal(len(way))
	}
	for i, where := range way {
		if where != strconv.Itoa(deep-1-i) {
			t.Fatalf("at %d: %s", i, where)
		}
	}
	var list error = api.ErrPolicy
	for range deep {
		list = many{list}
	}
	if fault.Why(list) != api.ErrPolicy || !fault.Is(list, api.ErrPolicy) || len(fault.Way(list)) != 0 {
		t.Error("of lists in lists")
	}
}

func TestMemory(t *testing.T) { // DOC.md, Memory: an answer is new memory
	e := error(api.ErrForm)
	for i := range 5 { // so that a list that grows has room to spare
		e = fault.At(strconv.Itoa(i), e)
	}
	one, two := fault.Way(e), fault.Way(e)
	one = one[:cap(one)]
	for i := range one {
		one[i] = "spoilt"
	}
	want := []string{"4", "3", "2", "1", "0"}
	if !slices.Equal(two, want) || !slices.Equal(fault.Way(e), want) {
		t.Errorf("%q, %q", two, fault.Way(e))
	}
}

func TestNothingChanges(t *testing.T) { // DOC.md, Memory: what is handed in is not changed
	l := many{fault.At("x", api.ErrForm), plain, api.ErrArg}
	was := slices.Clone(l)
	e := fault.At("y", l)
	fault.Way(e)
	fault.Root(e)
	fault.Is(e, api.ErrFull)
	fault.Worse(e, fault.At("z", e))
	if !slices.Equal(l, was) {
		t.Error(l)
	}
}
