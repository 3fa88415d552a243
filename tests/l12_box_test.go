package tests

import (
	"fmt"
	"math"
	"math/rand"
	"reflect"
	"slices"
	"testing"

	"loop.example/g00806/impl"
)

// box makes a domain of its three lists.
func box(first, last []int, modes ...[]int) impl.Domain {
	return impl.Domain{MinStart: first, MaxStart: last, Modes: modes}
}

// wholeBox is a copy that has empty lists where b has none, so that domains can be compared in depth.
func wholeBox(b impl.Domain) impl.Domain {
	c := box(append([]int{}, b.MinStart...), append([]int{}, b.MaxStart...))
	c.Modes = [][]int{}
	for _, modes := range b.Modes {
		c.Modes = append(c.Modes, append([]int{}, modes...))
	}
	return c
}

func areSameBoxes(b, c impl.Domain) bool {
	return reflect.DeepEqual(wholeBox(b), wholeBox(c))
}

func sameBox(t *testing.T, call string, got, want impl.Domain) {
	t.Helper()
	if !areSameBoxes(got, want) {
		t.Errorf("%s = %+v, want %+v", call, got, want)
	}
}

// edited is a copy of b that was changed.
func edited(b impl.Domain, change func(b *impl.Domain)) impl.Domain {
	c := wholeBox(b)
	change(&c)
	return c
}

// someModes are a set of modes of an activity, which is sometimes empty and often has all of them.
func someModes(r *rand.Rand, count int) []int {
	var all []int
	for m := range count {
		if r.Intn(4) > 0 {
			all = append(all, m)
		}
	}
	return all
}

// someBox is DomainForm for p, and the same for the same seed; its bounds are often close to each other or beyond the times.
func someBox(p impl.Project, seed int64) impl.Domain {
	r := rand.New(rand.NewSource(seed))
	var b impl.Domain
	for _, a := range p.Activities {
		first := ints(r.Intn(5)-2, r.Intn(65)-2, 62-r.Intn(4))[r.Intn(3)]
		last := ints(first, min(62, first+r.Intn(5)), max(first, 62-r.Intn(4)), r.Intn(65)-2)[r.Intn(4)]
		b.MinStart, b.MaxStart, b.Modes = append(b.MinStart, first), append(b.MaxStart, last), append(b.Modes, someModes(r, len(a.Modes)))
	}
	return b
}

// narrowBox is a DomainSubset of InitialDomain of p, and the same for the same seed; it is sometimes empty.
func narrowBox(p impl.Project, seed int64) impl.Domain {
	r := rand.New(rand.NewSource(seed))
	var b impl.Domain
	for _, a := range p.Activities {
		first := ints(0, r.Intn(p.Deadline), r.Intn(63))[r.Intn(3)]
		last := ints(p.Deadline-1, r.Intn(p.Deadline), r.Intn(p.Deadline+2)-2)[r.Intn(3)]
		b.MinStart, b.MaxStart, b.Modes = append(b.MinStart, first), append(b.MaxStart, last), append(b.Modes, someModes(r, len(a.Modes)))
	}
	return b
}

// widest has every start from -2 to 62 and every mode, which is DomainForm for p.
func widest(p impl.Project) impl.Domain {
	var b impl.Domain
	for _, a := range p.Activities {
		b.MinStart, b.MaxStart = append(b.MinStart, -2), append(b.MaxStart, 62)
		b.Modes = append(b.Modes, ints(0, 1, 2)[:len(a.Modes)])
	}
	return b
}

// isVoid tells whether a domain whose lists have one length contains nothing.
func isVoid(b impl.Domain) bool {
	for a, modes := range b.Modes {
		if !(b.MinStart[a] <= b.MaxStart[a]) || len(modes) == 0 {
			return true
		}
	}
	return false
}

// isInside tells whether a domain and a schedule with lists of one length belong together.
func isInside(b impl.Domain, s impl.Schedule) bool {
	for a := range b.Modes {
		for _, l := range []impl.Literal{lit(1, a, b.MinStart[a]), lit(2, a, b.MaxStart[a])} {
			if !isTrue(l, s.Starts[a], s.Modes[a]) {
				return false
			}
		}
		if !isIn(b.Modes[a], s.Modes[a]) {
			return false
		}
	}
	return true
}

// sweep are literals of the four kinds and of others, about all activities and about none.
func sweep(activities int, values []int) []impl.Literal {
	var all []impl.Literal
	for _, kind := range ints(1, 2, 3, 4, 0, 5, -1) {
		for a := -1; a <= activities; a++ {
			for _, value := range values {
				all = append(all, lit(kind, a, value))
			}
		}
	}
	return all
}

// numbersFrom are the numbers from first to last.
func numbersFrom(first, last int) []int {
	var all []int
	for n := first; n <= last; n++ {
		all = append(all, n)
	}
	return all
}

// speaks tells whether the literal is of one of the four kinds, about an activity.
func speaks(l impl.Literal, activities int) bool {
	return l.Kind >= 1 && l.Kind <= 4 && l.Activity >= 0 && l.Activity < activities
}

// checkSplit expects that a schedule of a domain is in exactly one of the domains restricted by a literal and by its negation.
func checkSplit(t *testing.T, b impl.Domain, l impl.Literal, all []impl.Schedule) {
	t.Helper()
	positive, negative := impl.Restrict(b, l), impl.Restrict(b, impl.Negate(l))
	for _, s := range all {
		inside, holds := impl.Contains(b, s), true
		if inside != isInside(b, s) {
			t.Errorf("Contains(%+v, %+v) = %v", b, s, inside)
		}
		if speaks(l, len(b.Modes)) {
			holds = impl.LiteralHolds(l, s)
			if got := impl.Contains(negative, s); got != (inside && !holds) {
				t.Errorf("Contains(%+v restricted by the negation of %+v, %+v) = %v", b, l, s, got)
			}
		}
		if got := impl.Contains(positive, s); got != (inside && holds) {
			t.Errorf("Contains(%+v restricted by %+v, %+v) = %v", b, l, s, got)
		}
	}
}

func TestP5ARestrictedDomainContainsExactlyTheSchedulesThatSatisfyTheLiteral(t *testing.T) {
	p := tiny(t)
	all := earlySchedules(p, 4)
	boxes := []impl.Domain{impl.InitialDomain(p), widest(p), box(ints(1, 0, 2), ints(3, 4, 2), ints(0, 1), ints(0), ints(1)), box(ints(2, 1, 0), ints(3, 0, 4), ints(0, 1), ints(0), ints(0, 1)), box(ints(0, 0, 0), ints(4, 4, 4), ints(0, 1), nil, ints(0, 1))}
	for seed := range int64(5) {
		boxes = append(boxes, narrowBox(p, seed))
	}
	for _, b := range boxes {
		for _, l := range sweep(len(p.Activities), numbersFrom(-3, 6)) {
			checkSplit(t, b, l, all)
		}
	}
}

func TestP5ARestrictedDomainContainsExactlyTheSchedulesThatSatisfyTheLiteralAtAllTimes(t *testing.T) {
	for i, x := range scheduledProjects() {
		if i%25 != 0 {
			continue
		}
		all := []impl.Schedule{x.s, someSchedule(x.p, 1), someSchedule(x.p, 2)}
		for _, start := range ints(-2, -1, 0, 59, 60, 61, 62) {
			all = append(all, with(x.s, 0, start, x.s.Modes[0]))
		}
		for _, b := range []impl.Domain{widest(x.p), impl.InitialDomain(x.p), someBox(x.p, int64(i)), impl.SingletonDomain(x.s)} {
			for _, l := range literalsOf(x.p) {
				checkSplit(t, b, l, all)
			}
		}
	}
}

// allValues is what LiteralValue must return for a literal about an activity of a domain that is not empty, where each start is tried with each mode.
func allValues(b impl.Domain, l impl.Literal) int {
	count := map[bool]int{}
	for start := b.MinStart[l.Activity]; start <= b.MaxStart[l.Activity]; start++ {
		for _, m := range b.Modes[l.Activity] {
			count[isTrue(l, start, m)]++
		}
	}
	return b2i(count[false] == 0) - b2i(count[true] == 0)
}

func checkTruth(t *testing.T, b impl.Domain, l impl.Literal, want int) {
	t.Helper()
	if got := impl.LiteralValue(b, l); got != want {
		t.Errorf("LiteralValue(%+v, %+v) = %d, want %d", b, l, got, want)
	}
}

func TestP5TheValueOfALiteralIsThatForAllSchedulesOfTheDomain(t *testing.T) {
	seen := map[impl.Literal]int{}
	for seed := range int64(400) {
		p := randomProject(seed)
		for _, b := range []impl.Domain{someBox(p, seed), narrowBox(p, seed)} {
			if isVoid(b) {
				continue
			}
			for _, l := range sweep(len(p.Activities), numbersFrom(-3, 63)) {
				if !speaks(l, len(p.Activities)) {
					checkTruth(t, b, l, 1)
					continue
				}
				want := allValues(b, l)
				checkTruth(t, b, l, want)
				checkTruth(t, b, impl.Negate(l), -want)
				seen[lit(l.Kind, 0, want)]++
				// A value beyond the bounds that a domain can have is clamped by Restrict.
				if want != 0 && l.Value >= -2 && l.Value <= 62 {
					checkBool(t, "the restricted domain is empty or the same", impl.DomainEmpty(impl.Restrict(b, l)) == (want < 0) && impl.DomainEqual(impl.Restrict(b, l), b) == (want > 0), true)
				}
			}
		}
	}
	for kind := 1; kind <= 4; kind++ {
		for want := -1; want <= 1; want++ {
			checkBool(t, fmt.Sprint("the kind ", kind, " has the value ", want), seen[lit(kind, 0, want)] > 0, true)
		}
	}
}

func TestP5ARestrictedDomainKnowsTheLiteral(t *testing.T) {
	for seed := range int64(300) {
		p := randomProject(seed)
		b := someBox(p, seed)
		for _, l := range literalsOf(p) {
			c := impl.Restrict(b, l)
			want := 1
			if l.Kind == 3 && len(c.Modes[l.Activity]) == 0 {
				// No mode is left, so that none is exactly Value.
				want = -1
			}
			checkTruth(t, c, l, want)
			if !impl.DomainForm(p, c) || !impl.DomainSubset(c, b) || !impl.DomainEqual(impl.Restrict(c, l), c) {
				t.Errorf("Restrict(%+v, %+v) = %+v", b, l, c)
			}
			if !impl.DomainEmpty(c) {
				checkTruth(t, c, impl.Negate(l), -1)
			}
		}
	}
}

// formChange makes another domain of one that is DomainForm for the project of formProject.
type formChange struct {
	name  string
	ok    bool
	apply func(b *impl.Domain)
}

// formProject has activities with 1, 3 and 2 modes.
func formProject() impl.Project {
	return lasting(lasting(chain(3), 1, 1, 2, 3), 2, 4, 4)
}

func boundChanges() []formChange {
	var all []formChange
	for a := range 3 {
		for _, n := range append(farValues(), -2, 62, 63) {
			ok := n >= -2 && n <= 62
			all = append(all,
				formChange{fmt.Sprint("MinStart ", a, " is ", n), ok, func(b *impl.Domain) { b.MinStart[a] = n }},
				formChange{fmt.Sprint("MaxStart ", a, " is ", n), ok, func(b *impl.Domain) { b.MaxStart[a] = n }})
		}
	}
	return all
}

func modesChanges() []formChange {
	var all []formChange
	add := func(a int, ok bool, lists ...[]int) {
		for _, l := range lists {
			all = append(all, formChange{fmt.Sprint("the Modes ", a, " are ", l), ok, func(b *impl.Domain) { b.Modes[a] = slices.Clone(l) }})
		}
	}
	add(0, true, nil, ints(0), []int{})
	add(0, false, ints(-1), ints(1), ints(0, 0), ints(0, 1), ints(-1, 0), ints(math.MinInt), ints(math.MaxInt), make([]int, 1000))
	add(1, true, nil, ints(0), ints(1), ints(2), ints(0, 1), ints(0, 2), ints(1, 2), ints(0, 1, 2))
	add(1, false, ints(-1), ints(3), ints(1, 0), ints(2, 0), ints(2, 1), ints(1, 1), ints(2, 2), ints(0, 0, 1), ints(0, 1, 1), ints(0, 2, 1), ints(1, 0, 2), ints(2, 1, 0), ints(-1, 0, 1), ints(0, 1, 3), ints(0, 3), ints(0, 1, 2, 3), ints(0, 1, 2, 2), ints(-1, 0, 1, 2), ints(0, 3, 1), ints(0, -1, 1), ints(math.MinInt, 0), ints(0, math.MaxInt))
	add(2, true, nil, ints(0), ints(1), ints(0, 1))
	add(2, false, ints(2), ints(0, 2), ints(0, 1, 2), ints(1, 2), ints(1, 0))
	return all
}

func lengthChanges() []formChange {
	return []formChange{
		{"MinStart is shorter", false, func(b *impl.Domain) { b.MinStart = b.MinStart[:2] }},
		{"MaxStart is shorter", false, func(b *impl.Domain) { b.MaxStart = b.MaxStart[:2] }},
		{"Modes is shorter", false, func(b *impl.Domain) { b.Modes = b.Modes[:2] }},
		{"MinStart is longer", false, func(b *impl.Domain) { b.MinStart = append(b.MinStart, 0) }},
		{"MaxStart is longer", false, func(b *impl.Domain) { b.MaxStart = append(b.MaxStart, 0) }},
		{"Modes is longer", false, func(b *impl.Domain) { b.Modes = append(b.Modes, ints(0)) }},
		{"Modes is longer by nothing", false, func(b *impl.Domain) { b.Modes = append(b.Modes, nil) }},
		{"MinStart is missing", false, func(b *impl.Domain) { b.MinStart = nil }},
		{"MaxStart is missing", false, func(b *impl.Domain) { b.MaxStart = nil }},
		{"Modes is missing", false, func(b *impl.Domain) { b.Modes = nil }},
		{"MinStart is empty", false, func(b *impl.Domain) { b.MinStart = []int{} }},
		{"MaxStart is empty", false, func(b *impl.Domain) { b.MaxStart = []int{} }},
		{"Modes is empty", false, func(b *impl.Domain) { b.Modes = [][]int{} }},
		{"all are shorter", false, func(b *impl.Domain) { *b = box(b.MinStart[:2], b.MaxStart[:2], b.Modes[:2]...) }},
		{"all are longer", false, func(b *impl.Domain) {
			*b = box(append(b.MinStart, 0), append(b.MaxStart, 0), append(b.Modes, ints(0))...)
		}},
		{"all are missing", false, func(b *impl.Domain) { *b = impl.Domain{} }},
		{"nothing is changed", true, func(b *impl.Domain) {}},
		{"the bounds cross", true, func(b *impl.Domain) { b.MinStart[1], b.MaxStart[1] = 62, -2 }},
	}
}

// checkForm expects whether b is DomainForm for p; if not, it has no literals.
func checkForm(t *testing.T, name string, p impl.Project, b impl.Domain, want bool) {
	t.Helper()
	checkBool(t, "DomainForm if "+name, impl.DomainForm(p, b), want)
	if !want {
		same(t, "DomainLiterals if "+name, impl.DomainLiterals(p, b), nil)
	}
}

func TestP15DomainForm(t *testing.T) {
	p := formProject()
	for _, b := range []impl.Domain{box(ints(0, 0, 0), ints(19, 19, 19), ints(0), ints(0, 1, 2), ints(0, 1)), box(ints(5, -2, 62), ints(62, -2, 3), nil, ints(1), ints(1))} {
		for _, c := range slices.Concat(boundChanges(), modesChanges(), lengthChanges()) {
			checkForm(t, c.name, p, edited(b, c.apply), c.ok)
		}
	}
	for n := range 8 {
		for activities := range 8 {
			q := chain(activities)
			checkForm(t, fmt.Sprint("there are ", n, " and ", activities, " activities"), q, widest(chain(n)), n == activities && n >= 1 && n <= 6)
		}
	}
	for seed := range int64(300) {
		q := randomProject(seed)
		for _, b := range []impl.Domain{someBox(q, seed), narrowBox(q, seed), widest(q), impl.InitialDomain(q), impl.SingletonDomain(someSchedule(q, seed))} {
			checkForm(t, fmt.Sprint("the project is the random one ", seed), q, b, true)
		}
	}
}

func TestP15DomainsOfProjectsThatAreNotValid(t *testing.T) {
	for _, v := range badNetworks() {
		sameBox(t, "InitialDomain with "+v.name, impl.InitialDomain(v.p), impl.Domain{})
		b := impl.Domain{MinStart: make([]int, len(v.p.Activities)), MaxStart: make([]int, len(v.p.Activities)), Modes: make([][]int, len(v.p.Activities))}
		for a, activity := range v.p.Activities {
			for m := range activity.Modes {
				b.Modes[a] = append(b.Modes[a], m)
			}
		}
		checkForm(t, "the project has "+v.name, v.p, b, false)
		checkForm(t, "there is no activity, and the project has "+v.name, v.p, impl.Domain{}, false)
	}
}

// checkInitial expects every start before the deadline and every mode.
func checkInitial(t *testing.T, name string, p impl.Project) {
	t.Helper()
	got := impl.InitialDomain(p)
	checkInt(t, "the number of activities with "+name, len(got.MinStart), len(p.Activities))
	for a, activity := range p.Activities {
		c := edited(got, func(b *impl.Domain) { *b = box(b.MinStart[a:a+1], b.MaxStart[a:a+1], b.Modes[a]) })
		sameBox(t, fmt.Sprint("InitialDomain of activity ", a, " with ", name), c, box(ints(0), ints(p.Deadline-1), ints(0, 1, 2)[:len(activity.Modes)]))
	}
	checkForm(t, "it is the initial domain with "+name, p, got, true)
	same(t, "DomainLiterals of InitialDomain with "+name, impl.DomainLiterals(p, got), nil)
	checkInt(t, "DomainSize of InitialDomain with "+name, impl.DomainSize(got), p.Deadline)
	checkBool(t, "DomainEmpty of InitialDomain with "+name, impl.DomainEmpty(got), false)
	if !areSameBoxes(got, impl.InitialDomain(p)) || len(got.MaxStart) != len(p.Activities) || len(got.Modes) != len(p.Activities) {
		t.Errorf("InitialDomain with %s = %+v", name, got)
	}
}

func TestP15InitialDomain(t *testing.T) {
	for _, v := range chosen(true) {
		checkInitial(t, v.name, v.p)
	}
	for seed := range int64(200) {
		checkInitial(t, fmt.Sprint("the random project ", seed), randomProject(seed))
	}
	for deadline := 1; deadline <= 60; deadline++ {
		p := formProject()
		p.Deadline = deadline
		checkInitial(t, fmt.Sprint("the deadline ", deadline), p)
		sameBox(t, fmt.Sprint("InitialDomain with the deadline ", deadline), impl.InitialDomain(p), box(ints(0, 0, 0), ints(deadline-1, deadline-1, deadline-1), ints(0), ints(0, 1, 2), ints(0, 1)))
	}
}

func TestP15DomainEmptyTable(t *testing.T) {
	low, high := math.MinInt, math.MaxInt
	cases := []struct {
		b    impl.Domain
		want bool
	}{
		{impl.Domain{}, false}, {box(ints(3), ints(3), ints(0)), false}, {box(ints(4), ints(3), ints(0)), true}, {box(ints(3), ints(4), ints(0)), false}, {box(ints(3), ints(3), nil), true}, {box(ints(3), ints(3), []int{}), true}, {box(ints(4), ints(3), nil), true},
		{box(ints(0, 0, 0), ints(0, 0, 0), ints(0), ints(0), ints(0)), false}, {box(ints(1, 0, 0), ints(0, 0, 0), ints(0), ints(0), ints(0)), true}, {box(ints(0, 1, 0), ints(0, 0, 0), ints(0), ints(0), ints(0)), true}, {box(ints(0, 0, 1), ints(0, 0, 0), ints(0), ints(0), ints(0)), true},
		{box(ints(0, 0, 0), ints(0, 0, 0), nil, ints(0), ints(0)), true}, {box(ints(0, 0, 0), ints(0, 0, 0), ints(0), nil, ints(0)), true}, {box(ints(0, 0, 0), ints(0, 0, 0), ints(0), ints(0), nil), true},
		{box(ints(low), ints(high), ints(0)), false}, {box(ints(high), ints(low), ints(0)), true}, {box(ints(low), ints(low), ints(0)), false}, {box(ints(high), ints(high), ints(0)), false}, {box(ints(high), ints(high-1), ints(0)), true}, {box(ints(low+1), ints(low), ints(0)), true}, {box(ints(63), ints(62), ints(0)), true}, {box(ints(100), ints(99), ints(0)), true}, {box(ints(-9), ints(-10), ints(0)), true},
		{box(ints(0), ints(0), ints(9, 9, -1)), false},
		{box(ints(0, 9), ints(0), ints(0)), false}, {box(ints(0), ints(0, -9), ints(0)), false}, {box(ints(1, 9), ints(0), ints(0)), true}, {box(ints(1), ints(0, 9), ints(0)), true}, {box(ints(0, 1, 5), ints(0, 0), ints(0)), true}, {box(ints(0, 1), ints(0, 0)), true}, {box(ints(0, 1), ints(1, 1)), false}, {box(ints(9), nil), false}, {box(nil, ints(-9)), false},
		{box(nil, nil, ints(0)), false}, {box(nil, nil, nil), true}, {box(nil, nil, ints(0), nil), true}, {box(nil, nil, nil, ints(0)), true}, {box(ints(0), ints(0), ints(0), nil), true}, {box(ints(0), ints(0), ints(0), ints(1)), false}, {box(ints(9), nil, nil), true}, {box(ints(2, 3), ints(2, 3), nil), true}, {box(ints(9), nil, ints(0), []int{}), true},
	}
	for _, c := range cases {
		checkBool(t, callOf("DomainEmpty", c.b), impl.DomainEmpty(c.b), c.want)
	}
}

func TestP15DomainEmpty(t *testing.T) {
	seen := map[bool]int{}
	for seed := range int64(600) {
		p := randomProject(seed)
		for _, b := range []impl.Domain{someBox(p, seed), narrowBox(p, seed), widest(p)} {
			checkBool(t, callOf("DomainEmpty", b), impl.DomainEmpty(b), isVoid(b))
			seen[isVoid(b)]++
		}
	}
	checkBool(t, "there are domains of both kinds", seen[true] > 100 && seen[false] > 100, true)
}

// restricted is b without what the literal excludes, one start or one mode after the other.
func restricted(b impl.Domain, l impl.Literal) impl.Domain {
	return edited(b, func(c *impl.Domain) {
		if !speaks(l, min(len(b.MinStart), len(b.MaxStart), len(b.Modes))) {
			return
		}
		value := l.Value
		if value < -2 {
			value = -2
		} else if value > 62 {
			value = 62
		}
		a := l.Activity
		for l.Kind == 1 && c.MinStart[a] < value {
			c.MinStart[a]++
		}
		for l.Kind == 2 && c.MaxStart[a] > value {
			c.MaxStart[a]--
		}
		if l.Kind > 2 {
			c.Modes[a] = slices.DeleteFunc(c.Modes[a], func(m int) bool { return (m == value) == (l.Kind == 4) })
		}
	})
}

func checkRestricted(t *testing.T, b impl.Domain, l impl.Literal, want impl.Domain) {
	t.Helper()
	if got := impl.Restrict(b, l); !areSameBoxes(got, want) {
		t.Errorf("Restrict(%+v, %+v) = %+v, want %+v", b, l, got, want)
	}
}

func TestP15Restrict(t *testing.T) {
	values := append(numbersFrom(-4, 64), farValues()...)
	for seed := range int64(40) {
		p := randomProject(seed)
		for _, b := range []impl.Domain{someBox(p, seed), narrowBox(p, seed), widest(p)} {
			for _, l := range sweep(len(p.Activities), values) {
				checkRestricted(t, b, l, restricted(b, l))
			}
		}
	}
}

func TestP15RestrictAtTheBounds(t *testing.T) {
	b := box(ints(4, 10, 0), ints(9, 20, 19), ints(0), ints(0, 1, 2), ints(0, 1))
	first := func(n int) impl.Domain { return edited(b, func(b *impl.Domain) { b.MinStart[1] = n }) }
	last := func(n int) impl.Domain { return edited(b, func(b *impl.Domain) { b.MaxStart[1] = n }) }
	modes := func(l ...int) impl.Domain { return edited(b, func(b *impl.Domain) { b.Modes[1] = l }) }
	low, high := math.MinInt, math.MaxInt
	cases := []struct {
		l    impl.Literal
		want impl.Domain
	}{
		{lit(1, 1, 9), b}, {lit(1, 1, 10), b}, {lit(1, 1, 11), first(11)}, {lit(1, 1, 20), first(20)}, {lit(1, 1, 21), first(21)}, {lit(1, 1, 61), first(61)}, {lit(1, 1, 62), first(62)}, {lit(1, 1, 63), first(62)}, {lit(1, 1, 100001), first(62)}, {lit(1, 1, high), first(62)}, {lit(1, 1, -2), b}, {lit(1, 1, -3), b}, {lit(1, 1, low), b},
		{lit(2, 1, 21), b}, {lit(2, 1, 20), b}, {lit(2, 1, 19), last(19)}, {lit(2, 1, 10), last(10)}, {lit(2, 1, 9), last(9)}, {lit(2, 1, -1), last(-1)}, {lit(2, 1, -2), last(-2)}, {lit(2, 1, -3), last(-2)}, {lit(2, 1, -100001), last(-2)}, {lit(2, 1, low), last(-2)}, {lit(2, 1, 62), b}, {lit(2, 1, 63), b}, {lit(2, 1, high), b},
		{lit(3, 1, 0), modes(0)}, {lit(3, 1, 1), modes(1)}, {lit(3, 1, 2), modes(2)}, {lit(3, 1, 3), modes()}, {lit(3, 1, -1), modes()}, {lit(3, 1, low), modes()}, {lit(3, 1, high), modes()},
		{lit(4, 1, 0), modes(1, 2)}, {lit(4, 1, 1), modes(0, 2)}, {lit(4, 1, 2), modes(0, 1)}, {lit(4, 1, 3), b}, {lit(4, 1, -1), b}, {lit(4, 1, low), b}, {lit(4, 1, high), b},
		{lit(3, 0, 0), b}, {lit(3, 0, 1), edited(b, func(b *impl.Domain) { b.Modes[0] = nil })}, {lit(4, 0, 0), edited(b, func(b *impl.Domain) { b.Modes[0] = nil })}, {lit(4, 0, 1), b},
		{lit(1, 0, 5), edited(b, func(b *impl.Domain) { b.MinStart[0] = 5 })}, {lit(2, 2, 5), edited(b, func(b *impl.Domain) { b.MaxStart[2] = 5 })}, {lit(4, 2, 1), edited(b, func(b *impl.Domain) { b.Modes[2] = ints(0) })},
	}
	for _, c := range cases {
		checkRestricted(t, b, c.l, c.want)
	}
	for _, l := range []impl.Literal{lit(1, -1, 62), lit(2, -1, 0), lit(3, -1, 0), lit(4, -1, 0), lit(1, 3, 62), lit(2, 3, 0), lit(3, 3, 0), lit(4, 3, 0), lit(1, low, 62), lit(2, high, 0), lit(3, low, 0), lit(4, high, 0), {}} {
		checkRestricted(t, b, l, b)
	}
	for _, kind := range otherKinds() {
		for a := -1; a <= 3; a++ {
			for _, value := range ints(low, -3, -2, 0, 1, 2, 15, 62, 63, high) {
				checkRestricted(t, b, lit(kind, a, value), b)
			}
		}
	}
}

func TestP15RestrictOfDomainsThatNoProjectHas(t *testing.T) {
	low, high := math.MinInt, math.MaxInt
	cases := []struct {
		b    impl.Domain
		l    impl.Literal
		want impl.Domain
	}{
		{box(ints(low), ints(high), ints(5)), lit(1, 0, low), box(ints(-2), ints(high), ints(5))}, {box(ints(low), ints(high), ints(5)), lit(1, 0, high), box(ints(62), ints(high), ints(5))}, {box(ints(low), ints(high), ints(5)), lit(2, 0, high), box(ints(low), ints(62), ints(5))}, {box(ints(low), ints(high), ints(5)), lit(2, 0, low), box(ints(low), ints(-2), ints(5))},
		{box(ints(-9), ints(99), ints(5)), lit(1, 0, -5), box(ints(-2), ints(99), ints(5))}, {box(ints(-9), ints(99), ints(5)), lit(2, 0, 80), box(ints(-9), ints(62), ints(5))}, {box(ints(high), ints(low), ints(5)), lit(1, 0, high), box(ints(high), ints(low), ints(5))}, {box(ints(high), ints(low), ints(5)), lit(2, 0, low), box(ints(high), ints(low), ints(5))}, {box(ints(80), ints(-80), ints(5)), lit(1, 0, 70), box(ints(80), ints(-80), ints(5))}, {box(ints(80), ints(-80), ints(5)), lit(2, 0, -70), box(ints(80), ints(-80), ints(5))},
		{box(ints(0), ints(9), ints(3, 1, 7)), lit(4, 0, 1), box(ints(0), ints(9), ints(3, 7))}, {box(ints(0), ints(9), ints(3, 1, 7)), lit(3, 0, 7), box(ints(0), ints(9), ints(7))}, {box(ints(0), ints(9), ints(1, 3, 1)), lit(4, 0, 1), box(ints(0), ints(9), ints(3))}, {box(ints(0), ints(9), ints(3, 1, 3)), lit(4, 0, 1), box(ints(0), ints(9), ints(3, 3))}, {box(ints(0), ints(9), nil), lit(3, 0, 0), box(ints(0), ints(9), nil)}, {box(ints(0), ints(9), nil), lit(4, 0, 0), box(ints(0), ints(9), nil)},
		{box(ints(0), ints(9), ints(-3, -2, 62, 63)), lit(4, 0, 99), box(ints(0), ints(9), ints(-3, -2, 63))}, {box(ints(0), ints(9), ints(-3, -2, 62, 63)), lit(4, 0, low), box(ints(0), ints(9), ints(-3, 62, 63))}, {box(ints(0), ints(9), ints(-3, -2, 62, 63)), lit(3, 0, 63), box(ints(0), ints(9), ints(62))}, {box(ints(0), ints(9), ints(-3, -2, 62, 63)), lit(3, 0, -3), box(ints(0), ints(9), ints(-2))}, {box(ints(0), ints(9), ints(-3, 63)), lit(3, 0, 63), box(ints(0), ints(9), nil)},
		{impl.Domain{}, lit(1, 0, 5), impl.Domain{}}, {impl.Domain{}, impl.Literal{}, impl.Domain{}},
	}
	for _, c := range cases {
		checkRestricted(t, c.b, c.l, c.want)
	}
}

// lengths are three lengths of lists; at least two of them differ.
func lengths() [][3]int {
	var all [][3]int
	for i := range 5 * 5 * 5 {
		n := [3]int{i / 25, i / 5 % 5, i % 5}
		if n[0] != n[1] || n[1] != n[2] {
			all = append(all, n)
		}
	}
	return all
}

// raggedBox has lists of these lengths, whose arrays all have four elements.
func raggedBox(n [3]int) impl.Domain {
	modes := [][]int{{0, 1}, {0}, {1, 2}, {0, 1, 2}}
	return box(ints(1, 2, 3, 4)[:n[0]], ints(5, 6, 7, 8)[:n[1]], modes[:n[2]]...)
}

// middle is a schedule of the first activities of any raggedBox.
func middle(activities int) impl.Schedule {
	return impl.Schedule{Starts: ints(4, 4, 4, 4)[:activities], Modes: ints(1, 0, 1, 1)[:activities]}
}

func TestP15RestrictAndLiteralValueWithListsOfDifferentLengths(t *testing.T) {
	for _, n := range lengths() {
		b := raggedBox(n)
		common := min(n[0], n[1], n[2])
		for _, l := range sweep(5, numbersFrom(-3, 9)) {
			checkRestricted(t, b, l, restricted(b, l))
			want := 1
			if speaks(l, common) {
				want = allValues(b, l)
			}
			checkTruth(t, b, l, want)
		}
		for a := range 4 {
			for _, l := range []impl.Literal{lit(1, a, 62), lit(2, a, -2), lit(3, a, 9)} {
				checkBool(t, callOf("DomainEqual of the restricted domain", b, l), impl.DomainEqual(impl.Restrict(b, l), b), a >= common)
			}
		}
	}
}

func TestP15DomainsWithListsOfDifferentLengths(t *testing.T) {
	for _, n := range lengths() {
		b := raggedBox(n)
		checkBool(t, callOf("DomainEmpty", b), impl.DomainEmpty(b), false)
		size := 0
		if n[0] == n[1] && n[0] > 0 {
			size = 5
		}
		checkInt(t, callOf("DomainSize", b), impl.DomainSize(b), size)
		checkBool(t, callOf("DomainEqual with itself", b), impl.DomainEqual(b, raggedBox(n)), true)
		checkBool(t, callOf("DomainSubset with itself", b), impl.DomainSubset(b, raggedBox(n)), false)
		for activities := range 5 {
			p := lasting(lasting(chain(4), 2, 1, 1, 1), 3, 1, 1, 1)
			p.Activities = p.Activities[:activities]
			checkForm(t, callOf("the domain is", b), p, b, false)
			checkBool(t, callOf("Contains", b, middle(activities)), impl.Contains(b, middle(activities)), false)
			c := raggedBox([3]int{activities, activities, activities})
			checkBool(t, callOf("Contains", c, middle(activities)), impl.Contains(c, middle(activities)), true)
			checkBool(t, callOf("DomainSubset", b, c), impl.DomainSubset(b, c), false)
			checkBool(t, callOf("DomainSubset", c, b), impl.DomainSubset(c, b), false)
			checkBool(t, callOf("DomainEqual", b, c), impl.DomainEqual(b, c) || impl.DomainEqual(c, b), false)
		}
	}
}

func TestP15ContainsTable(t *testing.T) {
	b := box(ints(4, 10, -2), ints(9, 10, 62), ints(0), ints(0, 2), ints(0, 1))
	s := placed(5, 0, 10, 2, 30, 1)
	cases := []struct {
		s    impl.Schedule
		want bool
	}{
		{s, true}, {with(s, 0, 4, 0), true}, {with(s, 0, 9, 0), true}, {with(s, 0, 3, 0), false}, {with(s, 0, 10, 0), false}, {with(s, 0, 5, 1), false}, {with(s, 0, 5, -1), false},
		{with(s, 1, 9, 2), false}, {with(s, 1, 11, 2), false}, {with(s, 1, 10, 0), true}, {with(s, 1, 10, 1), false}, {with(s, 1, 10, 3), false},
		{with(s, 2, -3, 1), false}, {with(s, 2, -2, 1), true}, {with(s, 2, 62, 0), true}, {with(s, 2, 63, 0), false}, {with(s, 2, 62, 2), false}, {with(s, 2, math.MinInt, 0), false}, {with(s, 2, math.MaxInt, 0), false}, {with(s, 2, 0, math.MinInt), false}, {with(s, 2, 0, math.MaxInt), false},
		{placed(5, 0, 10, 2), false}, {placed(5, 0, 10, 2, 30, 1, 0, 0), false}, {impl.Schedule{}, false}, {impl.Schedule{Starts: s.Starts[:2], Modes: s.Modes}, false}, {impl.Schedule{Starts: s.Starts, Modes: s.Modes[:2]}, false}, {impl.Schedule{Starts: s.Starts}, false}, {impl.Schedule{Modes: s.Modes}, false}, {impl.Schedule{Starts: append(ints(0), s.Starts...), Modes: s.Modes}, false}, {impl.Schedule{Starts: s.Starts, Modes: append(ints(0), s.Modes...)}, false},
	}
	for _, c := range cases {
		checkBool(t, callOf("Contains", b, c.s), impl.Contains(b, c.s), c.want)
	}
	low, high := math.MinInt, math.MaxInt
	checkBool(t, "Contains without activities", impl.Contains(impl.Domain{}, impl.Schedule{}), true)
	checkBool(t, "Contains without activities in the domain", impl.Contains(impl.Domain{}, placed(0, 0)), false)
	checkBool(t, "Contains at the least int", impl.Contains(box(ints(low), ints(low), ints(low)), placed(low, low)), true)
	checkBool(t, "Contains at the greatest int", impl.Contains(box(ints(high), ints(high), ints(high)), placed(high, high)), true)
	checkBool(t, "Contains of everything", impl.Contains(box(ints(low), ints(high), ints(0)), placed(77, 0)), true)
	checkBool(t, "Contains with crossing bounds", impl.Contains(box(ints(3), ints(2), ints(0)), placed(3, 0)) || impl.Contains(box(ints(3), ints(2), ints(0)), placed(2, 0)), false)
	checkBool(t, "Contains without modes", impl.Contains(box(ints(3), ints(3), nil), placed(3, 0)), false)
	checkBool(t, "Contains with modes in any order", impl.Contains(box(ints(3), ints(3), ints(7, 5, 5, -1)), placed(3, -1)) && impl.Contains(box(ints(3), ints(3), ints(7, 5, 5, -1)), placed(3, 5)), true)
}

func TestP15LiteralValueTable(t *testing.T) {
	b := box(ints(4, 10, 0), ints(9, 10, 19), ints(0), ints(0, 2), ints(1))
	void := box(ints(9, 5), ints(4, 5), ints(0, 1), nil)
	low, high := math.MinInt, math.MaxInt
	cases := []struct {
		b    impl.Domain
		l    impl.Literal
		want int
	}{
		{b, lit(1, 0, 3), 1}, {b, lit(1, 0, 4), 1}, {b, lit(1, 0, 5), 0}, {b, lit(1, 0, 9), 0}, {b, lit(1, 0, 10), -1}, {b, lit(1, 0, 11), -1}, {b, lit(1, 0, low), 1}, {b, lit(1, 0, high), -1}, {b, lit(1, 1, 10), 1}, {b, lit(1, 1, 11), -1},
		{b, lit(2, 0, 10), 1}, {b, lit(2, 0, 9), 1}, {b, lit(2, 0, 8), 0}, {b, lit(2, 0, 4), 0}, {b, lit(2, 0, 3), -1}, {b, lit(2, 0, 2), -1}, {b, lit(2, 0, low), -1}, {b, lit(2, 0, high), 1}, {b, lit(2, 1, 10), 1}, {b, lit(2, 1, 9), -1},
		{b, lit(3, 0, 0), 1}, {b, lit(3, 0, 1), -1}, {b, lit(3, 1, 0), 0}, {b, lit(3, 1, 1), -1}, {b, lit(3, 1, 2), 0}, {b, lit(3, 2, 0), -1}, {b, lit(3, 2, 1), 1}, {b, lit(3, 1, low), -1}, {b, lit(3, 1, high), -1},
		{b, lit(4, 0, 0), -1}, {b, lit(4, 0, 1), 1}, {b, lit(4, 1, 0), 0}, {b, lit(4, 1, 1), 1}, {b, lit(4, 1, 2), 0}, {b, lit(4, 2, 0), 1}, {b, lit(4, 2, 1), -1}, {b, lit(4, 1, low), 1}, {b, lit(4, 1, high), 1},
		{void, lit(1, 0, 4), 1}, {void, lit(1, 0, 5), 1}, {void, lit(1, 0, 9), 1}, {void, lit(1, 0, 10), -1}, {void, lit(2, 0, 9), 1}, {void, lit(2, 0, 8), 1}, {void, lit(2, 0, 4), 1}, {void, lit(2, 0, 3), -1}, {void, lit(3, 0, 0), 0}, {void, lit(4, 0, 0), 0}, {void, lit(3, 0, 2), -1}, {void, lit(4, 0, 2), 1},
		{void, lit(3, 1, 0), -1}, {void, lit(4, 1, 0), 1}, {void, lit(1, 1, 5), 1}, {void, lit(1, 1, 6), -1}, {void, lit(2, 1, 5), 1}, {void, lit(2, 1, 4), -1},
		{b, lit(1, -1, 99), 1}, {b, lit(2, -1, -9), 1}, {b, lit(3, -1, 0), 1}, {b, lit(4, -1, 0), 1}, {b, lit(1, 3, 99), 1}, {b, lit(2, 3, -9), 1}, {b, lit(3, 3, 0), 1}, {b, lit(4, 3, 0), 1}, {b, lit(1, low, 99), 1}, {b, lit(2, high, -9), 1}, {impl.Domain{}, lit(1, 0, 99), 1}, {impl.Domain{}, impl.Literal{}, 1},
		{box(ints(low), ints(high), ints(0)), lit(1, 0, low), 1}, {box(ints(low), ints(high), ints(0)), lit(1, 0, high), 0}, {box(ints(low), ints(high), ints(0)), lit(2, 0, low), 0}, {box(ints(low), ints(high), ints(0)), lit(2, 0, high), 1}, {box(ints(62), ints(99), ints(0)), lit(1, 0, 63), 0}, {box(ints(99), ints(99), ints(0)), lit(1, 0, 99), 1}, {box(ints(-9), ints(-2), ints(0)), lit(2, 0, -3), 0}, {box(ints(-9), ints(-9), ints(0)), lit(2, 0, -9), 1}, {box(ints(0), ints(0), ints(62)), lit(3, 0, 63), -1}, {box(ints(0), ints(0), ints(63)), lit(3, 0, 63), 1},
	}
	for _, c := range cases {
		checkTruth(t, c.b, c.l, c.want)
	}
	for _, kind := range otherKinds() {
		for _, value := range farValues() {
			checkTruth(t, b, lit(kind, 1, value), 1)
			checkTruth(t, void, lit(kind, 1, value), 1)
		}
	}
}

func TestP15SingletonDomain(t *testing.T) {
	p := tiny(t)
	all := earlySchedules(p, 3)
	for i, s := range all {
		b := impl.SingletonDomain(s)
		sameBox(t, callOf("SingletonDomain", s), b, box(s.Starts, s.Starts, s.Modes[:1], s.Modes[1:2], s.Modes[2:]))
		for j, o := range all {
			if impl.Contains(b, o) != (i == j) {
				t.Errorf("Contains(%+v, %+v) = %v", b, o, i != j)
			}
		}
		checkBool(t, callOf("SingletonDomain has one schedule", s), impl.DomainForm(p, b) && !impl.DomainEmpty(b) && impl.DomainSize(b) == 1, true)
	}
	for _, x := range scheduledProjects()[:300] {
		b := impl.SingletonDomain(x.s)
		checkBool(t, callOf("SingletonDomain contains its schedule", x.s), impl.Contains(b, x.s) && impl.DomainForm(x.p, b), true)
		checkBool(t, callOf("SingletonDomain contains another schedule", x.s), impl.Contains(b, with(x.s, 0, x.s.Starts[0]+1, x.s.Modes[0])) || impl.Contains(b, with(x.s, 0, x.s.Starts[0], x.s.Modes[0]+1)), false)
	}
}

func TestP15SingletonDomainOfOtherSchedules(t *testing.T) {
	for _, starts := range [][]int{nil, {}, {7}, {7, 8}, {-5, math.MaxInt, math.MinInt}} {
		for _, modes := range [][]int{nil, {}, {2}, {2, -1}, {0, math.MinInt, 9}} {
			s := impl.Schedule{Starts: starts, Modes: modes}
			var want impl.Domain
			want.MinStart, want.MaxStart = starts, starts
			for _, m := range modes {
				want.Modes = append(want.Modes, ints(m))
			}
			b := impl.SingletonDomain(s)
			sameBox(t, callOf("SingletonDomain", s), b, want)
			checkBool(t, callOf("Contains of SingletonDomain", s), impl.Contains(b, s), len(starts) == len(modes))
			shorter := min(len(starts), len(modes))
			cut := impl.Schedule{Starts: starts[:shorter], Modes: modes[:shorter]}
			checkBool(t, callOf("Contains of SingletonDomain with the shorter lists", s), impl.Contains(b, cut), len(starts) == len(modes))
		}
	}
}

func TestP15DomainLiteralsGiveTheDomainBack(t *testing.T) {
	check := func(p impl.Project, b impl.Domain) {
		t.Helper()
		all := impl.DomainLiterals(p, b)
		checkBool(t, callOf("the literals ascend", b), slices.IsSortedFunc(all, impl.CompareLiterals), true)
		c := impl.InitialDomain(p)
		for i, l := range all {
			d := impl.Restrict(c, l)
			checkBool(t, fmt.Sprintf("literal %d of %+v changes the domain", i, b), impl.DomainEqual(c, d), false)
			c = d
		}
		sameBox(t, fmt.Sprintf("InitialDomain restricted by the DomainLiterals %+v", all), c, b)
	}
	for seed := range int64(1500) {
		p := randomProject(seed)
		check(p, narrowBox(p, seed))
	}
	p := formProject()
	for first := range 63 {
		for last := -2; last <= 19; last++ {
			check(p, box(ints(0, first, 3), ints(19, last, last), ints(0), ints(0, 2), nil))
		}
	}
}

func TestP15DomainLiteralsTable(t *testing.T) {
	p := formProject()
	// The deadline is 20, so that the last start of the initial domain is 19.
	whole := box(ints(0, 0, 0), ints(19, 19, 19), ints(0), ints(0, 1, 2), ints(0, 1))
	cases := []struct {
		apply func(b *impl.Domain)
		want  []impl.Literal
	}{
		{func(b *impl.Domain) {}, nil},
		{func(b *impl.Domain) { b.MinStart[1] = 1 }, []impl.Literal{lit(1, 1, 1)}}, {func(b *impl.Domain) { b.MinStart[1] = -1 }, nil}, {func(b *impl.Domain) { b.MinStart[1] = -2 }, nil}, {func(b *impl.Domain) { b.MinStart[2] = 62 }, []impl.Literal{lit(1, 2, 62)}}, {func(b *impl.Domain) { b.MinStart[0] = 19 }, []impl.Literal{lit(1, 0, 19)}},
		{func(b *impl.Domain) { b.MaxStart[1] = 18 }, []impl.Literal{lit(2, 1, 18)}}, {func(b *impl.Domain) { b.MaxStart[1] = 20 }, nil}, {func(b *impl.Domain) { b.MaxStart[1] = 62 }, nil}, {func(b *impl.Domain) { b.MaxStart[0] = -2 }, []impl.Literal{lit(2, 0, -2)}}, {func(b *impl.Domain) { b.MaxStart[2] = 0 }, []impl.Literal{lit(2, 2, 0)}},
		{func(b *impl.Domain) { b.Modes[1] = ints(0, 2) }, []impl.Literal{lit(4, 1, 1)}}, {func(b *impl.Domain) { b.Modes[1] = ints(1) }, []impl.Literal{lit(4, 1, 0), lit(4, 1, 2)}}, {func(b *impl.Domain) { b.Modes[1] = nil }, []impl.Literal{lit(4, 1, 0), lit(4, 1, 1), lit(4, 1, 2)}}, {func(b *impl.Domain) { b.Modes[0] = nil }, []impl.Literal{lit(4, 0, 0)}}, {func(b *impl.Domain) { b.Modes[2] = ints(0) }, []impl.Literal{lit(4, 2, 1)}},
		{func(b *impl.Domain) { *b = box(ints(5, -2, 30), ints(3, 62, 18), nil, ints(2), ints(0, 1)) }, []impl.Literal{lit(1, 0, 5), lit(2, 0, 3), lit(4, 0, 0), lit(4, 1, 0), lit(4, 1, 1), lit(1, 2, 30), lit(2, 2, 18)}},
		{func(b *impl.Domain) { *b = box(ints(1, 1, 1), ints(1, 1, 1), ints(0), ints(0), ints(1)) }, []impl.Literal{lit(1, 0, 1), lit(2, 0, 1), lit(1, 1, 1), lit(2, 1, 1), lit(4, 1, 1), lit(4, 1, 2), lit(1, 2, 1), lit(2, 2, 1), lit(4, 2, 0)}},
	}
	for _, c := range cases {
		b := edited(whole, c.apply)
		same(t, callOf("DomainLiterals", b), impl.DomainLiterals(p, b), c.want)
	}
	p.Deadline = 60
	same(t, "DomainLiterals with the deadline 60", impl.DomainLiterals(p, whole), []impl.Literal{lit(2, 0, 19), lit(2, 1, 19), lit(2, 2, 19)})
	p.Deadline = 1
	same(t, "DomainLiterals with the deadline 1", impl.DomainLiterals(p, whole), nil)
}

// isPart compares two domains whose lists have the same lengths, one start and one mode after the other.
func isPart(b, c impl.Domain) bool {
	for a := range b.Modes {
		if b.MinStart[a] < c.MinStart[a] || b.MaxStart[a] > c.MaxStart[a] || !isPartOf(b.Modes[a], c.Modes[a]) {
			return false
		}
	}
	return true
}

func TestP15DomainSubset(t *testing.T) {
	seen := map[bool]int{}
	for seed := range int64(400) {
		p := randomProject(seed)
		all := []impl.Domain{impl.InitialDomain(p), widest(p), someBox(p, seed), someBox(p, seed+1), narrowBox(p, seed), narrowBox(p, seed+1), impl.SingletonDomain(someSchedule(p, seed))}
		for _, l := range literalsOf(p)[:70] {
			all = append(all, impl.Restrict(all[2], l))
		}
		for i, b := range all {
			for _, c := range all[:7] {
				want := isPart(b, c)
				seen[want]++
				if got := impl.DomainSubset(b, c); got != want {
					t.Errorf("DomainSubset(%+v, %+v) = %v", b, c, got)
				}
				if got := impl.DomainEqual(b, c); got != areSameBoxes(b, c) {
					t.Errorf("DomainEqual(%+v, %+v) = %v", b, c, got)
				}
			}
			checkBool(t, fmt.Sprint("DomainSubset with itself ", i), impl.DomainSubset(b, wholeBox(b)), true)
		}
	}
	checkBool(t, "there are pairs of both kinds", seen[true] > 1000 && seen[false] > 1000, true)
}

func TestP15DomainSubsetAndEqualTable(t *testing.T) {
	b := box(ints(4, 10, 0), ints(9, 10, 19), ints(0), ints(0, 2), nil)
	low, high := math.MinInt, math.MaxInt
	for a := range 3 {
		cases := []struct {
			apply          func(c *impl.Domain)
			inside, around bool
		}{
			{func(c *impl.Domain) {}, true, true},
			{func(c *impl.Domain) { c.MinStart[a]++ }, true, false}, {func(c *impl.Domain) { c.MinStart[a]-- }, false, true}, {func(c *impl.Domain) { c.MinStart[a] = high }, true, false}, {func(c *impl.Domain) { c.MinStart[a] = low }, false, true},
			{func(c *impl.Domain) { c.MaxStart[a]++ }, false, true}, {func(c *impl.Domain) { c.MaxStart[a]-- }, true, false}, {func(c *impl.Domain) { c.MaxStart[a] = high }, false, true}, {func(c *impl.Domain) { c.MaxStart[a] = low }, true, false},
			{func(c *impl.Domain) { c.MinStart[a]++; c.MaxStart[a]++ }, false, false}, {func(c *impl.Domain) { c.MinStart[a]--; c.MaxStart[a]-- }, false, false},
			{func(c *impl.Domain) { c.Modes[a] = append(c.Modes[a], 5) }, false, true}, {func(c *impl.Domain) { c.Modes[a] = ints(5) }, false, len(b.Modes[a]) == 0},
		}
		for i, c := range cases {
			d := edited(b, c.apply)
			name := fmt.Sprint(" of change ", i, " of activity ", a)
			checkBool(t, "DomainSubset"+name, impl.DomainSubset(d, b), c.inside)
			checkBool(t, "DomainSubset around"+name, impl.DomainSubset(b, d), c.around)
			checkBool(t, "DomainEqual"+name, impl.DomainEqual(d, b), i == 0)
			checkBool(t, "DomainEqual around"+name, impl.DomainEqual(b, d), i == 0)
		}
	}
	less := edited(b, func(c *impl.Domain) { c.Modes[1] = ints(2) })
	checkBool(t, "DomainSubset with fewer modes", impl.DomainSubset(less, b) && !impl.DomainSubset(b, less) && !impl.DomainEqual(less, b), true)
	mixed, doubled := edited(b, func(c *impl.Domain) { c.Modes[1] = ints(2, 0) }), edited(b, func(c *impl.Domain) { c.Modes[1] = ints(0, 2, 2) })
	checkBool(t, "DomainSubset of modes in any order", impl.DomainSubset(b, mixed) && impl.DomainSubset(mixed, b) && impl.DomainSubset(b, doubled) && impl.DomainSubset(doubled, b), true)
	checkBool(t, "DomainEqual of modes in another order", impl.DomainEqual(b, mixed) || impl.DomainEqual(b, doubled) || impl.DomainEqual(mixed, doubled), false)
}

func TestP15DomainSubsetWithOtherNumbersOfActivities(t *testing.T) {
	for n := range 8 {
		for other := range 8 {
			b, c := widest(chain(n)), widest(chain(other))
			checkBool(t, callOf("DomainSubset", n, other), impl.DomainSubset(b, c), n == other)
			checkBool(t, callOf("DomainEqual", n, other), impl.DomainEqual(b, c), n == other)
		}
	}
}

func TestP15DomainSizeTable(t *testing.T) {
	low, high := math.MinInt, math.MaxInt
	cases := []struct {
		b    impl.Domain
		want int
	}{
		{impl.Domain{}, 0}, {box([]int{}, []int{}), 0}, {box(ints(3), ints(3), ints(0)), 1}, {box(ints(3), ints(4), ints(0)), 2}, {box(ints(4), ints(3), ints(0)), 0}, {box(ints(5), ints(3), ints(0)), 0}, {box(ints(0), ints(59), ints(0)), 60}, {box(ints(-2), ints(62), ints(0)), 65}, {box(ints(62), ints(-2), ints(0)), 0},
		{box(ints(-3), ints(63), ints(0)), 65}, {box(ints(-3), ints(62), ints(0)), 65}, {box(ints(-2), ints(63), ints(0)), 65}, {box(ints(low), ints(high), ints(0)), 65}, {box(ints(high), ints(low), ints(0)), 0}, {box(ints(low), ints(low), ints(0)), 1}, {box(ints(high), ints(high), ints(0)), 1}, {box(ints(low), ints(0), ints(0)), 3}, {box(ints(60), ints(high), ints(0)), 3}, {box(ints(63), ints(99), ints(0)), 1}, {box(ints(99), ints(63), ints(0)), 1}, {box(ints(-3), ints(-9), ints(0)), 1}, {box(ints(63), ints(61), ints(0)), 0}, {box(ints(-1), ints(-9), ints(0)), 0},
		{box(ints(0, 0, 0), ints(3, 7, 5), ints(0), ints(0), ints(0)), 8}, {box(ints(0, 0, 0), ints(9, 7, 5), ints(0), ints(0), ints(0)), 10}, {box(ints(0, 0, 0), ints(3, 7, 12), ints(0), ints(0), ints(0)), 13}, {box(ints(9, 5, 9), ints(3, 7, 5), ints(0), ints(0), ints(0)), 3}, {box(ints(9, 9, 9), ints(3, 7, 5), ints(0), ints(0), ints(0)), 0}, {box(ints(low, 9), ints(low, 7), ints(0), ints(0)), 1},
		{box(ints(3, 0), ints(3), ints(0), ints(0)), 0}, {box(ints(3), ints(3, 9), ints(0), ints(0)), 0}, {box(nil, ints(3)), 0}, {box(ints(3), nil), 0}, {box(ints(3), ints(5)), 3}, {box(ints(3), ints(5), nil), 3}, {box(ints(3), ints(5), ints(0), ints(0)), 3}, {box(nil, nil, ints(0)), 0},
	}
	for _, c := range cases {
		checkInt(t, callOf("DomainSize", c.b), impl.DomainSize(c.b), c.want)
	}
}

func TestP15DomainSize(t *testing.T) {
	for seed := range int64(600) {
		p := randomProject(seed)
		for _, b := range []impl.Domain{someBox(p, seed), narrowBox(p, seed)} {
			most := 0
			for a := range b.Modes {
				most = max(most, len(numbersFrom(b.MinStart[a], b.MaxStart[a])))
			}
			checkInt(t, callOf("DomainSize", b), impl.DomainSize(b), most)
		}
	}
}

// roomyBox returns a copy of a domain all of whose lists reach beyond their ends, and a function that reports whether all of it is still the same.
func roomyBox(b impl.Domain) (impl.Domain, func() bool) {
	c := box(extended(b.MinStart, 7), extended(b.MaxStart, 8))
	for _, modes := range b.Modes {
		c.Modes = append(c.Modes, extended(modes, 9))
	}
	c.Modes = extended(c.Modes, ints(5, 6))
	brim := func() impl.Domain {
		d := box(c.MinStart[:cap(c.MinStart)], c.MaxStart[:cap(c.MaxStart)])
		for _, modes := range c.Modes[:cap(c.Modes)] {
			d.Modes = append(d.Modes, modes[:cap(modes)])
		}
		return wholeBox(d)
	}
	before := brim()
	return c, func() bool { return reflect.DeepEqual(brim(), before) }
}

// spoilBox overwrites all lists of a domain up to their capacity, which would show in whatever shares their memory.
func spoilBox(b impl.Domain) {
	for _, modes := range b.Modes {
		overwrite(modes, -9)
	}
	overwrite(b.Modes, nil)
	overwrite(b.MinStart, -9)
	overwrite(b.MaxStart, -9)
}

// checkNewBox expects a domain that shares no memory, neither with an argument nor between its lists, and overwrites it.
func checkNewBox(t *testing.T, call string, b impl.Domain, args ...any) {
	t.Helper()
	checkNew(t, call, b, args...)
	spoilBox(b)
}

func TestP15DomainsLeaveTheirArgumentsAlone(t *testing.T) {
	for _, v := range variants() {
		p, kept := roomy(v.p)
		raw := box(ints(0, 1, 2, 3, 4, 5), ints(9, 9, 9, 9, 9, 9), ints(0), ints(0, 1), ints(1, 2), ints(0), ints(1), ints(0, 1, 2))
		b, boxKept := roomyBox(raw)
		starts, startsKept := spare(ints(0, 3, 5, 5, 9, 6), 7)
		modes, modesKept := spare(ints(0, 1, 2, 0, 1, 2), 1)
		s := impl.Schedule{Starts: starts, Modes: modes}
		checkNewBox(t, "InitialDomain with "+v.name, impl.InitialDomain(p), p)
		checkNewBox(t, "SingletonDomain", impl.SingletonDomain(s), s)
		for _, l := range []impl.Literal{lit(1, 0, 5), lit(2, 1, 5), lit(3, 2, 2), lit(4, 5, 1), lit(3, 3, 1), lit(1, 6, 5), lit(0, 0, 0)} {
			checkNewBox(t, "Restrict", impl.Restrict(b, l), b)
			impl.LiteralValue(b, l)
		}
		all := impl.DomainLiterals(p, b)
		checkNew(t, "DomainLiterals with "+v.name, all, p, b)
		overwrite(all, impl.Literal{})
		impl.DomainForm(p, b)
		impl.DomainEmpty(b)
		impl.Contains(b, s)
		impl.DomainSubset(b, b)
		impl.DomainEqual(b, b)
		impl.DomainSize(b)
		if !kept() || !boxKept() || !startsKept() || !modesKept() {
			t.Errorf("a function of chapter 13 changes its argument, a domain, a schedule or a project with %s", v.name)
		}
	}
}

func TestP15DomainsOutliveTheirArguments(t *testing.T) {
	for _, n := range append(lengths(), [3]int{3, 3, 3}, [3]int{4, 4, 4}) {
		for _, l := range sweep(4, ints(-3, 0, 1, 3, 6, 63)) {
			b, boxKept := roomyBox(raggedBox(n))
			c := impl.Restrict(b, l)
			want := wholeBox(c)
			if !boxKept() {
				t.Errorf("Restrict by %+v changes a domain with lists of the lengths %v", l, n)
			}
			checkNew(t, callOf("Restrict", b, l), c, b)
			spoilBox(b)
			sameBox(t, callOf("Restrict", n, l), c, want)
		}
		s, _ := roomyBox(raggedBox(n))
		o := impl.Schedule{Starts: s.MinStart, Modes: s.MaxStart}
		b := impl.SingletonDomain(o)
		checkNew(t, callOf("SingletonDomain", o), b, o)
		want := wholeBox(b)
		spoilBox(s)
		sameBox(t, "SingletonDomain of a schedule that was changed", b, want)
	}
	p := full()
	b := impl.InitialDomain(p)
	all := impl.DomainLiterals(p, widest(p))
	spoil(p)
	sameBox(t, "InitialDomain of a project that was changed", b, impl.InitialDomain(full()))
	same(t, "DomainLiterals of a project that was changed", all, impl.DomainLiterals(full(), widest(full())))
}

func TestP15NilAndEmptyListsOfDomainsAreEqual(t *testing.T) {
	none, empty := impl.Domain{}, impl.Domain{MinStart: []int{}, MaxStart: []int{}, Modes: [][]int{}}
	for _, b := range []impl.Domain{none, empty} {
		for _, c := range []impl.Domain{none, empty} {
			checkBool(t, "no activities are no activities", impl.DomainEqual(b, c) && impl.DomainSubset(b, c), true)
		}
		checkBool(t, "no activities", impl.DomainEmpty(b) || impl.DomainForm(impl.Project{}, b) || impl.DomainForm(chain(1), b), false)
		checkBool(t, "no activities are contained", impl.Contains(b, impl.Schedule{}) && impl.Contains(b, impl.Schedule{Starts: []int{}, Modes: []int{}}), true)
		checkInt(t, "DomainSize without activities", impl.DomainSize(b), 0)
		checkRestricted(t, b, lit(1, 0, 9), impl.Domain{})
		checkTruth(t, b, lit(3, 0, 0), 1)
	}
	p := formProject()
	without := box(ints(0, 0, 0), ints(5, 5, 5), nil, ints(0), nil)
	for _, b := range []impl.Domain{without, wholeBox(without)} {
		for _, c := range []impl.Domain{without, wholeBox(without)} {
			checkBool(t, "no modes are no modes", impl.DomainEqual(b, c) && impl.DomainSubset(b, c), true)
		}
		checkBool(t, "no modes", impl.DomainEmpty(b) && impl.DomainForm(p, b), true)
		same(t, "DomainLiterals without modes", impl.DomainLiterals(p, b), impl.DomainLiterals(p, without))
		checkRestricted(t, b, lit(3, 0, 0), without)
		checkRestricted(t, b, lit(4, 0, 0), without)
		checkTruth(t, b, lit(3, 0, 0), -1)
		checkTruth(t, b, lit(4, 0, 0), 1)
	}
	sameBox(t, "InitialDomain with empty lists", impl.InitialDomain(deepCopy(p)), impl.InitialDomain(p))
}

func TestP15DomainsWithVeryLongLists(t *testing.T) {
	long := make([]int, 100000)
	b := impl.Domain{MinStart: long, MaxStart: long, Modes: make([][]int, len(long))}
	for i := range b.Modes {
		b.Modes[i] = ints(0)
	}
	checkBool(t, "very many activities", impl.DomainForm(chain(1), b) || impl.DomainEmpty(b), false)
	checkBool(t, "very many activities are equal", impl.DomainEqual(b, b) && impl.DomainSubset(b, b) && impl.Contains(b, impl.Schedule{Starts: long, Modes: long}), true)
	checkInt(t, "DomainSize of very many activities", impl.DomainSize(b), 1)
	checkBool(t, "very many activities restricted", impl.DomainEmpty(impl.Restrict(b, lit(4, len(long)-1, 0))), true)
	c := box(ints(0), ints(0), long)
	checkBool(t, "very many modes", impl.DomainForm(chain(1), c) || impl.DomainEmpty(c), false)
	checkRestricted(t, c, lit(4, 0, 0), box(ints(0), ints(0), nil))
	checkRestricted(t, c, lit(4, 0, 1), c)
}

func TestP15DomainsKeepNoState(t *testing.T) {
	type results struct {
		initial, restricted, single impl.Domain
		literals                    []impl.Literal
		numbers                     [2]int
		answers                     [5]bool
	}
	p := formProject()
	want := results{box(ints(0, 0, 0), ints(19, 19, 19), ints(0), ints(0, 1, 2), ints(0, 1)), box(ints(0, 0, 0), ints(19, 5, 19), ints(0), ints(0, 1, 2), ints(0, 1)), box(ints(1, 2, 3), ints(1, 2, 3), ints(0), ints(1), ints(1)), []impl.Literal{lit(2, 1, 5)}, [2]int{20, -1}, [5]bool{true, false, true, true, false}}
	for range 3 {
		b := impl.InitialDomain(p)
		c := impl.Restrict(b, lit(2, 1, 5))
		s := impl.SingletonDomain(placed(1, 0, 2, 1, 3, 1))
		got := results{b, c, s, impl.DomainLiterals(p, c), [2]int{impl.DomainSize(b), impl.LiteralValue(c, lit(1, 1, 6))}, [5]bool{impl.DomainForm(p, c), impl.DomainEmpty(c), impl.Contains(c, placed(0, 0, 5, 2, 19, 1)), impl.DomainSubset(c, b), impl.DomainEqual(c, b)}}
		if !reflect.DeepEqual(got, want) {
			t.Errorf("the functions of chapter 13 return %+v, want %+v", got, want)
		}
		spoilBox(b)
		spoilBox(c)
		spoilBox(s)
		overwrite(got.literals, impl.Literal{})
		impl.InitialDomain(full())
		impl.Restrict(widest(full()), lit(1, 3, 9))
	}
}
