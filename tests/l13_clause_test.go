package tests

import (
	"fmt"
	"math"
	"math/rand"
	"slices"
	"strings"
	"testing"

	"loop.example/g00806/impl"
)

// lits makes a list of literals, each of which is given by three numbers: the kind, the activity and the value.
func lits(numbers ...int) []impl.Literal {
	var all []impl.Literal
	for c := range slices.Chunk(numbers, 3) {
		all = append(all, lit(c[0], c[1], c[2]))
	}
	return all
}

// sortedOnes are the literals of a list in ascending order, each of them once.
func sortedOnes(l []impl.Literal) []impl.Literal {
	var all []impl.Literal
	for _, x := range l {
		if !slices.Contains(all, x) {
			all = append(all, x)
		}
	}
	slices.SortFunc(all, fieldOrder)
	return all
}

// isClause tells whether l is ClauseOk for a project that has the given literals.
func isClause(known map[impl.Literal]bool, l []impl.Literal) bool {
	for i, x := range l {
		if !known[x] || i > 0 && fieldOrder(l[i-1], x) >= 0 {
			return false
		}
	}
	return len(l) <= 24
}

func knownLiterals(p impl.Project) map[impl.Literal]bool {
	known := map[impl.Literal]bool{}
	for _, l := range literalsOf(p) {
		known[l] = true
	}
	return known
}

// isAny tells whether one of the literals is true for a schedule whose lists have one length.
func isAny(l []impl.Literal, s impl.Schedule) bool {
	return slices.ContainsFunc(l, func(x impl.Literal) bool {
		return speaks(x, len(s.Starts)) && isTrue(x, s.Starts[x.Activity], s.Modes[x.Activity])
	})
}

// someClause has this many of the literals, in ascending order.
func someClause(r *rand.Rand, literals []impl.Literal, count int) []impl.Literal {
	var all []impl.Literal
	for _, at := range r.Perm(len(literals))[:count] {
		all = append(all, literals[at])
	}
	slices.SortFunc(all, fieldOrder)
	return all
}

// closeLiterals are the literals about the first times and all modes of a project.
func closeLiterals(p impl.Project, most int) []impl.Literal {
	return slices.DeleteFunc(literalsOf(p), func(l impl.Literal) bool { return l.Value > most })
}

func checkClause(t *testing.T, call string, got, want []impl.Literal) {
	t.Helper()
	if !slices.Equal(got, want) {
		t.Errorf("%s = %v, want %v", call, got, want)
	}
}

// checkResolved expects the resolvent, and that it is true for each of the schedules for which both clauses are.
func checkResolved(t *testing.T, a, b []impl.Literal, l impl.Literal, all []impl.Schedule) bool {
	t.Helper()
	got, cut := impl.Resolve(a, b, l), false
	for _, s := range all {
		if isAny(a, s) && isAny(b, s) {
			if !isAny(got, s) || !impl.ClauseHolds(got, s) {
				t.Errorf("Resolve(%v, %v, %v) = %v is not true for %+v", a, b, l, got, s)
			}
		} else {
			cut = true
		}
	}
	var rest []impl.Literal
	for _, x := range a {
		if x != l {
			rest = append(rest, x)
		}
	}
	for _, x := range b {
		if x != impl.Negate(l) {
			rest = append(rest, x)
		}
	}
	checkClause(t, fmt.Sprint("Resolve of ", a, b, l), got, sortedOnes(rest))
	return cut
}

func TestP5ResolutionPreservesTruth(t *testing.T) {
	p := tiny(t)
	all, literals := earlySchedules(p, 4), closeLiterals(p, 5)
	r := rand.New(rand.NewSource(13))
	cuts := 0
	for _, l := range literals {
		not := impl.Negate(l)
		for range 8 {
			a, b := someClause(r, literals, r.Intn(4)), someClause(r, literals, r.Intn(4))
			withL, withNot := append(slices.Clone(a), l), append([]impl.Literal{not}, b...)
			for _, c := range [][2][]impl.Literal{{withL, withNot}, {withL, b}, {a, withNot}, {a, b}, {withNot, withL}, {withL, withL}, {slices.Concat(withL, a, withL), slices.Concat(withNot, withNot)}} {
				cuts += b2i(checkResolved(t, c[0], c[1], l, all))
			}
		}
	}
	checkBool(t, "some clauses were not true for all schedules", cuts > 0, true)
}

func TestP5ResolutionOfTwoUnits(t *testing.T) {
	p := full()
	for _, l := range literalsOf(p) {
		// The negation of one of the first or last literals is beyond the values of a literal, but still its negation.
		checkClause(t, fmt.Sprint("Resolve of the unit ", l), impl.Resolve([]impl.Literal{l}, []impl.Literal{impl.Negate(l)}, l), nil)
		checkClause(t, fmt.Sprint("Resolve of the unit twice ", l), impl.Resolve([]impl.Literal{l}, []impl.Literal{l}, l), []impl.Literal{l})
		checkClause(t, fmt.Sprint("Resolve of the negation twice ", l), impl.Resolve([]impl.Literal{impl.Negate(l)}, []impl.Literal{impl.Negate(l)}, l), []impl.Literal{impl.Negate(l)})
		checkClause(t, fmt.Sprint("Resolve in the other order ", l), impl.Resolve([]impl.Literal{impl.Negate(l)}, []impl.Literal{l}, l), sortedOnes([]impl.Literal{l, impl.Negate(l)}))
	}
}

// checkNegated expects that a schedule of the initial domain is in the negated one exactly if the clause does not hold.
func checkNegated(t *testing.T, p impl.Project, l []impl.Literal, all []impl.Schedule) {
	t.Helper()
	b := impl.NegatedDomain(p, l)
	for _, s := range all {
		holds := isAny(l, s)
		if got := impl.ClauseHolds(l, s); got != holds {
			t.Errorf("ClauseHolds(%v, %+v) = %v", l, s, got)
		}
		early := slices.Max(s.Starts) < p.Deadline && slices.Min(s.Starts) >= 0
		if got := impl.Contains(b, s); got != (early && !holds) {
			t.Errorf("Contains(%+v, which negates %v, %+v) = %v", b, l, s, got)
		}
	}
}

func TestP5ANegatedDomainContainsExactlyTheSchedulesForWhichTheClauseDoesNotHold(t *testing.T) {
	p := tiny(t)
	all, literals := earlySchedules(p, 4), closeLiterals(p, 5)
	r := rand.New(rand.NewSource(7))
	checkNegated(t, p, nil, all)
	for i, l := range literals {
		checkNegated(t, p, []impl.Literal{l}, all)
		checkNegated(t, p, []impl.Literal{l, impl.Negate(l)}, all)
		checkNegated(t, p, []impl.Literal{impl.Negate(l), l}, all)
		checkNegated(t, p, someClause(r, literals, i%6), all)
	}
}

func TestP5ANegatedDomainOfAllTimes(t *testing.T) {
	r := rand.New(rand.NewSource(8))
	for i, x := range scheduledProjects() {
		if i%10 != 0 {
			continue
		}
		all := []impl.Schedule{x.s, someSchedule(x.p, 1), someSchedule(x.p, 2)}
		for _, start := range ints(-2, -1, 0, x.p.Deadline-1, x.p.Deadline, 59, 60, 61, 62) {
			all = append(all, with(x.s, 0, start, x.s.Modes[0]))
		}
		literals := literalsOf(x.p)
		for count := range min(25, len(literals)) {
			checkNegated(t, x.p, someClause(r, literals, count), all)
		}
	}
}

// checkStatus expects what the document says of the values of the literals in the domain.
func checkStatus(t *testing.T, b impl.Domain, l []impl.Literal, want int, one impl.Literal) {
	t.Helper()
	got, literal := impl.ClauseStatus(b, l)
	if got != want || literal != one {
		t.Errorf("ClauseStatus(%+v, %v) = %d, %v, want %d, %v", b, l, got, literal, want, one)
	}
}

func TestP5TheStatusOfAClauseIsThatForAllSchedulesOfTheDomain(t *testing.T) {
	p := tiny(t)
	all, literals := earlySchedules(p, 4), closeLiterals(p, 5)
	r := rand.New(rand.NewSource(9))
	seen := map[string]int{}
	for range 3000 {
		l := someClause(r, literals, r.Intn(4))
		b := impl.NegatedDomain(p, someClause(r, literals, r.Intn(4)))
		if isVoid(b) {
			continue
		}
		status, one := impl.ClauseStatus(b, l)
		for _, s := range all {
			if !isInside(b, s) {
				continue
			}
			if status == 1 && !isAny(l, s) || status == -1 && isAny(l, s) || one.Kind != 0 && isAny(l, s) != isAny([]impl.Literal{one}, s) {
				t.Errorf("ClauseStatus(%+v, %v) = %d, %v, but %+v", b, l, status, one, s)
			}
		}
		seen[fmt.Sprint(status, one.Kind != 0)]++
	}
	for _, answer := range []string{"1 false", "-1 false", "0 true", "0 false"} {
		checkBool(t, "the status is "+answer, seen[answer] > 20, true)
	}
}

func TestP5AClauseIsFalseWhereItIsNegated(t *testing.T) {
	r := rand.New(rand.NewSource(10))
	for seed := range int64(400) {
		p := randomProject(seed)
		l := someClause(r, literalsOf(p), r.Intn(6))
		if b := impl.NegatedDomain(p, l); !isVoid(b) {
			checkStatus(t, b, l, -1, impl.Literal{})
		}
	}
}

// spread are literals about as many different times as there are.
func spread(count int) []impl.Literal {
	var all []impl.Literal
	for i := range count {
		all = append(all, lit(1+i/13, 0, i%13))
	}
	return all
}

// replaced is a copy of l with another literal at one index.
func replaced(l []impl.Literal, at int, x impl.Literal) []impl.Literal {
	c := slices.Clone(l)
	c[at] = x
	return c
}

// checkClauseOk expects whether l is a clause of p; if not, it has no text.
func checkClauseOk(t *testing.T, p impl.Project, l []impl.Literal, want bool) {
	t.Helper()
	checkBool(t, fmt.Sprint("ClauseOk of ", l), impl.ClauseOk(p, l), want)
	if got := impl.FormatClause(p, l); (got != "") != want {
		t.Errorf("FormatClause of %v = %q", l, got)
	}
}

func TestMaxLits(t *testing.T) {
	checkInt(t, "MaxLits", impl.MaxLits, 24)
}

func TestP15ClauseOkOfAllLengths(t *testing.T) {
	p := full()
	for _, count := range append(numbersFrom(0, 26), 40, 100) {
		checkClauseOk(t, p, someClause(rand.New(rand.NewSource(1)), literalsOf(p), count), count <= 24)
		checkClauseOk(t, p, make([]impl.Literal, count), count == 0)
		checkClauseOk(t, p, slices.Repeat(lits(1, 0, 5), count), count <= 1)
	}
	for count := range 27 {
		checkClauseOk(t, p, spread(count), count <= 24)
	}
}

func TestP15ClauseOkOfLiteralsThatAreNotOk(t *testing.T) {
	p := full()
	for _, count := range ints(1, 2, 3, 7, 24) {
		l := spread(count)
		for at := range l {
			// Each of them is replaced by one that is in the same place of the order.
			checkClauseOk(t, p, replaced(l, at, l[at]), true)
			for _, bad := range lits(1, 0, -2, 1, 0, 62, 2, 0, 62, 3, 0, 1, 3, 1, 2, 4, 0, -1, 0, 0, 0, 5, 0, 0, 1, -1, 0, 1, 6, 0, 0, 0, 3, math.MinInt, 0, 0, math.MaxInt, 0, 0, 1, math.MinInt, 0, 1, math.MaxInt, 0, 1, 0, math.MinInt, 2, 0, math.MaxInt) {
				checkClauseOk(t, p, replaced(l, at, bad), false)
				checkClauseOk(t, p, sortedOnes(replaced(l, at, bad)), false)
			}
		}
	}
}

func TestP15ClauseOkOfAllPairs(t *testing.T) {
	p := lasting(chain(2), 1, 1, 2)
	known := knownLiterals(p)
	all := append(closeLiterals(p, 2), lits(1, 0, -2, 2, 1, 62, 3, 0, 1, 4, 1, 2, 0, 0, 0, 5, 1, 0, 1, 2, 0, 1, -1, 0)...)
	for _, a := range all {
		for _, b := range all {
			l := []impl.Literal{a, b}
			checkBool(t, fmt.Sprint("ClauseOk of ", l), impl.ClauseOk(p, l), isClause(known, l))
		}
	}
}

func TestP15ClauseOkTable(t *testing.T) {
	cases := []struct {
		l    []impl.Literal
		want bool
	}{
		{nil, true}, {[]impl.Literal{}, true}, {lits(1, 0, 0), true}, {lits(1, 0, -1), true}, {lits(2, 5, 61), true}, {lits(3, 1, 1), true}, {lits(4, 5, 2), true},
		{lits(1, 0, 3, 2, 0, 3, 3, 0, 0, 4, 0, 0, 1, 1, 0), true}, {lits(1, 0, 3, 1, 0, 4), true}, {lits(1, 0, 3, 2, 0, 3), true}, {lits(1, 0, 3, 1, 1, 3), true},
		{lits(1, 0, 4, 1, 0, 3), false}, {lits(2, 0, 3, 1, 0, 3), false}, {lits(1, 1, 3, 1, 0, 3), false}, {lits(1, 0, 3, 1, 0, 3), false},
		{lits(1, 0, 9, 2, 0, 0), true}, {lits(2, 0, 0, 1, 0, 9), false}, {lits(4, 0, 0, 1, 1, 0), true}, {lits(1, 1, 0, 4, 0, 0), false},
		{lits(1, 0, 1, 1, 0, 2, 1, 0, 3), true}, {lits(1, 0, 1, 1, 0, 3, 1, 0, 2), false}, {lits(1, 0, 2, 1, 0, 1, 1, 0, 3), false}, {lits(1, 0, 3, 1, 0, 2, 1, 0, 1), false},
		{lits(1, 0, 1, 1, 0, 1, 1, 0, 2), false}, {lits(1, 0, 1, 1, 0, 2, 1, 0, 2), false}, {lits(1, 0, 1, 1, 0, 2, 1, 0, 1), false}, {lits(1, 0, 2, 1, 0, 1, 1, 0, 2), false},
		// A literal and its negation, and two that exclude each other, are a clause.
		{lits(1, 0, 5, 2, 0, 4), true}, {lits(3, 1, 0, 3, 1, 1), true}, {lits(3, 1, 0, 4, 1, 0), true},
		{lits(3, 0, 1), false}, {lits(3, 3, 0, 4, 3, 1), false}, {lits(1, 0, 62), false}, {lits(1, 0, -2, 1, 0, 0), false}, {lits(0, 0, 0), false}, {lits(1, 0, 0, 5, 0, 0), false}, {lits(1, -1, 0, 1, 0, 0), false}, {lits(1, 5, 0, 1, 6, 0), false},
	}
	for _, c := range cases {
		checkClauseOk(t, full(), c.l, c.want)
	}
}

func TestP15ClausesOfProjectsThatAreNotValid(t *testing.T) {
	for _, v := range badNetworks() {
		name := " with " + v.name
		// Nothing in an empty clause depends on the project.
		checkBool(t, "ClauseOk of the empty clause"+name, impl.ClauseOk(v.p, nil), true)
		if got := impl.FormatClause(v.p, nil); got != "-" {
			t.Errorf("FormatClause of the empty clause%s = %q", name, got)
		}
		checkReadClause(t, v.p, "-", nil, true)
		for _, l := range [][]impl.Literal{lits(1, 0, 0), lits(1, 0, 0, 2, 0, 0), lits(3, 0, 0), lits(1, 1, 5, 4, 5, 0)} {
			checkClauseOk(t, v.p, l, false)
			sameBox(t, fmt.Sprint("NegatedDomain of ", l, name), impl.NegatedDomain(v.p, l), impl.Domain{})
		}
		sameBox(t, "NegatedDomain of the empty clause"+name, impl.NegatedDomain(v.p, nil), impl.Domain{})
		for _, text := range []string{"", " ", "--", "a>=0", "a>=0 a<=0", "a=0", "a0>=0", "b1!=1", ">=0"} {
			checkReadClause(t, v.p, text, nil, false)
		}
	}
}

func TestP15NewClause(t *testing.T) {
	r := rand.New(rand.NewSource(2))
	numbers := ints(math.MinInt, -1, 0, 1, 2, 3, 4, 5, math.MaxInt)
	for i := range 3000 {
		var l []impl.Literal
		for range r.Intn(2 + i%60) {
			l = append(l, lit(numbers[r.Intn(9)], numbers[r.Intn(1+i%9)], numbers[r.Intn(1+i%8)]))
		}
		want := sortedOnes(l)
		checkClause(t, fmt.Sprint("NewClause of ", l), impl.NewClause(l), want)
		checkClause(t, fmt.Sprint("NewClause of ", want), impl.NewClause(want), want)
		slices.Reverse(l)
		checkClause(t, fmt.Sprint("NewClause of ", l), impl.NewClause(l), want)
	}
}

func TestP15NewClauseTable(t *testing.T) {
	cases := []struct{ l, want []impl.Literal }{
		{nil, nil}, {[]impl.Literal{}, nil}, {lits(1, 2, 3), lits(1, 2, 3)}, {lits(1, 2, 3, 1, 2, 3), lits(1, 2, 3)}, {lits(0, 0, 0, 0, 0, 0), lits(0, 0, 0)},
		{lits(1, 2, 4, 1, 2, 3), lits(1, 2, 3, 1, 2, 4)}, {lits(2, 2, 3, 1, 2, 3), lits(1, 2, 3, 2, 2, 3)}, {lits(1, 3, 3, 1, 2, 3), lits(1, 2, 3, 1, 3, 3)},
		{lits(1, 2, 3, 1, 2, 4, 1, 2, 3), lits(1, 2, 3, 1, 2, 4)}, {lits(1, 2, 4, 1, 2, 3, 1, 2, 4, 1, 2, 3, 1, 2, 4), lits(1, 2, 3, 1, 2, 4)},
		{lits(1, 1, 9, 4, 0, 0, 1, 0, 60), lits(1, 0, 60, 4, 0, 0, 1, 1, 9)},
		{lits(math.MaxInt, 0, 0, math.MinInt, 0, 0, 9, 0, 0), lits(math.MinInt, 0, 0, 9, 0, 0, math.MaxInt, 0, 0)},
		{lits(1, math.MaxInt, 0, 1, math.MinInt, 0, 1, math.MaxInt, 0), lits(1, math.MinInt, 0, 1, math.MaxInt, 0)},
		{lits(1, 0, math.MaxInt, 1, 0, math.MinInt, 1, 0, math.MinInt), lits(1, 0, math.MinInt, 1, 0, math.MaxInt)},
	}
	for _, c := range cases {
		checkClause(t, fmt.Sprint("NewClause of ", c.l), impl.NewClause(c.l), c.want)
	}
}

func TestP15NewClauseOfLongLists(t *testing.T) {
	for _, count := range ints(24, 25, 26, 300, 20000) {
		var l, want []impl.Literal
		for i := range count {
			want = append(want, lit(1, i/7, i%7))
			l = append(l, lit(1, (count-1-i)/7, (count-1-i)%7))
		}
		same(t, fmt.Sprint("NewClause of ", count), impl.NewClause(l), want)
		same(t, fmt.Sprint("NewClause of twice ", count), impl.NewClause(slices.Concat(l, want)), want)
	}
}

func TestP15ClauseHoldsTable(t *testing.T) {
	s := placed(7, 1, 0, 0)
	cases := []struct {
		l    []impl.Literal
		want bool
	}{
		{nil, false}, {[]impl.Literal{}, false}, {lits(1, 0, 7), true}, {lits(1, 0, 8), false}, {lits(2, 0, 6), false}, {lits(3, 0, 1), true}, {lits(4, 0, 1), false},
		{lits(1, 0, 8, 1, 1, 1), false}, {lits(1, 0, 7, 1, 1, 1), true}, {lits(1, 0, 8, 1, 1, 0), true}, {lits(1, 0, 7, 1, 1, 0), true}, {lits(2, 0, 0, 3, 0, 2, 4, 1, 1), true}, {lits(2, 0, 0, 3, 0, 1, 4, 1, 0), true}, {lits(2, 0, 0, 3, 0, 2, 4, 1, 0), false},
		{lits(1, 2, 0), false}, {lits(1, -1, 0, 1, 2, 0, 4, 2, 9), false}, {lits(1, 2, 0, 1, 0, 0), true}, {lits(0, 0, 0, 5, 0, 0), false}, {lits(0, 0, 0, 3, 1, 0), true}, {lits(4, 1, math.MaxInt), true}, {lits(1, 0, math.MinInt), true},
		// Neither the order nor the length of the list matters.
		{lits(1, 1, 1, 1, 0, 8, 1, 0, 7), true}, {lits(1, 0, 8, 1, 0, 8), false}, {append(slices.Repeat(lits(1, 0, 8), 1000), lit(1, 0, 7)), true}, {slices.Repeat(lits(1, 0, 8), 1000), false},
	}
	for _, c := range cases {
		checkBool(t, fmt.Sprint("ClauseHolds of ", c.l), impl.ClauseHolds(c.l, s), c.want)
	}
}

func TestP15ClauseHoldsForListsOfAllLengths(t *testing.T) {
	for starts := range 5 {
		for modes := range 5 {
			s := impl.Schedule{Starts: make([]int, starts), Modes: make([]int, modes)}
			for a := -1; a <= 5; a++ {
				both := a >= 0 && a < starts && a < modes
				checkBool(t, callOf("ClauseHolds", a, s), impl.ClauseHolds(lits(1, a, 1, 2, a, 0), s), both)
				checkBool(t, callOf("ClauseHolds", a, s), impl.ClauseHolds(lits(1, 9, 0, 3, a, 0, 4, -1, 0), s), both)
				checkBool(t, callOf("ClauseHolds", a, s), impl.ClauseHolds(lits(1, a, 1, 2, a, -1, 3, a, 1, 4, a, 0), s), false)
			}
			checkBool(t, callOf("ClauseHolds of nothing", s), impl.ClauseHolds(nil, s), false)
		}
	}
}

func TestP15NegatedDomainTable(t *testing.T) {
	p := formProject()
	initial := impl.InitialDomain(p)
	first, last := func(b *impl.Domain) { b.MaxStart[1] = 4 }, func(b *impl.Domain) { b.MinStart[1] = 6 }
	nothing := func(b *impl.Domain) {}
	cases := []struct {
		l      []impl.Literal
		change func(b *impl.Domain)
	}{
		{nil, nothing}, {[]impl.Literal{}, nothing}, {lits(1, 1, 5), first}, {lits(2, 1, 5), last}, {lits(1, 1, 5, 1, 1, 9), first}, {lits(1, 1, 9, 1, 1, 5, 1, 1, 5), first}, {lits(2, 1, 5, 2, 1, 0), last},
		{lits(3, 1, 1), func(b *impl.Domain) { b.Modes[1] = ints(0, 2) }}, {lits(4, 1, 1), func(b *impl.Domain) { b.Modes[1] = ints(1) }}, {lits(3, 1, 1, 3, 1, 0), func(b *impl.Domain) { b.Modes[1] = ints(2) }},
		{lits(4, 1, 1, 4, 1, 2), func(b *impl.Domain) { b.Modes[1] = nil }}, {lits(3, 0, 0), func(b *impl.Domain) { b.Modes[0] = nil }}, {lits(4, 0, 0), nothing}, {lits(3, 1, 0, 3, 1, 1, 3, 1, 2), func(b *impl.Domain) { b.Modes[1] = nil }},
		// A literal and its negation leave nothing.
		{lits(1, 1, 5, 2, 1, 4), func(b *impl.Domain) { b.MinStart[1], b.MaxStart[1] = 5, 4 }}, {lits(2, 1, 4, 1, 1, 5), func(b *impl.Domain) { b.MinStart[1], b.MaxStart[1] = 5, 4 }}, {lits(3, 1, 1, 4, 1, 1), func(b *impl.Domain) { b.Modes[1] = nil }},
		{lits(1, 0, 3, 2, 2, 7, 3, 1, 2), func(b *impl.Domain) { b.MaxStart[0], b.MinStart[2], b.Modes[1] = 2, 8, ints(0, 1) }},
		{lits(1, 2, 0), func(b *impl.Domain) { b.MaxStart[2] = -1 }}, {lits(1, 2, -1), func(b *impl.Domain) { b.MaxStart[2] = -2 }}, {lits(1, 2, -2), func(b *impl.Domain) { b.MaxStart[2] = -2 }}, {lits(1, 2, -100000), func(b *impl.Domain) { b.MaxStart[2] = -2 }}, {lits(1, 2, -100001), nothing}, {lits(1, 2, math.MinInt), nothing}, {lits(1, 2, 20), nothing}, {lits(1, 2, 100000), nothing}, {lits(1, 2, math.MaxInt), nothing},
		{lits(2, 2, -1), nothing}, {lits(2, 2, 19), func(b *impl.Domain) { b.MinStart[2] = 20 }}, {lits(2, 2, 60), func(b *impl.Domain) { b.MinStart[2] = 61 }}, {lits(2, 2, 61), func(b *impl.Domain) { b.MinStart[2] = 62 }}, {lits(2, 2, 62), func(b *impl.Domain) { b.MinStart[2] = 62 }}, {lits(2, 2, 100000), func(b *impl.Domain) { b.MinStart[2] = 62 }}, {lits(2, 2, 100001), nothing}, {lits(2, 2, math.MaxInt), nothing}, {lits(2, 2, math.MinInt), nothing},
		{lits(3, 1, 3), nothing}, {lits(3, 1, -1), nothing}, {lits(4, 1, 3), func(b *impl.Domain) { b.Modes[1] = nil }}, {lits(4, 1, math.MaxInt), nothing}, {lits(3, 1, math.MinInt), nothing},
		{lits(1, 3, 5), nothing}, {lits(2, -1, 5), nothing}, {lits(3, 3, 0), nothing}, {lits(4, -1, 0), nothing}, {lits(4, math.MinInt, 0, 4, math.MaxInt, 0), nothing}, {lits(0, 1, 5), nothing}, {lits(5, 1, 5), nothing}, {lits(-1, 1, 0, math.MinInt, 1, 0, math.MaxInt, 1, 0), nothing},
		{lits(0, 1, 5, 1, 7, 5, 1, 1, 5), first}, {slices.Repeat(lits(1, 1, 5), 1000), first},
	}
	for _, c := range cases {
		sameBox(t, fmt.Sprint("NegatedDomain of ", c.l), impl.NegatedDomain(p, c.l), edited(initial, c.change))
	}
}

func TestP15NegatedDomain(t *testing.T) {
	r := rand.New(rand.NewSource(3))
	for seed := range int64(300) {
		p := randomProject(seed)
		l := sweep(len(p.Activities), ints(-3, 0, 1, 2, r.Intn(60), 61, 62, 100001))
		r.Shuffle(len(l), func(i, j int) { l[i], l[j] = l[j], l[i] })
		l = l[:r.Intn(8)]
		want := impl.InitialDomain(p)
		for _, x := range l {
			want = impl.Restrict(want, impl.Negate(x))
		}
		sameBox(t, fmt.Sprint("NegatedDomain of ", l), impl.NegatedDomain(p, l), want)
	}
}

func TestP15ClauseStatusTable(t *testing.T) {
	b := box(ints(3, 0, 5), ints(9, 4, 5), ints(0), ints(0, 1), ints(1, 2))
	none := impl.Literal{}
	cases := []struct {
		l    []impl.Literal
		want int
		one  impl.Literal
	}{
		{nil, -1, none}, {[]impl.Literal{}, -1, none}, {lits(1, 0, 3), 1, none}, {lits(1, 0, 10), -1, none}, {lits(1, 0, 4), 0, lit(1, 0, 4)}, {lits(3, 1, 1), 0, lit(3, 1, 1)}, {lits(4, 2, 2), 0, lit(4, 2, 2)}, {lits(3, 0, 0), 1, none}, {lits(4, 0, 0), -1, none}, {lits(3, 2, 0), -1, none},
		{lits(1, 0, 10, 2, 1, -1, 4, 0, 0), -1, none}, {lits(1, 0, 10, 2, 1, 3, 4, 0, 0), 0, lit(2, 1, 3)}, {lits(2, 1, 3, 1, 0, 10, 4, 0, 0), 0, lit(2, 1, 3)}, {lits(1, 0, 10, 4, 0, 0, 2, 1, 3), 0, lit(2, 1, 3)},
		{lits(1, 0, 4, 2, 1, 3), 0, none}, {lits(1, 0, 4, 1, 0, 10, 2, 1, 3), 0, none}, {lits(1, 0, 4, 2, 1, 3, 3, 1, 0), 0, none},
		{lits(1, 0, 4, 1, 0, 3), 1, none}, {lits(1, 0, 3, 1, 0, 4), 1, none}, {lits(1, 0, 10, 1, 0, 3), 1, none}, {lits(1, 0, 3, 1, 0, 10), 1, none}, {lits(1, 0, 4, 2, 1, 3, 1, 2, 5), 1, none}, {lits(1, 0, 10, 1, 0, 4, 3, 0, 0), 1, none},
		// A literal that is in the list twice is not the only one.
		{lits(1, 0, 4, 1, 0, 4), 0, none}, {lits(1, 0, 4, 1, 0, 10, 1, 0, 4), 0, none}, {lits(1, 0, 10, 1, 0, 10), -1, none}, {lits(1, 0, 10, 1, 0, 4, 1, 0, 10), 0, lit(1, 0, 4)},
		// A literal and its negation are both open.
		{lits(1, 0, 4, 2, 0, 3), 0, none}, {lits(3, 1, 0, 4, 1, 0), 0, none},
		{lits(0, 0, 0), 1, none}, {lits(5, 0, 0), 1, none}, {lits(1, 3, 0), 1, none}, {lits(1, -1, 0), 1, none}, {lits(1, 0, 4, 1, 3, 9), 1, none}, {lits(1, 0, 10, 0, 1, 0), 1, none}, {lits(1, 0, math.MinInt), 1, none}, {lits(1, 0, math.MaxInt), -1, none}, {lits(3, 0, math.MaxInt), -1, none}, {lits(4, 0, math.MinInt), 1, none},
		{append(slices.Repeat(lits(1, 0, 10), 1000), lit(1, 0, 4)), 0, lit(1, 0, 4)}, {append(slices.Repeat(lits(1, 0, 10), 1000), lit(1, 0, 3)), 1, none}, {slices.Repeat(lits(1, 0, 10), 1000), -1, none},
	}
	for _, c := range cases {
		checkStatus(t, b, c.l, c.want, c.one)
	}
}

func TestP15ClauseStatusOfEmptyDomains(t *testing.T) {
	none := impl.Literal{}
	crossed := box(ints(5), ints(4), ints(0, 1))
	// Both a literal and its negation are true of what is empty, if the bounds tell it.
	for _, l := range [][]impl.Literal{lits(1, 0, 5), lits(2, 0, 4), lits(1, 0, 6, 1, 0, 5), lits(3, 0, 0, 2, 0, 4)} {
		checkStatus(t, crossed, l, 1, none)
	}
	checkStatus(t, crossed, lits(1, 0, 6), -1, none)
	checkStatus(t, crossed, lits(3, 0, 0), 0, lit(3, 0, 0))
	checkStatus(t, crossed, lits(1, 0, 6, 3, 0, 0), 0, lit(3, 0, 0))
	checkStatus(t, crossed, nil, -1, none)
	without := box(ints(0), ints(9), nil)
	checkStatus(t, without, lits(3, 0, 0), -1, none)
	checkStatus(t, without, lits(4, 0, 0), 1, none)
	checkStatus(t, without, lits(1, 0, 3, 3, 0, 0), 0, lit(1, 0, 3))
	for _, n := range lengths() {
		checkStatus(t, raggedBox(n), nil, -1, none)
		checkStatus(t, raggedBox(n), lits(1, slices.Min(n[:]), 62), 1, none)
		checkStatus(t, raggedBox(n), lits(3, slices.Min(n[:]), 0, 0, 0, 0), 1, none)
	}
	checkStatus(t, impl.Domain{}, nil, -1, none)
	checkStatus(t, impl.Domain{}, lits(1, 0, 0), 1, none)
}

func TestP15ClauseStatus(t *testing.T) {
	r := rand.New(rand.NewSource(4))
	for seed := range int64(600) {
		p := randomProject(seed)
		for _, b := range []impl.Domain{someBox(p, seed), narrowBox(p, seed), raggedBox(lengths()[seed%int64(len(lengths()))])} {
			l := sweep(len(p.Activities), ints(-1, 0, 1, 2, r.Intn(60), r.Intn(60), 61))
			r.Shuffle(len(l), func(i, j int) { l[i], l[j] = l[j], l[i] })
			l = slices.DeleteFunc(l, func(x impl.Literal) bool { return impl.LiteralValue(b, x) > 0 && r.Intn(50) > 0 })
			l = l[:min(len(l), r.Intn(6))]
			count, one := map[int]int{}, impl.Literal{}
			for _, x := range l {
				value := impl.LiteralValue(b, x)
				count[value]++
				if value == 0 {
					one = x
				}
			}
			switch {
			case count[1] > 0:
				checkStatus(t, b, l, 1, impl.Literal{})
			case count[0] == 0:
				checkStatus(t, b, l, -1, impl.Literal{})
			case count[0] == 1:
				checkStatus(t, b, l, 0, one)
			default:
				checkStatus(t, b, l, 0, impl.Literal{})
			}
		}
	}
}

func TestP15ResolveTable(t *testing.T) {
	cases := []struct {
		a, b []impl.Literal
		l    impl.Literal
		want []impl.Literal
	}{
		{nil, nil, lit(1, 0, 5), nil}, {lits(1, 0, 5), nil, lit(1, 0, 5), nil}, {nil, lits(2, 0, 4), lit(1, 0, 5), nil}, {lits(1, 0, 5), lits(2, 0, 4), lit(1, 0, 5), nil},
		{lits(1, 0, 5, 3, 1, 0), lits(2, 0, 4, 3, 2, 0), lit(1, 0, 5), lits(3, 1, 0, 3, 2, 0)}, {lits(1, 0, 5, 3, 2, 0), lits(2, 0, 4, 3, 1, 0), lit(1, 0, 5), lits(3, 1, 0, 3, 2, 0)},
		// The sides are not exchanged: l stays in b, and its negation in a.
		{lits(2, 0, 4), lits(1, 0, 5), lit(1, 0, 5), lits(1, 0, 5, 2, 0, 4)}, {lits(1, 0, 5), lits(1, 0, 5), lit(1, 0, 5), lits(1, 0, 5)}, {lits(2, 0, 4), lits(2, 0, 4), lit(1, 0, 5), lits(2, 0, 4)}, {lits(1, 0, 5, 2, 0, 4), lits(1, 0, 5, 2, 0, 4), lit(1, 0, 5), lits(1, 0, 5, 2, 0, 4)},
		// Neither clause has what is taken from it.
		{lits(1, 0, 4, 2, 0, 5), lits(1, 1, 5, 2, 1, 4), lit(1, 0, 5), lits(1, 0, 4, 2, 0, 5, 1, 1, 5, 2, 1, 4)}, {lits(1, 0, 6), lits(2, 0, 5), lit(1, 0, 5), lits(1, 0, 6, 2, 0, 5)}, {lits(1, 0, 5), lits(2, 0, 5), lit(1, 0, 5), lits(2, 0, 5)}, {lits(2, 0, 5), lits(2, 0, 4), lit(1, 0, 5), lits(2, 0, 5)}, {lits(1, 1, 5), lits(2, 1, 4), lit(1, 0, 5), lits(1, 1, 5, 2, 1, 4)},
		// What is there more than once goes at every place.
		{lits(1, 0, 5, 3, 1, 0, 1, 0, 5), lits(2, 0, 4, 2, 0, 4), lit(1, 0, 5), lits(3, 1, 0)}, {lits(3, 1, 0, 3, 1, 0), lits(3, 1, 0), lit(1, 0, 5), lits(3, 1, 0)}, {lits(3, 2, 0, 3, 1, 0), lits(4, 1, 1, 3, 2, 0), lit(1, 0, 5), lits(3, 1, 0, 4, 1, 1, 3, 2, 0)},
		{lits(2, 0, 4, 4, 1, 1), lits(1, 0, 5, 3, 1, 1), lit(2, 0, 4), lits(3, 1, 1, 4, 1, 1)}, {lits(3, 1, 1), lits(4, 1, 1), lit(3, 1, 1), nil}, {lits(4, 1, 1), lits(3, 1, 1), lit(4, 1, 1), nil},
		// A literal that has no negation is negated by the zero value.
		{lits(0, 0, 0, 7, 0, 0), lits(0, 0, 0, 7, 0, 0), lit(7, 0, 0), lits(0, 0, 0, 7, 0, 0)}, {lits(7, 0, 0, 1, 0, 5), lits(0, 0, 0, 1, 0, 6), lit(7, 0, 0), lits(1, 0, 5, 1, 0, 6)}, {lits(0, 0, 0), lits(0, 0, 0), lit(0, 0, 0), nil}, {lits(1, 0, math.MinInt), lits(0, 0, 0, 2, 0, math.MaxInt), lit(1, 0, math.MinInt), lits(2, 0, math.MaxInt)}, {lits(2, 0, math.MaxInt), lits(1, 0, math.MinInt), lit(2, 0, math.MaxInt), lits(1, 0, math.MinInt)},
		{lits(1, 0, -1), lits(2, 0, -2), lit(1, 0, -1), nil}, {lits(2, 0, 61), lits(1, 0, 62), lit(2, 0, 61), nil},
	}
	for _, c := range cases {
		checkClause(t, fmt.Sprint("Resolve of ", c.a, c.b, c.l), impl.Resolve(c.a, c.b, c.l), c.want)
		checkResolved(t, c.a, c.b, c.l, nil)
	}
}

func TestP15ResolveOfLongLists(t *testing.T) {
	a, b := spread(39), []impl.Literal{}
	for i := range 30 {
		b = append(b, lit(4, 5, i))
	}
	l := a[20]
	want := append(slices.Delete(slices.Clone(a), 20, 21), b...)
	slices.SortFunc(want, fieldOrder)
	checkClause(t, "Resolve of long lists", impl.Resolve(a, b, l), want)
	checkClause(t, "Resolve of longer lists", impl.Resolve(slices.Repeat(a, 200), slices.Repeat(append(b, impl.Negate(l)), 200), l), want)
}

// clauseText is the text of a clause as chapter 14 describes it.
func clauseText(p impl.Project, l []impl.Literal) string {
	if len(l) == 0 {
		return "-"
	}
	var words []string
	for _, x := range l {
		words = append(words, fmt.Sprintf("%s%s%d", p.Activities[x.Activity].Name, signs()[x.Kind-1], x.Value))
	}
	return strings.Join(words, " ")
}

func checkReadClause(t *testing.T, p impl.Project, text string, want []impl.Literal, ok bool) {
	t.Helper()
	got, gotOk := impl.ParseClause(p, text)
	if !slices.Equal(got, want) || gotOk != ok {
		t.Errorf("ParseClause(%.80q) = %v, %v, want %v, %v", text, got, gotOk, want, ok)
	}
}

// readClause is what ParseClause must return for a project with these texts of literals.
func readClause(texts map[string]impl.Literal, text string) ([]impl.Literal, bool) {
	var l []impl.Literal
	if text == "-" {
		return nil, true
	}
	for i, word := range strings.Split(text, " ") {
		x, ok := texts[word]
		if !ok || i > 0 && fieldOrder(l[i-1], x) >= 0 || i == 24 {
			return nil, false
		}
		l = append(l, x)
	}
	return l, true
}

func checkClauseText(t *testing.T, p impl.Project, texts map[string]impl.Literal, text string) {
	t.Helper()
	want, ok := readClause(texts, text)
	checkReadClause(t, p, text, want, ok)
}

func TestP1ClausesAreRecovered(t *testing.T) {
	all := literalProjects(t)
	for seed := range int64(60) {
		all[fmt.Sprint("the random project ", seed)] = randomProject(seed)
	}
	for name, p := range all {
		r := rand.New(rand.NewSource(5))
		for count := range 26 {
			l := someClause(r, literalsOf(p), count)
			text := clauseText(p, l)
			if count > 24 {
				checkClauseOk(t, p, l, false)
				checkReadClause(t, p, text, nil, false)
				continue
			}
			if got := impl.FormatClause(p, l); got != text {
				t.Errorf("FormatClause of %v with %s = %q, want %q", l, name, got, text)
			}
			checkReadClause(t, p, text, l, true)
		}
	}
}

func TestP1ClauseTexts(t *testing.T) {
	p := full()
	cases := map[string][]impl.Literal{
		"-": nil, "a>=0": lits(1, 0, 0), "a>=-1": lits(1, 0, -1), "a<=61 start!=2": lits(2, 0, 61, 4, 5, 2), "a>=3 a<=3 a=0 a!=0": lits(1, 0, 3, 2, 0, 3, 3, 0, 0, 4, 0, 0), "a>=9 a>=10": lits(1, 0, 9, 1, 0, 10), "a>=-1 a>=0": lits(1, 0, -1, 1, 0, 0), "b1=0 b1=1 c<=0": lits(3, 1, 0, 3, 1, 1, 2, 2, 0), "c>=60 abcdefgh>=1": lits(1, 2, 60, 1, 3, 1),
	}
	for text, l := range cases {
		if got := impl.FormatClause(p, l); got != text {
			t.Errorf("FormatClause of %v = %q, want %q", l, got, text)
		}
		checkReadClause(t, p, text, l, true)
	}
}

// clauseLines are the texts of which the tests make others.
func clauseLines() []string {
	return []string{"-", "a>=0", "a>=3 a<=3 a=0 a!=0", "a<=6 b1>=6 start=2", "b1=1 c!=0", ""}
}

func TestP15ClauseTextsWithOneByteChanged(t *testing.T) {
	p := full()
	texts := literalTexts(p)
	for _, text := range clauseLines() {
		for at := range len(text) + 1 {
			head, tail := text[:at], text[at:]
			for _, piece := range []string{"", " ", "  ", "\n", "\t", ",", "|", "-", " -", "- ", "=", "<", ">", "!", "0", "1", "2", "6", "a", "b", "a>=0 ", " start!=2", "\x00", "\xff", "\u00a0", "\u2003", "\u2265"} {
				checkClauseText(t, p, texts, head+piece+tail)
				if tail != "" {
					checkClauseText(t, p, texts, head+piece+tail[1:])
				}
			}
			checkClauseText(t, p, texts, head)
			checkClauseText(t, p, texts, tail)
			checkClauseText(t, p, texts, tail+head)
		}
	}
}

func TestP15ClauseTextsOfWordsInAllOrders(t *testing.T) {
	p := full()
	words := []string{"a>=3", "a<=3", "a=0", "a!=0", "b1>=3", "b1>=10", "-", ""}
	for first := range words {
		for second := range words {
			for third := range words {
				text := words[first] + " " + words[second] + " " + words[third]
				l, ok := readClause(literalTexts(p), text)
				checkBool(t, text, ok, first < second && second < third && third < 6)
				checkReadClause(t, p, text, l, ok)
			}
			text := words[first] + " " + words[second]
			l, ok := readClause(literalTexts(p), text)
			checkBool(t, text, ok, first < second && second < 6)
			checkReadClause(t, p, text, l, ok)
		}
	}
}

func TestP15ParseClauseTable(t *testing.T) {
	p := full()
	bad := []string{
		"", " ", "  ", "--", "- ", " -", "- -", "-\n", "\n-", "\t-", "-,", "a>=0 -", "- a>=0", "-a>=0", "a>=0-", " a>=0", "a>=0 ", "a>=0  b1>=0", "a>=0  ", "  a>=0", "a>=0\tb1>=0", "a>=0\nb1>=0", "a>=0,b1>=0", "a>=0b1>=0", "a>=0\n", "a>=0 b1>=0\n",
		"b1>=0 a>=0", "a<=0 a>=0", "a>=1 a>=0", "a>=10 a>=9", "a>=0 a>=-1", "a>=0 a>=0", "a=0 a=0", "a>=0 b1>=0 a>=0", "a>=0 b1>=0 b1>=0", "a>=0 a>=0 b1>=0", "start>=0 abcdefgh>=0", "abcdefgh>=0 c>=0", "c!=0 c=0",
		"a", "0", "a=1", "a>=62", "a>=-2", "b>=0", "nobody=0", "a>=0 b>=0", "a>=0 a=1", "a>=00", "a >=0", "a>= 0", "a>=0 b1", "a>=0 0", "A>=0", "a>=0 | b1>=0", "a>=0 or b1>=0", "false", "none", "unit | -",
	}
	for _, text := range bad {
		checkReadClause(t, p, text, nil, false)
	}
}

func TestP15ParseClauseOfManyLiterals(t *testing.T) {
	p := full()
	for count := 1; count <= 60; count++ {
		l := someClause(rand.New(rand.NewSource(6)), literalsOf(p), count)
		if count > 24 {
			checkReadClause(t, p, clauseText(p, l), nil, false)
			continue
		}
		checkReadClause(t, p, clauseText(p, l), l, true)
		checkReadClause(t, p, clauseText(p, l)+" ", nil, false)
		checkReadClause(t, p, clauseText(p, append(l, l[len(l)-1])), nil, false)
	}
	for _, piece := range []string{" ", "-", "a", "0", "a>=0", " a>=0", "a>=0 ", "- ", "\n", "\x00"} {
		long := strings.Repeat(piece, 50000)
		for _, text := range clauseLines() {
			checkReadClause(t, p, text+long, nil, false)
			checkReadClause(t, p, long+text, nil, false)
		}
	}
}

func TestP15FormatClauseOfClausesThatAreNotOk(t *testing.T) {
	p := full()
	known := knownLiterals(p)
	r := rand.New(rand.NewSource(11))
	all := append(closeLiterals(p, 1), lits(1, 0, 62, 3, 0, 1, 0, 0, 0, 5, 0, 0, 1, 6, 0)...)
	for range 4000 {
		var l []impl.Literal
		for range r.Intn(4) {
			l = append(l, all[r.Intn(len(all))])
		}
		want := ""
		if isClause(known, l) {
			want = clauseText(p, l)
		}
		checkBool(t, fmt.Sprint("ClauseOk of ", l), impl.ClauseOk(p, l), want != "")
		if got := impl.FormatClause(p, l); got != want {
			t.Errorf("FormatClause of %v = %q, want %q", l, got, want)
		}
	}
}

func checkEqualClauses(t *testing.T, a, b []impl.Literal, want bool) {
	t.Helper()
	checkBool(t, fmt.Sprint("ClauseEqual of ", a, b), impl.ClauseEqual(a, b), want)
	checkBool(t, fmt.Sprint("ClauseEqual of ", b, a), impl.ClauseEqual(b, a), want)
}

func TestP15ClauseEqual(t *testing.T) {
	for count := range 30 {
		l := spread(count)
		checkEqualClauses(t, l, slices.Clone(l), true)
		checkEqualClauses(t, l, append(slices.Clone(l), impl.Literal{}), false)
		for at := range l {
			checkEqualClauses(t, l, l[:at], false)
			x := l[at]
			for _, other := range []impl.Literal{lit(x.Kind+1, x.Activity, x.Value), lit(x.Kind, x.Activity+1, x.Value), lit(x.Kind, x.Activity, x.Value+1), lit(x.Activity, x.Kind, x.Value), {}} {
				checkEqualClauses(t, l, replaced(l, at, other), other == x)
			}
		}
	}
	checkEqualClauses(t, nil, []impl.Literal{}, true)
	checkEqualClauses(t, nil, nil, true)
	checkEqualClauses(t, nil, lits(0, 0, 0), false)
	checkEqualClauses(t, []impl.Literal{}, lits(0, 0, 0), false)
	// The same literals in another order or number are another list.
	checkEqualClauses(t, lits(1, 0, 3, 1, 0, 4), lits(1, 0, 4, 1, 0, 3), false)
	checkEqualClauses(t, lits(1, 0, 3, 1, 0, 3), lits(1, 0, 3), false)
	checkEqualClauses(t, lits(9, -1, math.MaxInt), lits(9, -1, math.MaxInt), true)
	checkEqualClauses(t, lits(9, -1, math.MaxInt), lits(9, -1, math.MinInt), false)
}

func TestP15WithoutLiteral(t *testing.T) {
	for count := range 30 {
		// The list need be no clause.
		l := append(spread(count), lits(7, -1, math.MinInt, 0, 0, 0, 1, 0, 0, 1, 0, 0)...)[:count]
		for at := -3; at <= count+3; at++ {
			want := slices.Clone(l)
			if at >= 0 && at < count {
				want = slices.Delete(want, at, at+1)
			}
			checkClause(t, fmt.Sprint("WithoutLiteral of ", l, at), impl.WithoutLiteral(l, at), want)
		}
		for _, at := range ints(math.MinInt, math.MinInt+1, math.MaxInt-1, math.MaxInt) {
			checkClause(t, fmt.Sprint("WithoutLiteral of ", l, at), impl.WithoutLiteral(l, at), l)
		}
	}
	whole := lits(1, 0, 3, 1, 0, 4, 1, 0, 5)
	checkClause(t, "WithoutLiteral beyond the end", impl.WithoutLiteral(whole[:1], 1), whole[:1])
	checkClause(t, "WithoutLiteral of a repeated one", impl.WithoutLiteral(lits(1, 0, 3, 1, 0, 4, 1, 0, 3), 0), lits(1, 0, 4, 1, 0, 3))
	for _, empty := range [][]impl.Literal{nil, {}, whole[:0]} {
		for _, at := range ints(-1, 0, 1) {
			checkClause(t, "WithoutLiteral of nothing", impl.WithoutLiteral(empty, at), nil)
		}
	}
}

// checkNewClause expects a list that shares no memory with an argument, and overwrites it.
func checkNewClause(t *testing.T, call string, l []impl.Literal, args ...any) {
	t.Helper()
	checkNew(t, call, l, args...)
	overwrite(l, lit(9, 9, 9))
}

// listsOfLiterals are clauses and other lists.
func listsOfLiterals() [][]impl.Literal {
	return [][]impl.Literal{nil, lits(1, 0, 5), lits(1, 0, 5, 2, 0, 4), lits(2, 0, 4, 1, 0, 5, 1, 0, 5), lits(1, 0, 5, 3, 1, 1, 4, 5, 2), lits(0, 0, 0, 9, 9, 9), spread(24), spread(30)}
}

func TestP15ClausesLeaveTheirArgumentsAlone(t *testing.T) {
	for _, raw := range listsOfLiterals() {
		l, literalsKept := spare(raw, lit(7, 7, 7))
		o, othersKept := spare(lits(2, 0, 4, 3, 2, 1), lit(8, 8, 8))
		b, boxKept := roomyBox(box(ints(0, 1, 2, 3, 4, 5), ints(9, 9, 9, 9, 9, 9), ints(0), ints(0, 1), ints(1, 2), ints(0), ints(1), ints(0, 1, 2)))
		starts, startsKept := spare(ints(0, 3, 5, 5, 9, 6), 7)
		modes, modesKept := spare(ints(0, 1, 2, 0, 1, 2), 1)
		impl.ClauseHolds(l, impl.Schedule{Starts: starts, Modes: modes})
		impl.ClauseStatus(b, l)
		impl.ClauseEqual(l, o)
		checkNewClause(t, "NewClause", impl.NewClause(l), l)
		for _, x := range append(slices.Clone(raw), lit(1, 0, 5), lit(7, 7, 7)) {
			checkNewClause(t, "Resolve", impl.Resolve(l, o, x), l, o)
			checkNewClause(t, "Resolve in the other order", impl.Resolve(o, l, x), l, o)
			checkNewClause(t, "Resolve of the same", impl.Resolve(l, l, x), l)
			checkNewClause(t, "Resolve with nothing", impl.Resolve(l, nil, x), l)
			checkNewClause(t, "Resolve of nothing", impl.Resolve(nil, l, x), l)
		}
		for at := -1; at <= len(raw); at++ {
			checkNewClause(t, "WithoutLiteral", impl.WithoutLiteral(l, at), l)
		}
		if !literalsKept() || !othersKept() || !boxKept() || !startsKept() || !modesKept() {
			t.Errorf("a function of chapter 14 changes its argument, %v or something else", raw)
		}
	}
}

func TestP15ClausesLeaveTheirProjectsAlone(t *testing.T) {
	for _, v := range variants() {
		p, kept := roomy(v.p)
		for _, raw := range listsOfLiterals() {
			l, literalsKept := spare(raw, lit(7, 7, 7))
			impl.ClauseOk(p, l)
			checkNewBox(t, "NegatedDomain", impl.NegatedDomain(p, l), p, l)
			text := impl.FormatClause(p, l)
			checkNew(t, "FormatClause", text, p)
			parsed, _ := impl.ParseClause(p, text)
			checkNewClause(t, "ParseClause", parsed, p, text)
			if !kept() || !literalsKept() {
				t.Errorf("a function of chapter 14 changes its argument, %v or a project with %s", raw, v.name)
			}
		}
	}
}

func TestP15ClausesKeepNoState(t *testing.T) {
	p := full()
	for range 3 {
		l, ok := impl.ParseClause(p, "a>=5 b1=1")
		checkBool(t, "the clause is there", ok, true)
		checkClause(t, "the parsed clause", l, lits(1, 0, 5, 3, 1, 1))
		b := impl.NegatedDomain(p, l)
		checkInt(t, "the start of a", b.MaxStart[0], 4)
		checkStatus(t, impl.InitialDomain(p), l[:1], 0, lit(1, 0, 5))
		c := impl.Resolve(l, lits(2, 0, 4), lit(1, 0, 5))
		checkClause(t, "the resolvent", c, lits(3, 1, 1))
		checkClause(t, "the rest", impl.WithoutLiteral(l, 1), lits(1, 0, 5))
		overwrite(l, lit(9, 9, 9))
		overwrite(c, lit(9, 9, 9))
		spoilBox(b)
		impl.ParseClause(p, "a>=6 b1=0 c<=3")
		impl.NewClause(spread(30))
	}
}
