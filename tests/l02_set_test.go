package tests

import (
	"math"
	"slices"
	"testing"

	"loop.example/g00806/impl"
)

// sample returns the numbers of which the tests of this file make lists, in ascending order.
func sample() []int {
	return []int{math.MinInt, -1, 0, 1, math.MaxInt}
}

// listsOf returns all lists of up to most of the given numbers, in every order and with repetitions.
func listsOf(numbers []int, most int) [][]int {
	all := [][]int{nil}
	from := 0
	for range most {
		to := len(all)
		for _, l := range all[from:to] {
			for _, n := range numbers {
				all = append(all, append(slices.Clone(l), n))
			}
		}
		from = to
	}
	return all
}

// elements returns the sample numbers that belong, which is the set of them without any sorting.
func elements(belongs func(n int) bool) []int {
	var set []int
	for _, n := range sample() {
		if belongs(n) {
			set = append(set, n)
		}
	}
	return set
}

func isIn(l []int, n int) bool {
	for _, e := range l {
		if e == n {
			return true
		}
	}
	return false
}

func checkBool(t *testing.T, call string, got, want bool) {
	t.Helper()
	if got != want {
		t.Errorf("%s = %v, want %v", call, got, want)
	}
}

// setPair is a function of two lists that returns a list.
type setPair struct {
	name    string
	call    func(a, b []int) []int
	belongs func(inA, inB bool) bool
}

func setPairs() []setPair {
	return []setPair{
		{"SetUnion", impl.SetUnion, func(inA, inB bool) bool { return inA || inB }},
		{"SetIntersection", impl.SetIntersection, func(inA, inB bool) bool { return inA && inB }},
		{"SetDifference", impl.SetDifference, func(inA, inB bool) bool { return inA && !inB }},
	}
}

func TestP1SetsAreRecovered(t *testing.T) {
	for _, l := range listsOf([]int{-impl.MaxNum, -1, 0, 12, impl.MaxNum}, 4) {
		for _, set := range [][]int{impl.SetOf(l), impl.SetAdd(l, 7), impl.SetRemove(l, 12), impl.SetUnion(l, []int{3, -3})} {
			back, ok := impl.ParseInts(impl.FormatInts(set))
			if !ok || !impl.SetEqual(back, set) {
				t.Errorf("%v from its text %q = %v, %v", set, impl.FormatInts(set), back, ok)
			}
		}
	}
	for n := range 201 {
		back, ok := impl.ParseInts(impl.FormatInts(impl.IntRange(n)))
		if !ok || len(back) != n || !impl.SetEqual(back, impl.IntRange(n)) {
			t.Errorf("IntRange(%d) from its text = %v, %v", n, back, ok)
		}
	}
}

func TestP15SetOk(t *testing.T) {
	good := [][]int{nil, {}, {0}, {math.MinInt}, {math.MaxInt}, {1, 2}, {-2, -1, 0}, {1, 3, 100001}, {math.MinInt, math.MaxInt}, {math.MinInt, math.MinInt + 1, 0, math.MaxInt - 1, math.MaxInt}}
	for _, l := range good {
		checkBool(t, callOf("SetOk", l), impl.SetOk(l), true)
	}
	bad := [][]int{{0, 0}, {2, 1}, {3, 2, 1}, {1, 2, 2}, {1, 1, 2}, {1, 3, 2}, {2, 1, 3}, {0, 1, 2, 3, 3}, {math.MaxInt, math.MinInt}, {math.MaxInt, math.MaxInt}, {math.MinInt, math.MinInt}, {0, math.MaxInt, math.MinInt}}
	for _, l := range bad {
		checkBool(t, callOf("SetOk", l), impl.SetOk(l), false)
	}
}

func TestP15SetOfTable(t *testing.T) {
	cases := []struct{ l, want []int }{
		{nil, nil},
		{[]int{}, nil},
		{[]int{5}, []int{5}},
		{[]int{1, 2, 3}, []int{1, 2, 3}},
		{[]int{3, 2, 1}, []int{1, 2, 3}},
		{[]int{3, 1, 3}, []int{1, 3}},
		{[]int{7, 7, 7}, []int{7}},
		{[]int{10, 9, -10, -9, 0}, []int{-10, -9, 0, 9, 10}},
		{[]int{100001, -100001}, []int{-100001, 100001}},
		{[]int{math.MaxInt, 0, math.MinInt, math.MaxInt, math.MinInt}, []int{math.MinInt, 0, math.MaxInt}},
	}
	for _, c := range cases {
		same(t, callOf("SetOf", c.l), impl.SetOf(c.l), c.want)
	}
}

func TestP15SetsOfOneList(t *testing.T) {
	for _, l := range listsOf(sample(), 4) {
		same(t, callOf("SetOf", l), impl.SetOf(l), elements(func(n int) bool { return isIn(l, n) }))
		ascending := len(elements(func(n int) bool { return isIn(l, n) })) == len(l)
		for i := range l {
			ascending = ascending && (i == 0 || l[i-1] < l[i])
		}
		checkBool(t, callOf("SetOk", l), impl.SetOk(l), ascending)
		for _, n := range sample() {
			checkBool(t, callOf("SetHas", l, n), impl.SetHas(l, n), isIn(l, n))
			same(t, callOf("SetAdd", l, n), impl.SetAdd(l, n), elements(func(m int) bool { return m == n || isIn(l, m) }))
		}
		checkBool(t, callOf("SetHas", l, 2), impl.SetHas(l, 2), false)
	}
}

func TestP15SetAddTable(t *testing.T) {
	cases := []struct {
		l    []int
		n    int
		want []int
	}{
		{nil, 0, []int{0}},
		{[]int{1, 3}, 2, []int{1, 2, 3}},
		{[]int{1, 3}, 0, []int{0, 1, 3}},
		{[]int{1, 3}, 4, []int{1, 3, 4}},
		{[]int{1, 3}, 3, []int{1, 3}},
		{[]int{3, 1, 3}, 1, []int{1, 3}},
		{[]int{3, 1, 3}, 2, []int{1, 2, 3}},
		{[]int{0}, math.MinInt, []int{math.MinInt, 0}},
		{[]int{0}, math.MaxInt, []int{0, math.MaxInt}},
	}
	for _, c := range cases {
		same(t, callOf("SetAdd", c.l, c.n), impl.SetAdd(c.l, c.n), c.want)
	}
}

func TestP15SetRemoveKeepsOrderAndRepetitions(t *testing.T) {
	cases := []struct {
		l    []int
		n    int
		want []int
	}{
		{nil, 0, nil},
		{[]int{}, 1, nil},
		{[]int{1}, 1, nil},
		{[]int{1, 1, 1}, 1, nil},
		{[]int{1, 2, 3}, 2, []int{1, 3}},
		{[]int{1, 2, 3}, 4, []int{1, 2, 3}},
		{[]int{3, 1, 2, 1, 3}, 1, []int{3, 2, 3}},
		{[]int{3, 2, 1}, 5, []int{3, 2, 1}},
		{[]int{2, 2, 1, 1}, 1, []int{2, 2}},
		{[]int{math.MaxInt, math.MinInt, math.MaxInt}, math.MaxInt, []int{math.MinInt}},
		{[]int{math.MaxInt, math.MinInt, 0}, math.MinInt, []int{math.MaxInt, 0}},
	}
	for _, c := range cases {
		same(t, callOf("SetRemove", c.l, c.n), impl.SetRemove(c.l, c.n), c.want)
	}
	for _, rest := range listsOf([]int{3, 1, math.MinInt}, 3) {
		for at := range len(rest) + 1 {
			l := slices.Concat([]int{2}, rest[:at], []int{2, 2}, rest[at:])
			same(t, callOf("SetRemove", l, 2), impl.SetRemove(l, 2), rest)
		}
	}
}

func TestP15SetsOfTwoListsTable(t *testing.T) {
	cases := []struct{ a, b, union, intersection, difference []int }{
		{nil, nil, nil, nil, nil},
		{nil, []int{}, nil, nil, nil},
		{[]int{2, 1}, nil, []int{1, 2}, nil, []int{1, 2}},
		{nil, []int{2, 1, 2}, []int{1, 2}, nil, nil},
		{[]int{1, 2}, []int{1, 2}, []int{1, 2}, []int{1, 2}, nil},
		{[]int{1, 2}, []int{3, 4}, []int{1, 2, 3, 4}, nil, []int{1, 2}},
		{[]int{3, 4}, []int{1, 2}, []int{1, 2, 3, 4}, nil, []int{3, 4}},
		{[]int{1, 3}, []int{1, 2}, []int{1, 2, 3}, []int{1}, []int{3}},
		{[]int{1, 2, 3}, []int{2}, []int{1, 2, 3}, []int{2}, []int{1, 3}},
		{[]int{2}, []int{1, 2, 3}, []int{1, 2, 3}, []int{2}, nil},
		{[]int{5, 3, 5, 1, 3}, []int{3, 2, 3}, []int{1, 2, 3, 5}, []int{3}, []int{1, 5}},
		{[]int{9, 8, 7}, []int{7, 9, 1}, []int{1, 7, 8, 9}, []int{7, 9}, []int{8}},
		{[]int{math.MaxInt, math.MinInt}, []int{0, math.MinInt}, []int{math.MinInt, 0, math.MaxInt}, []int{math.MinInt}, []int{math.MaxInt}},
	}
	for _, c := range cases {
		same(t, callOf("SetUnion", c.a, c.b), impl.SetUnion(c.a, c.b), c.union)
		same(t, callOf("SetIntersection", c.a, c.b), impl.SetIntersection(c.a, c.b), c.intersection)
		same(t, callOf("SetDifference", c.a, c.b), impl.SetDifference(c.a, c.b), c.difference)
	}
}

func TestP15SetsOfTwoLists(t *testing.T) {
	lists := listsOf(sample(), 3)
	for _, a := range lists {
		for _, b := range lists {
			for _, p := range setPairs() {
				want := elements(func(n int) bool { return p.belongs(isIn(a, n), isIn(b, n)) })
				if got := p.call(a, b); len(got) != len(want) || !slices.Equal(got, want) {
					t.Errorf("%s = %v, want %v", callOf(p.name, a, b), got, want)
				}
			}
			surplus := elements(func(n int) bool { return isIn(a, n) && !isIn(b, n) })
			if got := impl.SetSubset(a, b); got != (len(surplus) == 0) {
				t.Errorf("%s = %v", callOf("SetSubset", a, b), got)
			}
		}
	}
}

func TestP15SetSubsetTable(t *testing.T) {
	cases := []struct {
		a, b []int
		want bool
	}{
		{nil, nil, true},
		{[]int{}, nil, true},
		{nil, []int{1}, true},
		{[]int{1}, nil, false},
		{[]int{1}, []int{1, 2}, true},
		{[]int{1, 2}, []int{1}, false},
		{[]int{1, 3}, []int{1, 2}, false},
		{[]int{1, 1, 1}, []int{1}, true},
		{[]int{2, 1}, []int{1, 2}, true},
		{[]int{1, 2}, []int{3, 2, 1, 2}, true},
		{[]int{0, 1}, []int{1, 2}, false},
		{[]int{math.MaxInt}, []int{math.MaxInt, math.MinInt}, true},
		{[]int{math.MinInt}, []int{math.MaxInt}, false},
	}
	for _, c := range cases {
		checkBool(t, callOf("SetSubset", c.a, c.b), impl.SetSubset(c.a, c.b), c.want)
	}
}

func TestP15SetEqual(t *testing.T) {
	cases := []struct {
		a, b []int
		want bool
	}{
		{nil, nil, true},
		{nil, []int{}, true},
		{[]int{}, nil, true},
		{nil, []int{0}, false},
		{[]int{0}, nil, false},
		{[]int{1, 2}, []int{1, 2}, true},
		{[]int{2, 1}, []int{2, 1}, true},
		{[]int{1, 2}, []int{2, 1}, false},
		{[]int{1, 1}, []int{1}, false},
		{[]int{1}, []int{1, 1}, false},
		{[]int{1, 1}, []int{1, 1}, true},
		{[]int{1, 2}, []int{1, 3}, false},
		{[]int{1, 2}, []int{1, 2, 3}, false},
		{[]int{1, 2, 3}, []int{1, 2}, false},
		{[]int{3, 1, 2}, []int{1, 2}, false},
		{[]int{math.MinInt, math.MaxInt}, []int{math.MinInt, math.MaxInt}, true},
		{[]int{math.MinInt}, []int{math.MaxInt}, false},
	}
	for _, c := range cases {
		checkBool(t, callOf("SetEqual", c.a, c.b), impl.SetEqual(c.a, c.b), c.want)
	}
	lists := listsOf(sample(), 3)
	for i, a := range lists {
		for j, b := range lists {
			if got := impl.SetEqual(a, b); got != (i == j) {
				t.Errorf("%s = %v", callOf("SetEqual", a, b), got)
			}
		}
	}
}

func TestP15IntRange(t *testing.T) {
	for n := range 201 {
		l := impl.IntRange(n)
		if len(l) != n {
			t.Errorf("IntRange(%d) has %d elements", n, len(l))
		}
		for i, e := range l {
			if e != i {
				t.Errorf("IntRange(%d)[%d] = %d", n, i, e)
			}
		}
	}
	same(t, "IntRange(1)", impl.IntRange(1), []int{0})
	same(t, "IntRange(3)", impl.IntRange(3), []int{0, 1, 2})
	for _, n := range []int{-1, -2, -200, 201, 202, 1000, impl.MaxNum, math.MaxInt, math.MinInt} {
		if l := impl.IntRange(n); l != nil {
			t.Errorf("IntRange(%d) = %v, want nil", n, l)
		}
	}
}

func TestP15ClampedSum(t *testing.T) {
	cases := []struct {
		l    []int
		want int
	}{
		{nil, 0},
		{[]int{}, 0},
		{[]int{0}, 0},
		{[]int{1, 2, 3}, 6},
		{[]int{3, -5, 3, 3}, 4},
		{[]int{99999}, 99999},
		{[]int{100000}, 100000},
		{[]int{100001}, 100000},
		{[]int{-99999}, -99999},
		{[]int{-100000}, -100000},
		{[]int{-100001}, -100000},
		{[]int{1, 200000}, 100001},
		{[]int{200000, -1}, 99999},
		{[]int{60000, 60000}, 120000},
		{[]int{-60000, -60000}, -120000},
		{[]int{100001, -100001}, 0},
		{[]int{math.MaxInt}, 100000},
		{[]int{math.MinInt}, -100000},
		{[]int{math.MaxInt, math.MaxInt, math.MaxInt}, 300000},
		{[]int{math.MinInt, math.MinInt, 5}, -199995},
		{[]int{math.MaxInt, math.MinInt}, 0},
		{slices.Repeat([]int{math.MaxInt}, 50000), 50000 * 100000},
		{slices.Repeat([]int{math.MinInt, 1}, 50000), 50000 * -99999},
	}
	for _, c := range cases {
		if got := impl.ClampedSum(c.l); got != c.want {
			t.Errorf("ClampedSum of %d elements from %v = %d, want %d", len(c.l), c.l[:min(len(c.l), 4)], got, c.want)
		}
	}
}

func TestP15LongLists(t *testing.T) {
	var down, even, up []int
	for n := range 20000 {
		down = append(down, 20000-n, 20000-n)
		up = append(up, n+1)
		if n%2 == 1 {
			even = append(even, n+1)
		}
	}
	same(t, "SetOf of a long list", impl.SetOf(down), up)
	same(t, "SetUnion of long lists", impl.SetUnion(even, down), up)
	same(t, "SetIntersection of long lists", impl.SetIntersection(down, even), even)
	same(t, "SetDifference of long lists", impl.SetDifference(impl.SetUnion(down, []int{0}), down), []int{0})
	checkBool(t, "SetSubset of long lists", impl.SetSubset(down, up), true)
	checkBool(t, "SetSubset of long lists", impl.SetSubset(down, even), false)
}

// TestP15SetsLeaveTheirArgumentsAlone overwrites each result up to its capacity, which would show in an argument that shares its memory.
func TestP15SetsLeaveTheirArgumentsAlone(t *testing.T) {
	lists := [][]int{{}, {1}, {1, 2, 3}, {3, 2, 1}, {2, 2, 1, 1}, {4, 5}, {2}}
	for _, l := range lists {
		for _, other := range lists {
			a, aKept := spare(l, 77)
			b, bKept := spare(other, 88)
			results := [][]int{impl.SetOf(a), impl.SetAdd(a, 2), impl.SetAdd(a, 9), impl.SetRemove(a, 2), impl.SetRemove(a, 9)}
			for _, p := range setPairs() {
				results = append(results, p.call(a, b), p.call(a, a))
			}
			impl.SetOk(a)
			impl.SetHas(a, 2)
			impl.SetSubset(a, b)
			impl.SetEqual(a, b)
			impl.ClampedSum(a)
			if !aKept() || !bKept() {
				t.Fatalf("a function of chapter 3 changes its arguments %v and %v", l, other)
			}
			for i, result := range results {
				overwrite(result, -999)
				if !aKept() || !bKept() {
					t.Fatalf("result %d shares memory with the arguments %v and %v", i, l, other)
				}
			}
		}
	}
}

func TestP15SetsKeepNoState(t *testing.T) {
	for range 2 {
		l := impl.IntRange(3)
		same(t, "IntRange(3) after its last result was changed", l, []int{0, 1, 2})
		overwrite(l, -999)
		set := impl.SetOf([]int{2, 1})
		same(t, "SetOf([]int{2, 1}) after its last result was changed", set, []int{1, 2})
		overwrite(set, -999)
	}
}
