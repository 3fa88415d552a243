package tests

import (
	"math"
	"regexp"
	"slices"
	"strconv"
	"strings"
	"testing"

	"loop.example/g00806/impl"
)

// levels is the capacity at every time, in which the tests of this file compute what they expect.
type levels [impl.MaxTime + 1]int

// levelsOf takes a valid list and goes through the times one by one.
func levelsOf(l []impl.Step) levels {
	var c levels
	now := 0
	for t := range c {
		for _, step := range l {
			if step.At == t {
				now = step.Capacity
			}
		}
		c[t] = now
	}
	return c
}

// fewest returns the only steps with these levels of which no two neighbours have the same capacity.
func (c levels) fewest() []impl.Step {
	var l []impl.Step
	for t, capacity := range c {
		if t == 0 || capacity != c[t-1] {
			l = append(l, impl.Step{At: t, Capacity: capacity})
		}
	}
	return l
}

func (c levels) lowest(x, y int) int {
	lowest := impl.MaxCap
	for t := x; t < y; t++ {
		lowest = min(lowest, c[t])
	}
	return lowest
}

func (c levels) total(x, y int) int {
	total := 0
	for t := x; t < y; t++ {
		total += c[t]
	}
	return total
}

// profile makes steps of numbers that are in turn an At and a Capacity.
func profile(numbers ...int) []impl.Step {
	var l []impl.Step
	for i := 0; i+1 < len(numbers); i += 2 {
		l = append(l, impl.Step{At: numbers[i], Capacity: numbers[i+1]})
	}
	return l
}

func goodProfiles() [][]impl.Step {
	return [][]impl.Step{
		profile(0, 0),
		profile(0, 20),
		profile(0, 3, 60, 4),
		profile(0, 20, 60, 0),
		profile(0, 0, 1, 20),
		profile(0, 2, 6, 1),
		profile(0, 2, 3, 2),
		profile(0, 5, 1, 5, 2, 5, 60, 5),
		profile(0, 4, 10, 7, 20, 4),
		profile(0, 4, 10, 4, 20, 7, 30, 7, 40, 4),
		profile(0, 7, 59, 2, 60, 9),
		profile(0, 1, 1, 2, 2, 1, 3, 2, 4, 1, 5, 2, 6, 1),
		profile(0, 1, 5, 2, 10, 3, 15, 4, 20, 3, 30, 2, 40, 1, 60, 6),
		profile(0, 9, 5, 9, 10, 8, 15, 8, 20, 8, 30, 7, 40, 9, 50, 9),
		profile(0, 20, 54, 19, 55, 18, 56, 17, 57, 16, 58, 15, 59, 14, 60, 13),
	}
}

func badProfiles() [][]impl.Step {
	return [][]impl.Step{
		nil,
		{},
		profile(1, 2),
		profile(-1, 2),
		profile(-1, 2, 0, 2),
		profile(60, 2),
		profile(math.MinInt, 2),
		profile(math.MaxInt, 2),
		profile(math.MinInt, 2, 0, 2),
		profile(0, 2, 0, 2),
		profile(0, 2, 0, 3),
		profile(0, 2, 5, 3, 5, 3),
		profile(0, 2, 5, 3, 4, 3),
		profile(0, 2, 5, 3, 0, 3),
		profile(5, 3, 0, 2),
		profile(0, 2, -1, 3),
		profile(0, 2, math.MinInt, 3),
		profile(0, 2, 61, 3),
		profile(0, 2, 60, 2, 61, 3),
		profile(0, 2, math.MaxInt, 3),
		profile(0, -1),
		profile(0, 21),
		profile(0, math.MinInt),
		profile(0, math.MaxInt),
		profile(0, 2, 5, -1),
		profile(0, 2, 5, 21, 10, 2),
		profile(0, 2, 5, 3, 10, math.MaxInt),
		profile(0, 2, 5, 3, 10, math.MinInt),
		profile(0, 1, 1, 2, 2, 3, 3, 4, 4, 5, 5, 6, 6, 7, 7, 8, 8, 9),
		profile(0, 1, 1, 1, 2, 1, 3, 1, 4, 1, 5, 1, 6, 1, 7, 1, 8, 1),
	}
}

// edgeTimes are times, and numbers that are no times.
func edgeTimes() []int {
	return []int{math.MinInt, math.MinInt + 1, -61, -2, -1, 0, 1, 2, 3, 5, 6, 7, 10, 15, 20, 29, 30, 31, 40, 54, 57, 58, 59, 60, 61, 62, 120, math.MaxInt - 1, math.MaxInt}
}

func isEdgeOk(t int) bool {
	return 0 <= t && t <= impl.MaxTime
}

func checkInt(t *testing.T, call string, got, want int) {
	t.Helper()
	if got != want {
		t.Errorf("%s = %d, want %d", call, got, want)
	}
}

// checkReduced expects no value if ok is false.
func checkReduced(t *testing.T, l []impl.Step, x, y, n int, want []impl.Step, ok bool) {
	t.Helper()
	got, gotOk := impl.ReduceCapacity(l, x, y, n)
	if !ok {
		want = nil
	}
	if gotOk != ok || !slices.Equal(got, want) {
		t.Errorf("%s = %v, %v, want %v, %v", callOf("ReduceCapacity", l, x, y, n), got, gotOk, want, ok)
	}
}

func TestP2ReducingChangesExactlyTheInterval(t *testing.T) {
	for _, l := range goodProfiles() {
		before := levelsOf(l)
		for x := range impl.MaxTime {
			for y := x + 1; y <= impl.MaxTime; y++ {
				for _, n := range []int{0, 1, 2, before.lowest(x, y)} {
					reduced, ok := impl.ReduceCapacity(l, x, y, n)
					if !ok {
						continue
					}
					for at := range before {
						want := before[at]
						if x <= at && at < y {
							want -= n
						}
						if got := impl.CapacityAt(reduced, at); got != want {
							t.Fatalf("%s gives capacity %d at %d, want %d", callOf("ReduceCapacity", l, x, y, n), got, at, want)
						}
					}
				}
			}
		}
	}
}

func TestP2ReducingSucceedsExactlyIfItCan(t *testing.T) {
	for _, l := range goodProfiles() {
		before := levelsOf(l)
		for _, x := range edgeTimes() {
			for _, y := range edgeTimes() {
				interval := isEdgeOk(x) && isEdgeOk(y) && x < y
				for _, n := range []int{math.MinInt, -20, -1, 0, 1, 2, 3, 4, 7, 9, 13, 14, 19, 20, 21, math.MaxInt} {
					after, ok := before, interval && 0 <= n && n <= before.lowest(x, y)
					for at := x; ok && at < y; at++ {
						after[at] -= n
					}
					ok = ok && len(after.fewest()) <= impl.MaxSteps
					checkReduced(t, l, x, y, n, after.fewest(), ok)
				}
			}
		}
	}
}

func TestP2ReducingByTheMinimumAndByOneMore(t *testing.T) {
	l := profile(0, 4, 10, 7, 20, 2)
	for x := range impl.MaxTime {
		for y := x + 1; y <= impl.MaxTime; y++ {
			lowest := levelsOf(l).lowest(x, y)
			reduced, ok := impl.ReduceCapacity(l, x, y, lowest)
			if !ok || levelsOf(reduced).lowest(x, y) != 0 {
				t.Errorf("%s = %v, %v", callOf("ReduceCapacity", l, x, y, lowest), reduced, ok)
			}
			checkReduced(t, l, x, y, lowest+1, nil, false)
		}
	}
}

func TestP2ReducingTable(t *testing.T) {
	seven := profile(0, 1, 10, 2, 20, 1, 30, 2, 40, 1, 50, 2, 55, 1)
	eight := profile(0, 1, 10, 2, 20, 1, 30, 2, 40, 1, 50, 2, 55, 1, 58, 2)
	repeated := profile(0, 2, 1, 2, 2, 2, 3, 2, 4, 2, 5, 2, 6, 2, 7, 2)
	cases := []struct {
		l       []impl.Step
		x, y, n int
		want    []impl.Step
		ok      bool
	}{
		{profile(0, 2, 6, 1), 2, 4, 2, profile(0, 2, 2, 0, 4, 2, 6, 1), true},
		{profile(0, 2, 6, 1), 2, 7, 2, nil, false},
		{profile(0, 2, 6, 1), 2, 7, 1, profile(0, 2, 2, 1, 6, 0, 7, 1), true},
		{profile(0, 2), 0, 60, 2, profile(0, 0, 60, 2), true},
		{profile(0, 2), 0, 60, 0, profile(0, 2), true},
		{profile(0, 2), 59, 60, 1, profile(0, 2, 59, 1, 60, 2), true},
		{profile(0, 2, 60, 1), 59, 60, 1, profile(0, 2, 59, 1), true},
		{profile(0, 2, 60, 0), 30, 60, 2, profile(0, 2, 30, 0), true},
		{profile(0, 2), 60, 60, 0, nil, false},
		{profile(0, 2), 60, 61, 1, nil, false},
		{profile(0, 2), 60, 61, 0, nil, false},
		{profile(0, 2), 0, 61, 0, nil, false},
		{profile(0, 2), -1, 5, 0, nil, false},
		{profile(0, 2), -1, 0, 0, nil, false},
		{profile(0, 2), 5, 5, 0, nil, false},
		{profile(0, 2), 5, 5, 20, nil, false},
		{profile(0, 2), 5, 4, 0, nil, false},
		{profile(0, 2), 0, 1, -1, nil, false},
		{profile(0, 2), 0, 1, 3, nil, false},
		{profile(0, 0), 0, 1, 0, profile(0, 0), true},
		{profile(0, 0), 0, 1, 1, nil, false},
		{profile(0, 20), 0, 1, 20, profile(0, 0, 1, 20), true},
		{profile(0, 1, 5, 2, 9, 1), 5, 9, 1, profile(0, 1), true},
		{profile(0, 1, 5, 2), 5, 60, 1, profile(0, 1, 60, 2), true},
		{profile(0, 3, 5, 2), 0, 5, 1, profile(0, 2), true},
		{seven, 35, 45, 0, seven, true},
		{seven, 12, 15, 1, nil, false},
		{seven, 10, 15, 1, profile(0, 1, 15, 2, 20, 1, 30, 2, 40, 1, 50, 2, 55, 1), true},
		{seven, 12, 20, 1, profile(0, 1, 10, 2, 12, 1, 30, 2, 40, 1, 50, 2, 55, 1), true},
		{seven, 12, 20, 2, profile(0, 1, 10, 2, 12, 0, 20, 1, 30, 2, 40, 1, 50, 2, 55, 1), true},
		{seven, 55, 60, 1, profile(0, 1, 10, 2, 20, 1, 30, 2, 40, 1, 50, 2, 55, 0, 60, 1), true},
		{eight, 12, 20, 2, nil, false},
		{eight, 58, 60, 1, profile(0, 1, 10, 2, 20, 1, 30, 2, 40, 1, 50, 2, 55, 1, 60, 2), true},
		{eight, 59, 60, 1, nil, false},
		{eight, 59, 60, 0, eight, true},
		{repeated, 3, 4, 1, profile(0, 2, 3, 1, 4, 2), true},
		{repeated, 20, 30, 2, profile(0, 2, 20, 0, 30, 2), true},
		{repeated, 20, 30, 0, profile(0, 2), true},
	}
	for _, c := range cases {
		checkReduced(t, c.l, c.x, c.y, c.n, c.want, c.ok)
	}
	for _, l := range badProfiles() {
		for _, n := range []int{-1, 0, 1, 2} {
			checkReduced(t, l, 0, 1, n, nil, false)
			checkReduced(t, l, 0, 60, n, nil, false)
		}
	}
}

func TestP15StepsOk(t *testing.T) {
	for _, l := range goodProfiles() {
		checkBool(t, callOf("StepsOk", l), impl.StepsOk(l), true)
	}
	for _, l := range badProfiles() {
		checkBool(t, callOf("StepsOk", l), impl.StepsOk(l), false)
	}
	checkBool(t, "StepsOk of many steps", impl.StepsOk(make([]impl.Step, 100000)), false)
}

// shortProfiles returns all lists of up to three steps of numbers at the ends of the ranges.
func shortProfiles() [][]impl.Step {
	var steps []impl.Step
	for _, at := range []int{-1, 0, 1, 59, 60, 61} {
		for _, capacity := range []int{-1, 0, 20, 21} {
			steps = append(steps, impl.Step{At: at, Capacity: capacity})
		}
	}
	all := [][]impl.Step{nil}
	for _, a := range steps {
		all = append(all, []impl.Step{a})
		for _, b := range steps {
			all = append(all, []impl.Step{a, b})
			for _, c := range steps {
				all = append(all, []impl.Step{a, b, c})
			}
		}
	}
	return all
}

// isValid is StepsOk without its limit of MaxSteps.
func isValid(l []impl.Step) bool {
	for i, step := range l {
		if i == 0 && step.At != 0 || i > 0 && step.At <= l[i-1].At {
			return false
		}
		if step.At > 60 || step.Capacity < 0 || step.Capacity > 20 {
			return false
		}
	}
	return len(l) > 0
}

func TestP15StepsOfShortLists(t *testing.T) {
	for _, l := range shortProfiles() {
		ok := isValid(l)
		if impl.StepsOk(l) != ok {
			t.Errorf("%s = %v", callOf("StepsOk", l), !ok)
		}
		var c levels
		var merged []impl.Step
		if ok {
			c = levelsOf(l)
			merged = c.fewest()
		}
		same(t, callOf("MergeSteps", l), impl.MergeSteps(l), merged)
		for _, at := range []int{0, 1, 2, 58, 59, 60} {
			if got := impl.CapacityAt(l, at); got != c[at] {
				t.Errorf("%s = %d, want %d", callOf("CapacityAt", l, at), got, c[at])
			}
		}
		back, backOk := impl.ParseSteps(impl.FormatSteps(l))
		if backOk != ok || ok && !slices.Equal(back, l) || !ok && len(back) > 0 {
			t.Errorf("%v from its text %q = %v, %v", l, impl.FormatSteps(l), back, backOk)
		}
	}
}

func TestP15CapacityAt(t *testing.T) {
	for _, l := range goodProfiles() {
		for at, want := range levelsOf(l) {
			checkInt(t, callOf("CapacityAt", l, at), impl.CapacityAt(l, at), want)
		}
		for _, at := range edgeTimes() {
			if !isEdgeOk(at) {
				checkInt(t, callOf("CapacityAt", l, at), impl.CapacityAt(l, at), 0)
			}
		}
	}
	for _, l := range badProfiles() {
		for _, at := range edgeTimes() {
			checkInt(t, callOf("CapacityAt", l, at), impl.CapacityAt(l, at), 0)
		}
	}
	cases := []struct{ at, want int }{{0, 2}, {5, 2}, {6, 1}, {7, 1}, {59, 1}, {60, 8}, {61, 0}, {-1, 0}}
	for _, c := range cases {
		checkInt(t, callOf("CapacityAt", c.at), impl.CapacityAt(profile(0, 2, 6, 1, 60, 8), c.at), c.want)
	}
}

func TestP15MinAndTotalCapacity(t *testing.T) {
	for _, l := range goodProfiles() {
		c := levelsOf(l)
		for x := -1; x <= impl.MaxTime+1; x++ {
			for y := -1; y <= impl.MaxTime+1; y++ {
				lowest, total := 0, 0
				if isEdgeOk(x) && isEdgeOk(y) {
					lowest, total = c.lowest(x, y), c.total(x, y)
				}
				if got := impl.MinCapacity(l, x, y); got != lowest {
					t.Errorf("%s = %d, want %d", callOf("MinCapacity", l, x, y), got, lowest)
				}
				if got := impl.TotalCapacity(l, x, y); got != total {
					t.Errorf("%s = %d, want %d", callOf("TotalCapacity", l, x, y), got, total)
				}
			}
		}
	}
}

func TestP15MinAndTotalCapacityTable(t *testing.T) {
	l := profile(0, 2, 6, 1, 60, 0)
	cases := []struct{ x, y, lowest, total int }{
		{0, 7, 1, 13},
		{4, 8, 1, 6},
		{0, 6, 2, 12},
		{5, 6, 2, 2},
		{6, 7, 1, 1},
		{3, 3, 20, 0},
		{0, 0, 20, 0},
		{60, 60, 20, 0},
		{7, 3, 20, 0},
		{60, 0, 20, 0},
		{0, 60, 1, 66},
		{59, 60, 1, 1},
		{60, 61, 0, 0},
		{61, 61, 0, 0},
		{61, 60, 0, 0},
		{-1, -1, 0, 0},
		{-1, 60, 0, 0},
		{0, -1, 0, 0},
		{0, 61, 0, 0},
		{math.MinInt, math.MaxInt, 0, 0},
		{math.MaxInt, math.MinInt, 0, 0},
		{0, math.MaxInt, 0, 0},
		{0, math.MinInt, 0, 0},
		{math.MinInt, 60, 0, 0},
		{math.MaxInt, 60, 0, 0},
	}
	for _, c := range cases {
		checkInt(t, callOf("MinCapacity", l, c.x, c.y), impl.MinCapacity(l, c.x, c.y), c.lowest)
		checkInt(t, callOf("TotalCapacity", l, c.x, c.y), impl.TotalCapacity(l, c.x, c.y), c.total)
	}
	checkInt(t, "the greatest TotalCapacity", impl.TotalCapacity(profile(0, 20), 0, 60), 1200)
	for _, l := range badProfiles() {
		for _, y := range []int{0, 1, 60} {
			checkInt(t, callOf("MinCapacity", l, 0, y), impl.MinCapacity(l, 0, y), 0)
			checkInt(t, callOf("TotalCapacity", l, 0, y), impl.TotalCapacity(l, 0, y), 0)
		}
	}
}

func TestP15MergeSteps(t *testing.T) {
	cases := []struct{ l, want []impl.Step }{
		{profile(0, 2), profile(0, 2)},
		{profile(0, 2, 3, 2), profile(0, 2)},
		{profile(0, 2, 3, 1), profile(0, 2, 3, 1)},
		{profile(0, 2, 3, 1, 5, 2), profile(0, 2, 3, 1, 5, 2)},
		{profile(0, 2, 3, 2, 5, 2, 60, 2), profile(0, 2)},
		{profile(0, 2, 3, 1, 5, 1, 7, 2, 9, 2), profile(0, 2, 3, 1, 7, 2)},
		{profile(0, 0, 1, 0, 60, 20), profile(0, 0, 60, 20)},
		{profile(0, 1, 1, 2, 2, 1, 3, 2, 4, 1, 5, 2, 6, 1, 7, 2), profile(0, 1, 1, 2, 2, 1, 3, 2, 4, 1, 5, 2, 6, 1, 7, 2)},
		{profile(0, 1, 1, 1, 2, 1, 3, 1, 4, 1, 5, 1, 6, 1, 7, 1), profile(0, 1)},
	}
	for _, c := range cases {
		same(t, callOf("MergeSteps", c.l), impl.MergeSteps(c.l), c.want)
	}
	for _, l := range goodProfiles() {
		same(t, callOf("MergeSteps", l), impl.MergeSteps(l), levelsOf(l).fewest())
	}
	for _, l := range badProfiles() {
		same(t, callOf("MergeSteps", l), impl.MergeSteps(l), nil)
	}
}

func TestP15FormatSteps(t *testing.T) {
	cases := []struct {
		l    []impl.Step
		want string
	}{
		{profile(0, 0), "0:0"},
		{profile(0, 20), "0:20"},
		{profile(0, 2, 6, 1), "0:2,6:1"},
		{profile(0, 2, 6, 2), "0:2,6:2"},
		{profile(0, 10, 59, 0, 60, 20), "0:10,59:0,60:20"},
		{profile(0, 1, 1, 2, 2, 3, 3, 4, 4, 5, 5, 6, 6, 7, 7, 8), "0:1,1:2,2:3,3:4,4:5,5:6,6:7,7:8"},
	}
	for _, c := range cases {
		if got := impl.FormatSteps(c.l); got != c.want {
			t.Errorf("%s = %q, want %q", callOf("FormatSteps", c.l), got, c.want)
		}
	}
	for _, l := range badProfiles() {
		if got := impl.FormatSteps(l); got != "" {
			t.Errorf("%s = %q, want none", callOf("FormatSteps", l), got)
		}
	}
	for _, l := range goodProfiles() {
		back, ok := impl.ParseSteps(impl.FormatSteps(l))
		if !ok || !impl.StepsEqual(back, l) || !slices.Equal(back, l) {
			t.Errorf("%v from its text %q = %v, %v", l, impl.FormatSteps(l), back, ok)
		}
	}
}

// readSteps reads a text by a pattern and without regard to MaxSteps, which the short texts of the tests cannot reach.
func readSteps(text string) ([]impl.Step, bool) {
	number := "(0|[1-9][0-9]*)"
	if !regexp.MustCompile("^" + number + ":" + number + "(," + number + ":" + number + ")*$").MatchString(text) {
		return nil, false
	}
	var l []impl.Step
	for _, part := range strings.Split(text, ",") {
		at, capacity, _ := strings.Cut(part, ":")
		a, _ := strconv.Atoi(at)
		c, _ := strconv.Atoi(capacity)
		l = append(l, impl.Step{At: a, Capacity: c})
	}
	if !isValid(l) {
		return nil, false
	}
	return l, true
}

func checkParsed(t *testing.T, text string, want []impl.Step, ok bool) {
	t.Helper()
	got, gotOk := impl.ParseSteps(text)
	if gotOk != ok || !slices.Equal(got, want) {
		t.Errorf("ParseSteps(%q) = %v, %v, want %v, %v", text, got, gotOk, want, ok)
	}
}

func TestP15ParseStepsOfShortTexts(t *testing.T) {
	for _, text := range texts([]string{"0", "2", ":", ",", "0:2", "-", "+", " ", "x"}, 4) {
		want, ok := readSteps(text)
		checkParsed(t, text, want, ok)
	}
	for _, text := range texts([]string{"0:", "2:", "1", "60", "61", ","}, 6) {
		want, ok := readSteps(text)
		checkParsed(t, text, want, ok)
	}
}

func TestP15ParseSteps(t *testing.T) {
	checkParsed(t, "0:2", profile(0, 2), true)
	checkParsed(t, "0:2,3:2", profile(0, 2, 3, 2), true)
	checkParsed(t, "0:20,60:0", profile(0, 20, 60, 0), true)
	checkParsed(t, "0:1,1:2,2:3,3:4,4:5,5:6,6:7,7:8", profile(0, 1, 1, 2, 2, 3, 3, 4, 4, 5, 5, 6, 6, 7, 7, 8), true)
	bad := []string{
		"", "-", ",", ":", "0", "2", "0:", ":2", ":2,1:1", "0:2:3", "0::2", "0:2,", ",0:2", "0:2,,6:1", "0:2,:", "0:2,6", "0:2,6:", "0:2,:1",
		"1:2", "60:2", "-1:2", "-0:2", "0:-0", "0:-1", "+0:2", "0:+2", "00:2", "0:02", "0:2,06:1", "0:2,6:01", "0:00",
		" 0:2", "0:2 ", "0 :2", "0: 2", "0:2, 6:1", "0:2 ,6:1", "0:2;6:1", "0:2\n", "\n0:2", "0:2\n6:1", "0.2", "0=2", "a:2", "0:a", "0x0:2", "0:1e1", "0:1_0",
		"0:2,0:2", "0:2,0:3", "0:2,6:1,6:1", "0:2,6:1,5:1", "6:1,0:2", "0:2,61:1", "0:21", "0:2,6:21", "0:2,-6:1",
		"0:100001", "0:2,100001:1", "0:18446744073709551618", "18446744073709551616:2", "0:2,18446744073709551622:1", "0:9223372036854775808", "0:-9223372036854775808",
		"0:1,1:2,2:3,3:4,4:5,5:6,6:7,7:8,8:9", "\u0660:2", "0:\u0662", "0\uff1a2", "0:2\x00", "0:2\xff", "\ufeff0:2",
	}
	for _, text := range bad {
		checkParsed(t, text, nil, false)
	}
	checkParsed(t, "0:"+strings.Repeat("0", 100000), nil, false)
	checkParsed(t, "0:2"+strings.Repeat(",6:1", 100000), nil, false)
	checkParsed(t, strings.Repeat(",", 100000), nil, false)
	checkParsed(t, strings.Repeat(":", 100000), nil, false)
}

func TestP15StepsEqual(t *testing.T) {
	lists := [][]impl.Step{
		nil,
		profile(0, 0),
		profile(0, 2),
		profile(2, 0),
		profile(0, 2, 0, 2),
		profile(0, 2, 6, 1),
		profile(6, 1, 0, 2),
		profile(0, 2, 6, 2),
		profile(0, 2, 7, 1),
		profile(0, 2, 6, 1, 9, 1),
		profile(math.MinInt, math.MaxInt),
		profile(math.MaxInt, math.MinInt),
		slices.Repeat(profile(0, 2), 8),
		slices.Repeat(profile(0, 2), 9),
	}
	for i, a := range lists {
		for j, b := range lists {
			checkBool(t, callOf("StepsEqual", a, b), impl.StepsEqual(a, slices.Clone(b)), i == j)
		}
	}
	checkBool(t, "StepsEqual(nil, empty)", impl.StepsEqual(nil, []impl.Step{}), true)
	checkBool(t, "StepsEqual(empty, nil)", impl.StepsEqual([]impl.Step{}, nil), true)
}

// TestP15StepsLeaveTheirArgumentsAlone overwrites each result, which would show in an argument that shares its memory.
func TestP15StepsLeaveTheirArgumentsAlone(t *testing.T) {
	for _, list := range slices.Concat(goodProfiles(), badProfiles()) {
		l, kept := spare(list, impl.Step{At: 3, Capacity: 3})
		other, otherKept := spare(list, impl.Step{At: 4, Capacity: 4})
		results := [][]impl.Step{impl.MergeSteps(l)}
		for _, n := range []int{0, 1, 2} {
			for _, x := range []int{0, 7, 30} {
				reduced, _ := impl.ReduceCapacity(l, x, 60, n)
				results = append(results, reduced)
				reduced, _ = impl.ReduceCapacity(l, x, x+1, n)
				results = append(results, reduced)
			}
		}
		impl.StepsOk(l)
		impl.CapacityAt(l, 5)
		impl.MinCapacity(l, 2, 9)
		impl.TotalCapacity(l, 2, 9)
		impl.FormatSteps(l)
		impl.StepsEqual(l, other)
		for _, result := range results {
			overwrite(result, impl.Step{At: -9, Capacity: -9})
		}
		if !kept() || !otherKept() {
			t.Errorf("a function of chapter 4 changes its argument %v", list)
		}
	}
}

func TestP15StepsKeepNoState(t *testing.T) {
	for range 2 {
		l, _ := impl.ParseSteps("0:2,6:2")
		same(t, "ParseSteps after its last result was changed", l, profile(0, 2, 6, 2))
		merged := impl.MergeSteps(l)
		same(t, "MergeSteps after its last result was changed", merged, profile(0, 2))
		reduced, _ := impl.ReduceCapacity(l, 1, 2, 1)
		same(t, "ReduceCapacity after its last result was changed", reduced, profile(0, 2, 1, 1, 2, 2))
		for _, result := range [][]impl.Step{l, merged, reduced} {
			overwrite(result, impl.Step{At: -9, Capacity: -9})
		}
	}
}
