package tests

import (
	"fmt"
	"math"
	"math/rand"
	"reflect"
	"slices"
	"testing"

	"loop.example/g00806/impl"
)

// apart is the distance between activities without a path.
const apart = -1000

// times is what chapter 9 asks for of a project.
type times struct {
	distances [][]int
	earliest  []int
	tails     []int
	bound     int
	critical  []int
}

// distancesOf follows every chain of links that visits no activity twice.
func distancesOf(p impl.Project) [][]int {
	var rows [][]int
	for a := range p.Activities {
		row := slices.Repeat(ints(apart), len(p.Activities))
		var follow func(visited []int, sum int)
		follow = func(visited []int, sum int) {
			last := visited[len(visited)-1]
			row[last] = max(row[last], sum)
			for k, l := range p.Links {
				if l.From == last && !isIn(visited, l.To) {
					follow(append(slices.Clone(visited), l.To), sum+gapAt(p, k))
				}
			}
		}
		follow(ints(a), 0)
		rows = append(rows, row)
	}
	return rows
}

func shortestOf(p impl.Project) []int {
	var all []int
	for a := range p.Activities {
		all = append(all, slices.Min(durationsOf(p, a)))
	}
	return all
}

// latestOf compares the differences of which chapter 9 speaks; beyond the range of int they wrap around.
func latestOf(p impl.Project, distances [][]int, t int) []int {
	shortest := shortestOf(p)
	var all []int
	for a := range p.Activities {
		var latest []int
		for b := range p.Activities {
			if distances[a][b] != apart {
				latest = append(latest, t-shortest[b]-distances[a][b])
			}
		}
		all = append(all, slices.Min(latest))
	}
	return all
}

func slacksOf(latest, earliest []int) []int {
	var all []int
	for a := range latest {
		all = append(all, latest[a]-earliest[a])
	}
	return all
}

// timesOf returns false if the links cannot all hold.
func timesOf(p impl.Project) (times, bool) {
	if _, ok := startsOf(p); !ok {
		return times{}, false
	}
	x := times{distances: distancesOf(p)}
	shortest := shortestOf(p)
	for a := range p.Activities {
		start, tail := 0, 0
		for b := range p.Activities {
			start = max(start, x.distances[b][a])
			if x.distances[a][b] != apart {
				tail = max(tail, x.distances[a][b]+shortest[b])
			}
		}
		x.earliest, x.tails = append(x.earliest, start), append(x.tails, tail)
		x.bound = max(x.bound, start+shortest[a])
	}
	for a, slack := range slacksOf(latestOf(p, x.distances, x.bound), x.earliest) {
		if slack == 0 {
			x.critical = append(x.critical, a)
		}
	}
	return x, true
}

// farTimes are close to the ends of the range of int, but no difference of one of them and a distance leaves it.
func farTimes() []int {
	return ints(math.MinInt+800, math.MaxInt-800)
}

func checkTimes(t *testing.T, name string, p impl.Project, want times) {
	t.Helper()
	same(t, "Distances with "+name, impl.Distances(p), want.distances)
	same(t, "EarliestStarts with "+name, impl.EarliestStarts(p), want.earliest)
	same(t, "CriticalActivities with "+name, impl.CriticalActivities(p), want.critical)
	checkInt(t, "PathBound with "+name, impl.PathBound(p), want.bound)
	for a, tail := range want.tails {
		checkInt(t, fmt.Sprint("TailLength of ", a, " with ", name), impl.TailLength(p, a), tail)
	}
	checkInt(t, "TailLength of the first missing activity with "+name, impl.TailLength(p, len(want.tails)), 0)
	for _, n := range append(farTimes(), -60, -1, 0, 1, want.bound-1, want.bound, want.bound+1, 60, 61) {
		latest := latestOf(p, want.distances, n)
		same(t, fmt.Sprint("LatestStarts for ", n, " with ", name), impl.LatestStarts(p, n), latest)
		same(t, fmt.Sprint("Slacks for ", n, " with ", name), impl.Slacks(p, n), slacksOf(latest, want.earliest))
	}
}

// checkNoTimes expects what the functions return if the links cannot all hold or the project is not valid.
func checkNoTimes(t *testing.T, name string, p impl.Project) {
	t.Helper()
	same(t, "Distances with "+name, impl.Distances(p), nil)
	same(t, "EarliestStarts with "+name, impl.EarliestStarts(p), nil)
	same(t, "CriticalActivities with "+name, impl.CriticalActivities(p), nil)
	checkInt(t, "PathBound with "+name, impl.PathBound(p), 0)
	for _, n := range append(noIndexes(), 0, 1, 5, 6, 60) {
		same(t, fmt.Sprint("LatestStarts for ", n, " with ", name), impl.LatestStarts(p, n), nil)
		same(t, fmt.Sprint("Slacks for ", n, " with ", name), impl.Slacks(p, n), nil)
		checkInt(t, fmt.Sprint("TailLength of ", n, " with ", name), impl.TailLength(p, n), 0)
	}
}

// held is a choice of starts and durations with which all links of a project hold.
type held struct{ starts, durations []int }

func (h held) end() int {
	end := 0
	for a, start := range h.starts {
		end = max(end, start+h.durations[a])
	}
	return end
}

// allHeld tries all starts up to most, in all modes.
func allHeld(p impl.Project, most int) []held {
	tries := []held{{}}
	for a := range p.Activities {
		var longer []held
		for _, h := range tries {
			for start := range most + 1 {
				for _, n := range durationsOf(p, a) {
					longer = append(longer, held{append(slices.Clone(h.starts), start), append(slices.Clone(h.durations), n)})
				}
			}
		}
		tries = longer
	}
	return slices.DeleteFunc(tries, func(h held) bool { return !linksHold(p, h.starts, h.durations) })
}

// someHeld chooses modes and times from which on the activities start, and delays them until all links hold.
func someHeld(p impl.Project, seed int64) (held, bool) {
	r := rand.New(rand.NewSource(seed))
	var h held
	for a := range p.Activities {
		all := durationsOf(p, a)
		h.starts = append(h.starts, r.Intn(4)*r.Intn(10))
		h.durations = append(h.durations, all[r.Intn(len(all))])
	}
	for range len(p.Activities) {
		for _, k := range p.Links {
			n := h.starts[k.From] + k.Lag
			if k.FromEnd {
				n += h.durations[k.From]
			}
			h.starts[k.To] = max(h.starts[k.To], n)
		}
	}
	return h, linksHold(p, h.starts, h.durations)
}

// checkHeld expects that nothing is earlier or later than the functions say.
func checkHeld(t *testing.T, p impl.Project, h held) {
	t.Helper()
	end := h.end()
	if end < impl.PathBound(p) {
		t.Errorf("PathBound(%+v) = %d, but %+v ends at %d", p, impl.PathBound(p), h, end)
	}
	earliest, latest, slacks := impl.EarliestStarts(p), impl.LatestStarts(p, end), impl.Slacks(p, end)
	for a, start := range h.starts {
		if start < earliest[a] || start > latest[a] || slacks[a] < start-earliest[a] || end-start < impl.TailLength(p, a) {
			t.Errorf("activity %d of %+v starts from %d to %d with the slack %d and the tail %d, but %+v holds", a, p, earliest[a], latest[a], slacks[a], impl.TailLength(p, a), h)
		}
	}
	for a, row := range impl.Distances(p) {
		for b, n := range row {
			if h.starts[b]-h.starts[a] < n {
				t.Errorf("Distances(%+v)[%d][%d] = %d, but %+v holds", p, a, b, n, h)
			}
		}
	}
	if end > impl.PathBound(p) {
		return
	}
	for _, a := range impl.CriticalActivities(p) {
		checkInt(t, callOf("the start of a critical activity", p, a), h.starts[a], earliest[a])
	}
}

// smallProjects have few enough activities that all of their starts up to 7 can be tried.
func smallProjects() []impl.Project {
	all := []impl.Project{linked(1), lasting(linked(1), 0, 3, 2)}
	for i, p := range pairings() {
		if i%29 == 0 {
			all = append(all, p)
		}
	}
	for seed := range int64(400) {
		if p := network(seed); len(p.Activities) == 3 {
			all = append(all, p)
		}
	}
	return all
}

func TestP3NoScheduleStartsOrEndsEarlierThanTheLinksPermit(t *testing.T) {
	count := 0
	for _, p := range smallProjects() {
		all := allHeld(p, 7)
		count += len(all)
		if len(impl.Distances(p)) == 0 && len(all) > 0 {
			t.Errorf("Distances(%+v) returns nil, but %+v holds", p, all[0])
			continue
		}
		for i, h := range all {
			if i%7 == 0 || h.end() <= impl.PathBound(p) {
				checkHeld(t, p, h)
			}
		}
	}
	checkBool(t, "there are many schedules", count > 50000, true)
}

func TestP3NoRandomScheduleStartsOrEndsEarlierThanTheLinksPermit(t *testing.T) {
	count := 0
	for i, p := range networks() {
		for seed := range int64(2) {
			h, ok := someHeld(p, 2*int64(i)+seed)
			if ok && len(impl.Distances(p)) == 0 {
				t.Errorf("Distances(%+v) returns nil, but %+v holds", p, h)
			} else if ok {
				count++
				checkHeld(t, p, h)
			}
		}
	}
	checkBool(t, "there are many schedules", count > 3000, true)
}

func TestP3TheEarliestAndTheLatestStartsAreReached(t *testing.T) {
	for _, p := range networks() {
		earliest := impl.EarliestStarts(p)
		if len(earliest) == 0 {
			if starts, ok := startsOf(p); ok {
				t.Errorf("EarliestStarts(%+v) returns nil, but all links hold with the starts %v", p, starts)
			}
			continue
		}
		shortest, bound := shortestOf(p), impl.PathBound(p)
		if !linksHold(p, earliest, shortest) || slices.Min(earliest) < 0 || (held{earliest, shortest}).end() != bound {
			t.Errorf("EarliestStarts(%+v) = %v, which cannot hold up to %d", p, earliest, bound)
		}
		for _, n := range ints(bound, bound+1, 400) {
			latest := impl.LatestStarts(p, n)
			if !linksHold(p, latest, shortest) || slices.Min(latest) < 0 || (held{latest, shortest}).end() != n {
				t.Errorf("LatestStarts(%+v, %d) = %v, which cannot hold", p, n, latest)
			}
		}
		if len(impl.CriticalActivities(p)) == 0 {
			t.Errorf("CriticalActivities(%+v) returns none", p)
		}
	}
}

func TestP3EveryDistanceIsReached(t *testing.T) {
	for i, p := range pairings() {
		d := impl.Distances(p)
		if i%17 != 0 || len(d) == 0 {
			continue
		}
		// All gaps are from -3 to 3, so that starts up to 7 are enough.
		least := [2][2]int{{0, 7}, {7, 0}}
		for _, h := range allHeld(p, 7) {
			for a := range 2 {
				least[a][1-a] = min(least[a][1-a], h.starts[1-a]-h.starts[a])
			}
		}
		for a := range 2 {
			want := least[a][1-a]
			if want == -7 {
				want = apart
			}
			checkInt(t, callOf("the distance", p, a, 1-a), d[a][1-a], want)
			checkInt(t, callOf("the distance", p, a, a), d[a][a], 0)
		}
	}
}

func TestP15TimesWithoutPaths(t *testing.T) {
	checkTimes(t, "one activity", linked(1), times{[][]int{{0}}, ints(0), ints(1), 1, ints(0)})
	checkTimes(t, "one activity of three modes", lasting(linked(1), 0, 9, 5, 7), times{[][]int{{0}}, ints(0), ints(5), 5, ints(0)})
	checkTimes(t, "one activity of the greatest duration", lasting(linked(1), 0, 12), times{[][]int{{0}}, ints(0), ints(12), 12, ints(0)})
	checkTimes(t, "two activities", lasting(linked(2), 1, 4), times{[][]int{{0, apart}, {apart, 0}}, ints(0, 0), ints(1, 4), 4, ints(1)})
	p := linked(6)
	for a, n := range ints(3, 1, 5, 5, 2, 4) {
		p = lasting(p, a, n+1, n, 12)
	}
	var rows [][]int
	for a := range 6 {
		row := slices.Repeat(ints(apart), 6)
		row[a] = 0
		rows = append(rows, row)
	}
	checkTimes(t, "six activities", p, times{rows, slices.Repeat(ints(0), 6), ints(3, 1, 5, 5, 2, 4), 5, ints(2, 3)})
	same(t, "LatestStarts of six activities", impl.LatestStarts(p, 4), ints(1, 3, -1, -1, 2, 0))
	same(t, "Slacks of six activities", impl.Slacks(p, 4), ints(1, 3, -1, -1, 2, 0))
}

func TestP15TimesOfOneLink(t *testing.T) {
	cases := []struct {
		k        impl.Link
		distance int
		earliest []int
		tails    []int
		bound    int
		critical []int
	}{
		{before(0, 1, 4), 4, ints(0, 4), ints(7, 3), 7, ints(0, 1)},
		{before(0, 1, 1), 1, ints(0, 1), ints(4, 3), 4, ints(0, 1)},
		{before(0, 1, 0), 0, ints(0, 0), ints(3, 3), 3, ints(0, 1)},
		{before(0, 1, -1), -1, ints(0, 0), ints(2, 3), 3, ints(1)},
		{before(0, 1, -60), -60, ints(0, 0), ints(2, 3), 3, ints(1)},
		{before(0, 1, 60), 60, ints(0, 60), ints(63, 3), 63, ints(0, 1)},
		{after(0, 1, 4), 6, ints(0, 6), ints(9, 3), 9, ints(0, 1)},
		{after(0, 1, 0), 2, ints(0, 2), ints(5, 3), 5, ints(0, 1)},
		{after(0, 1, -1), 1, ints(0, 1), ints(4, 3), 4, ints(0, 1)},
		{after(0, 1, -2), 0, ints(0, 0), ints(3, 3), 3, ints(0, 1)},
		{after(0, 1, -3), -1, ints(0, 0), ints(2, 3), 3, ints(1)},
		{after(0, 1, -60), -58, ints(0, 0), ints(2, 3), 3, ints(1)},
		{after(0, 1, 60), 62, ints(0, 62), ints(65, 3), 65, ints(0, 1)},
	}
	for _, c := range cases {
		p := lasting(lasting(linked(2, c.k), 0, 5, 2, 9), 1, 3, 12)
		name := fmt.Sprintf("the link %+v", c.k)
		checkTimes(t, name, p, times{[][]int{{0, c.distance}, {apart, 0}}, c.earliest, c.tails, c.bound, c.critical})
		q := lasting(lasting(linked(2, link(1, 0, c.k.FromEnd, c.k.Lag)), 1, 5, 2, 9), 0, 3, 12)
		for _, l := range [][]int{c.earliest, c.tails} {
			slices.Reverse(l)
		}
		if len(c.critical) == 1 {
			c.critical = ints(0)
		}
		checkTimes(t, name+" in the other direction", q, times{[][]int{{0, apart}, {c.distance, 0}}, c.earliest, c.tails, c.bound, c.critical})
	}
	same(t, "LatestStarts after a tail", impl.LatestStarts(lasting(linked(2, before(0, 1, -4)), 0, 9), 10), ints(1, 9))
	same(t, "LatestStarts before a tail", impl.LatestStarts(lasting(linked(2, before(0, 1, 4)), 1, 9), 10), ints(-3, 1))
	same(t, "Slacks before a tail", impl.Slacks(lasting(linked(2, before(0, 1, 4)), 1, 9), 10), ints(-3, -3))
}

func TestP15TimesOfSeveralLinks(t *testing.T) {
	for _, order := range permutations(4) {
		all := []impl.Link{before(0, 1, 2), after(0, 1, -9), before(0, 1, -60), after(0, 1, 1)}
		p := lasting(linked(2, all[order[0]], all[order[1]], all[order[2]], all[order[3]]), 0, 2)
		checkTimes(t, fmt.Sprint("several links between two activities, in the order ", order), p, times{[][]int{{0, 3}, {apart, 0}}, ints(0, 3), ints(4, 1), 4, ints(0, 1)})
	}
	for direct, want := range map[int]int{4: 5, 5: 5, 6: 6, -60: 5, 60: 60} {
		rows := [][]int{{0, 2, want}, {apart, 0, 3}, {apart, apart, 0}}
		critical := ints(0, 2)
		if direct <= 5 {
			critical = ints(0, 1, 2)
		}
		p := lasting(linked(3, before(1, 2, 3), before(0, 2, direct), before(0, 1, 2)), 2, 7)
		checkTimes(t, fmt.Sprint("a path of 5 and a direct link of ", direct), p, times{rows, ints(0, 2, want), ints(want+7, 10, 7), want + 7, critical})
	}
	for via, want := range map[int]int{-9: -5, -8: -5, -7: -4, 2: 5} {
		p := linked(3, before(0, 1, 3), before(1, 2, via), before(0, 2, -5))
		same(t, fmt.Sprint("the distances with a gap of ", via), impl.Distances(p), [][]int{{0, 3, want}, {apart, 0, via}, {apart, apart, 0}})
	}
	join := linked(3, before(0, 1, 3), before(2, 1, -4))
	checkTimes(t, "two links to one activity", join, times{[][]int{{0, 3, apart}, {apart, 0, apart}, {apart, -4, 0}}, ints(0, 3, 0), ints(4, 1, 1), 4, ints(0, 1)})
	fork := linked(3, before(1, 0, 3), before(1, 2, -4))
	checkTimes(t, "two links from one activity", fork, times{[][]int{{0, apart, apart}, {3, 0, -4}, {apart, apart, 0}}, ints(3, 0, 0), ints(1, 4, 1), 4, ints(0, 1)})
	late := linked(3, before(0, 1, -5), before(1, 2, 3))
	checkTimes(t, "an earliest start that would be negative", late, times{[][]int{{0, -5, -2}, {apart, 0, 3}, {apart, apart, 0}}, ints(0, 0, 3), ints(1, 4, 1), 4, ints(1, 2)})
	same(t, "EarliestStarts that would all be negative", impl.EarliestStarts(linked(3, before(0, 1, -5), before(1, 2, -60), before(2, 0, -1))), ints(0, 0, 0))
}

func TestP15TimesOfTheLongestPaths(t *testing.T) {
	down, up, back := linked(6), linked(6), linked(6)
	downRows, upRows, backRows := [][]int{}, [][]int{}, [][]int{}
	for a := range 6 {
		up = lasting(up, a, 12)
		if a < 5 {
			down.Links = append(down.Links, before(a, a+1, -60), before(a, a+1, -60))
			up.Links = append(up.Links, after(a, a+1, 60))
			back.Links = append(back.Links, before(a+1, a, -60))
		}
		downRow, upRow, backRow := slices.Repeat(ints(apart), 6), slices.Repeat(ints(apart), 6), slices.Repeat(ints(apart), 6)
		for b := range 6 {
			if b >= a {
				downRow[b], upRow[b] = -60*(b-a), 72*(b-a)
			}
			if b <= a {
				backRow[b] = -60 * (a - b)
			}
		}
		downRows, upRows, backRows = append(downRows, downRow), append(upRows, upRow), append(backRows, backRow)
	}
	zeros, ones := slices.Repeat(ints(0), 6), slices.Repeat(ints(1), 6)
	checkTimes(t, "the smallest distance", down, times{downRows, zeros, ones, 1, impl.IntRange(6)})
	checkTimes(t, "the smallest distance backwards", back, times{backRows, zeros, ones, 1, impl.IntRange(6)})
	checkTimes(t, "the greatest distance", up, times{upRows, ints(0, 72, 144, 216, 288, 360), ints(372, 300, 228, 156, 84, 12), 372, impl.IntRange(6)})
	checkInt(t, "the smallest distance", impl.Distances(down)[0][5], -300)
	checkInt(t, "the smallest distance backwards", impl.Distances(back)[5][0], -300)
	checkInt(t, "the greatest distance", impl.Distances(up)[0][5], 360)
	up.Links = append(up.Links, after(4, 5, 59), after(3, 4, 0), before(0, 5, 60), after(0, 5, -60), before(2, 4, 60), before(0, 1, 0), before(0, 2, 60))
	checkTimes(t, "the greatest number of links", up, times{upRows, ints(0, 72, 144, 216, 288, 360), ints(372, 300, 228, 156, 84, 12), 372, impl.IntRange(6)})
	up.Links[11] = before(5, 0, -60)
	checkNoTimes(t, "the greatest number of links, of which the last one closes a cycle", up)
}

func TestP15TimesWithCycles(t *testing.T) {
	checkTimes(t, "a cycle of -3", linked(2, before(0, 1, 5), before(1, 0, -8)), times{[][]int{{0, 5}, {-8, 0}}, ints(0, 5), ints(6, 1), 6, ints(0, 1)})
	checkTimes(t, "a cycle of 0", linked(2, before(0, 1, 5), before(1, 0, -5)), times{[][]int{{0, 5}, {-5, 0}}, ints(0, 5), ints(6, 1), 6, ints(0, 1)})
	checkTimes(t, "a cycle of negative gaps", linked(2, before(0, 1, -2), before(1, 0, -3)), times{[][]int{{0, -2}, {-3, 0}}, ints(0, 0), ints(1, 1), 1, ints(0, 1)})
	checkNoTimes(t, "a cycle of 1", linked(2, before(0, 1, 5), before(1, 0, -4)))
	for sum := -1; sum <= 0; sum++ {
		// The activities 1, 2 and 3 form a cycle, into which a link leads at 1 and from which one leads at 3 and one, in the middle, at 2.
		p := linked(6, before(0, 1, 4), before(1, 2, 3), before(2, 3, -1), before(3, 1, sum-2), before(3, 4, 2), before(2, 5, 0))
		rows := [][]int{
			{0, 4, 7, 6, 8, 7},
			{apart, 0, 3, 2, 4, 3},
			{apart, sum - 3, 0, -1, 1, 0},
			{apart, sum - 2, sum + 1, 0, 2, sum + 1},
			{apart, apart, apart, apart, 0, apart},
			{apart, apart, apart, apart, apart, 0},
		}
		checkTimes(t, fmt.Sprint("a cycle of ", sum, " on a path"), p, times{rows, ints(0, 4, 7, 6, 8, 7), ints(9, 5, 2, 3, 1, 1), 9, ints(0, 1, 2, 3, 4)})
	}
	checkNoTimes(t, "a cycle of 1 on a path", linked(6, before(0, 1, 4), before(1, 2, 3), before(2, 3, -1), before(3, 1, -1), before(3, 4, 2), before(2, 5, 0)))
	checkNoTimes(t, "a cycle apart", linked(4, before(2, 3, 1), before(3, 2, 0)))
	checkNoTimes(t, "a cycle through all", ring(1))
	checkNoTimes(t, "a cycle of the greatest lags", linked(2, after(0, 1, 60), after(1, 0, 60)))
	for lag, ok := range map[int]bool{-4: true, -3: true, -2: true, -1: false, 0: false} {
		p := lasting(linked(2, after(0, 1, 0), before(1, 0, lag)), 0, 5, 2, 3)
		checkBool(t, callOf("Distances after the shortest of three modes", lag), len(impl.Distances(p)) == 2, ok)
	}
	for sum := -1; sum <= 0; sum++ {
		p := ring(sum)
		d := impl.Distances(p)
		for a := range 6 {
			for n := range 6 {
				b := (a + n) % 6
				want := sum * b2i(a+n > 5)
				checkInt(t, fmt.Sprint("the distance in a ring of ", sum, " from ", a, " to ", b), d[a][b], want)
			}
		}
	}
}

func TestP15CriticalActivities(t *testing.T) {
	cases := []struct {
		name string
		p    impl.Project
		want []int
	}{
		{"one path", lasting(linked(4, after(0, 1, 0), after(1, 3, 0), after(0, 2, 0), after(2, 3, 0)), 1, 3, 2), ints(0, 1, 3)},
		{"two paths", lasting(lasting(linked(4, after(0, 1, 0), after(1, 3, 0), after(0, 2, 0), after(2, 3, 0)), 1, 3, 2), 2, 2, 4), ints(0, 1, 2, 3)},
		{"two paths apart", linked(4, before(3, 0, 5), before(2, 1, 5)), ints(0, 1, 2, 3)},
		{"a path that is one shorter", linked(4, before(3, 0, 5), before(2, 1, 4)), ints(0, 3)},
		{"the last one only", lasting(linked(3, before(0, 1, -2), before(1, 2, -2)), 2, 8), ints(2)},
		{"the first one only", lasting(linked(3, before(0, 1, 2), before(1, 2, 2)), 0, 8), ints(0)},
		{"the middle one only", lasting(linked(3, before(0, 1, -1), before(1, 2, 2)), 1, 8), ints(1)},
		{"a wait in between", linked(3, before(0, 1, 9), before(1, 2, -9)), ints(0, 1)},
		{"a greatest lag that binds", linked(3, before(0, 1, 9), before(1, 2, -9), before(2, 0, 0)), ints(0, 1, 2)},
		{"a greatest lag that does not bind", linked(3, before(0, 1, 9), before(1, 2, -9), before(2, 0, -1)), ints(0, 1)},
		{"all", linked(3), ints(0, 1, 2)},
		{"none, as a cycle is positive", linked(3, before(0, 1, 9), before(1, 0, -8)), nil},
		{"none, as no project is valid without activities", linked(0), nil},
	}
	for _, c := range cases {
		same(t, "CriticalActivities with "+c.name, impl.CriticalActivities(c.p), c.want)
	}
}

func TestP15TailLengthTable(t *testing.T) {
	p := linked(6, after(0, 1, 1), after(1, 2, 0), before(0, 3, -5), before(4, 3, -20), before(4, 0, 0))
	for a, n := range ints(3, 2, 4, 12, 5, 6) {
		p = lasting(p, a, 12, n)
	}
	for a, want := range ints(10, 6, 4, 12, 10, 6) {
		checkInt(t, callOf("TailLength", a), impl.TailLength(p, a), want)
	}
	for _, a := range append(noIndexes(), 6, 7) {
		checkInt(t, callOf("TailLength", a), impl.TailLength(p, a), 0)
		checkInt(t, callOf("TailLength in a project of one activity", a), impl.TailLength(linked(1), a), 0)
	}
	for n := 1; n <= 6; n++ {
		checkInt(t, callOf("TailLength of the last activity", n), impl.TailLength(chain(n), n-1), 1)
		checkInt(t, callOf("TailLength after the last activity", n), impl.TailLength(chain(n), n), 0)
	}
}

func TestP15LatestStartsTable(t *testing.T) {
	p := linked(4, after(0, 1, 2), before(2, 1, -1), after(1, 2, -9))
	for a, n := range ints(3, 4, 7, 2) {
		p = lasting(p, a, n, n+1)
	}
	same(t, "Distances", impl.Distances(p), [][]int{{0, 5, 0, apart}, {apart, 0, -5, apart}, {apart, -1, 0, apart}, {apart, apart, apart, 0}})
	same(t, "EarliestStarts", impl.EarliestStarts(p), ints(0, 5, 0, 0))
	checkInt(t, "PathBound", impl.PathBound(p), 9)
	cases := []struct {
		t      int
		latest []int
		slacks []int
	}{
		{math.MinInt + 9, ints(math.MinInt, math.MinInt+5, math.MinInt+2, math.MinInt+7), ints(math.MinInt, math.MinInt, math.MinInt+2, math.MinInt+7)},
		{-60, ints(-69, -64, -67, -62), ints(-69, -69, -67, -62)},
		{-1, ints(-10, -5, -8, -3), ints(-10, -10, -8, -3)},
		{0, ints(-9, -4, -7, -2), ints(-9, -9, -7, -2)},
		{1, ints(-8, -3, -6, -1), ints(-8, -8, -6, -1)},
		{8, ints(-1, 4, 1, 6), ints(-1, -1, 1, 6)},
		{9, ints(0, 5, 2, 7), ints(0, 0, 2, 7)},
		{10, ints(1, 6, 3, 8), ints(1, 1, 3, 8)},
		{60, ints(51, 56, 53, 58), ints(51, 51, 53, 58)},
		{61, ints(52, 57, 54, 59), ints(52, 52, 54, 59)},
		{100000, ints(99991, 99996, 99993, 99998), ints(99991, 99991, 99993, 99998)},
	}
	for _, c := range cases {
		same(t, callOf("LatestStarts", c.t), impl.LatestStarts(p, c.t), c.latest)
		same(t, callOf("Slacks", c.t), impl.Slacks(p, c.t), c.slacks)
	}
}

func TestP15LatestStartsForTheSmallestAndTheGreatestInt(t *testing.T) {
	count := 0
	for _, p := range networks() {
		x, ok := timesOf(p)
		if !ok {
			continue
		}
		ends := shortestOf(p)
		beyond := false
		for _, row := range x.distances {
			for b, n := range row {
				beyond = beyond || n != apart && n+ends[b] <= 0
			}
		}
		for _, n := range ints(math.MinInt, math.MaxInt) {
			latest, slacks := impl.LatestStarts(p, n), impl.Slacks(p, n)
			checkInt(t, callOf("the number of LatestStarts", p, n), len(latest), len(p.Activities))
			checkInt(t, callOf("the number of Slacks", p, n), len(slacks), len(p.Activities))
			// Where only some of the differences leave the range of int, the document does not say whether they wrap around before the smallest one is chosen.
			if !beyond {
				count++
				want := latestOf(p, x.distances, n)
				same(t, callOf("LatestStarts", p, n), latest, want)
				same(t, callOf("Slacks", p, n), slacks, slacksOf(want, x.earliest))
			}
		}
	}
	checkBool(t, "there are many projects", count > 2000, true)
	p := lasting(lasting(linked(2, after(0, 1, 1)), 0, 3), 1, 2, 9)
	same(t, "LatestStarts for the greatest int", impl.LatestStarts(p, math.MaxInt), ints(math.MaxInt-6, math.MaxInt-2))
	same(t, "Slacks for the greatest int", impl.Slacks(p, math.MaxInt), ints(math.MaxInt-6, math.MaxInt-6))
	same(t, "LatestStarts for the smallest int", impl.LatestStarts(p, math.MinInt), ints(math.MaxInt-5, math.MaxInt-1))
	same(t, "Slacks for the smallest int", impl.Slacks(p, math.MinInt), ints(math.MaxInt-5, math.MaxInt-5))
}

func TestP15Times(t *testing.T) {
	failed := 0
	for _, p := range networks() {
		name := fmt.Sprintf("the project %+v", p)
		x, ok := timesOf(p)
		if ok {
			checkTimes(t, name, p, x)
		} else {
			failed++
			checkNoTimes(t, name, p)
		}
	}
	checkBool(t, "there are projects whose links cannot hold", failed > 0, true)
}

func TestP15TimesOfProjectsThatAreNotValid(t *testing.T) {
	for _, v := range badNetworks() {
		checkNoTimes(t, v.name, v.p)
	}
}

func TestP15TimesDoNotDependOnTheDeadline(t *testing.T) {
	p := lasting(linked(3, after(0, 1, 3), after(1, 2, -2)), 2, 9, 5)
	want, _ := timesOf(p)
	for deadline := 1; deadline <= 60; deadline++ {
		p.Deadline = deadline
		checkTimes(t, fmt.Sprint("the Deadline ", deadline), p, want)
	}
}

func TestP15NilAndEmptyListsOfTimesAreEqual(t *testing.T) {
	p, q := chain(2), deepCopy(chain(2))
	if p.Links != nil || q.Links == nil || p.Resources != nil || q.Resources == nil {
		t.Fatal("the lists are not as this test needs them")
	}
	for _, r := range []impl.Project{p, q} {
		checkTimes(t, "no links", r, times{[][]int{{0, apart}, {apart, 0}}, ints(0, 0), ints(1, 1), 1, ints(0, 1)})
	}
}

func TestP15TimesAreLeftAlone(t *testing.T) {
	all := []impl.Project{ring(0), ring(1), linked(4, before(2, 0, 1), after(1, 2, 0)), linked(2, before(0, 1, 1), before(1, 0, -1)), linked(1)}
	for _, v := range variants() {
		all = append(all, v.p)
	}
	for _, v := range all {
		p, kept := roomy(v)
		rows := impl.Distances(p)
		checkNew(t, "Distances", rows, p)
		for _, row := range rows {
			overwrite(row, -9)
		}
		overwrite(rows, nil)
		for _, l := range [][]int{impl.EarliestStarts(p), impl.LatestStarts(p, 30), impl.CriticalActivities(p), impl.Slacks(p, 30)} {
			checkNew(t, "EarliestStarts, LatestStarts, CriticalActivities or Slacks", l, p)
			overwrite(l, -9)
		}
		impl.PathBound(p)
		impl.TailLength(p, 0)
		if !kept() {
			t.Errorf("a function of chapter 9 changes its argument, %+v", v)
		}
	}
}

func TestP15TimesKeepNoState(t *testing.T) {
	type results struct {
		distances                          [][]int
		earliest, latest, critical, slacks []int
		bound, tail                        int
	}
	p := linked(3, before(0, 1, 3), before(1, 2, -2))
	call := func() results {
		return results{impl.Distances(p), impl.EarliestStarts(p), impl.LatestStarts(p, 6), impl.CriticalActivities(p), impl.Slacks(p, 6), impl.PathBound(p), impl.TailLength(p, 0)}
	}
	want := results{[][]int{{0, 3, 1}, {apart, 0, -2}, {apart, apart, 0}}, ints(0, 3, 1), ints(2, 5, 5), ints(0, 1), ints(2, 2, 4), 4, 4}
	for range 3 {
		got := call()
		if !reflect.DeepEqual(got, want) {
			t.Errorf("the functions of chapter 9 return %+v, want %+v", got, want)
		}
		for _, l := range append(got.distances, got.earliest, got.latest, got.critical, got.slacks) {
			overwrite(l, -9)
		}
		impl.Distances(ring(1))
		impl.LatestStarts(linked(6, before(5, 0, 60)), 9)
	}
}
