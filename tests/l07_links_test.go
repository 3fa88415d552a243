package tests

import (
	"fmt"
	"math"
	"math/bits"
	"math/rand"
	"reflect"
	"slices"
	"testing"

	"loop.example/g00806/impl"
)

// linked is a chain of activities, each with one mode of the duration 1, with these links.
func linked(activities int, links ...impl.Link) impl.Project {
	p := chain(activities)
	p.Links = links
	return p
}

// before is a link from the start of an activity, whose gap is therefore its lag.
func before(from, to, lag int) impl.Link {
	return link(from, to, false, lag)
}

// after is a link from the end of an activity.
func after(from, to, lag int) impl.Link {
	return link(from, to, true, lag)
}

// lasting gives an activity one mode for each of the durations.
func lasting(p impl.Project, a int, durations ...int) impl.Project {
	p.Activities[a].Modes = nil
	for _, n := range durations {
		p.Activities[a].Modes = append(p.Activities[a].Modes, mode(n, nil, nil))
	}
	return p
}

// network is a project with random links, the same for the same seed.
// Its lags follow from planned starts, and differ from them by little, so that the sums of its cycles are close to 0.
func network(seed int64) impl.Project {
	r := rand.New(rand.NewSource(seed))
	n := 1 + r.Intn(6)
	p := chain(n)
	starts := make([]int, n)
	for i := range n {
		starts[i] = r.Intn(6)
		var durations []int
		for range 1 + r.Intn(3) {
			durations = append(durations, 1+r.Intn(5))
		}
		p = lasting(p, i, durations...)
	}
	spread := 2 + r.Intn(5)
	for range r.Intn(13) * b2i(n > 1) {
		from := r.Intn(n)
		to := (from + 1 + r.Intn(n-1)) % n
		k := link(from, to, r.Intn(2) == 0, starts[to]-starts[from]-r.Intn(spread)+1)
		if k.FromEnd {
			k.Lag -= slices.Min(durationsOf(p, from))
		}
		p.Links = append(p.Links, k)
	}
	return p
}

// ring is a cycle through all of six activities with two links from each one to the next, of which the second one is longer by 1.
// The sum of the second links is as stated.
func ring(sum int) impl.Project {
	var links []impl.Link
	for i := range 12 {
		links = append(links, before(i%6, (i+1)%6, i/6-1))
	}
	links[11].Lag += sum
	return linked(6, links...)
}

// pairings are all projects of two activities with up to three links of some kinds.
func pairings() []impl.Project {
	var kinds []impl.Link
	for _, lag := range ints(-3, -2, 0, 1) {
		for from := range 2 {
			kinds = append(kinds, before(from, 1-from, lag), after(from, 1-from, lag))
		}
	}
	var all []impl.Project
	lists := [][]impl.Link{nil}
	for at := 0; at < len(lists); at++ {
		all = append(all, lasting(lasting(linked(2, lists[at]...), 0, 3, 2), 1, 1, 4, 2))
		for _, k := range kinds {
			if len(lists[at]) < 3 {
				lists = append(lists, append(slices.Clone(lists[at]), k))
			}
		}
	}
	return all
}

// networks are the valid projects with which the tests of links compare results.
func networks() []impl.Project {
	all := append(pairings(), ring(0), ring(1), ring(-1))
	for _, v := range chosen(true) {
		all = append(all, v.p)
	}
	for seed := range int64(6000) {
		all = append(all, network(seed))
	}
	for seed := range int64(500) {
		all = append(all, randomProject(seed))
	}
	return all
}

// badNetworks are the projects that are not valid with which the tests of links call every function.
func badNetworks() []variant {
	all := chosen(false)
	add := func(name string, p impl.Project) {
		all = append(all, variant{name, false, p})
	}
	for i, p := range []impl.Project{linked(1), linked(2, before(0, 1, 1)), linked(2, before(0, 1, 2), after(1, 0, 3)), ring(0), ring(1)} {
		for _, deadline := range ints(math.MinInt, -1, 0, 61, math.MaxInt) {
			q := deepCopy(p)
			q.Deadline = deadline
			add(fmt.Sprint("the Deadline ", deadline, " and the links of project ", i), q)
		}
		q := deepCopy(p)
		q.Links = append(q.Links, before(0, len(q.Activities), 1))
		add(fmt.Sprint("a link to no activity and the links of project ", i), q)
	}
	for sum := range 2 {
		q := ring(sum)
		q.Links = append(q.Links, before(0, 1, -60))
		add(fmt.Sprint("13 links with a sum of ", sum), q)
	}
	add("very many links", linked(2, slices.Repeat([]impl.Link{before(0, 1, 1)}, 100000)...))
	add("very many links in both directions", linked(2, slices.Repeat([]impl.Link{before(0, 1, 1), before(1, 0, 1)}, 50000)...))
	add("very many activities", linked(100000))
	return all
}

func durationsOf(p impl.Project, a int) []int {
	var all []int
	for _, m := range p.Activities[a].Modes {
		all = append(all, m.Duration)
	}
	return all
}

// gapAt is the gap of a link with all modes.
func gapAt(p impl.Project, k int) int {
	if p.Links[k].FromEnd {
		return p.Links[k].Lag + slices.Min(durationsOf(p, p.Links[k].From))
	}
	return p.Links[k].Lag
}

func gapSum(p impl.Project, links []int) int {
	sum := 0
	for _, k := range links {
		sum += gapAt(p, k)
	}
	return sum
}

// cycleIn returns the cycle that a set of links forms, if it does, from its smallest link on.
func cycleIn(p impl.Project, set int) ([]int, bool) {
	leaving := map[int]int{}
	for k := range p.Links {
		if set>>k&1 == 1 {
			leaving[p.Links[k].From] = k
		}
	}
	first := bits.TrailingZeros(uint(set))
	cycle := []int{first}
	for {
		next, ok := leaving[p.Links[cycle[len(cycle)-1]].To]
		if !ok || len(cycle) > len(p.Activities) {
			return nil, false
		}
		if next == first {
			return cycle, len(cycle) == bits.OnesCount(uint(set))
		}
		cycle = append(cycle, next)
	}
}

// bestCycle looks at every set of links for the cycle that chapter 8 asks for.
func bestCycle(p impl.Project) []int {
	var best []int
	for set := 1; set < 1<<len(p.Links); set++ {
		if bits.OnesCount(uint(set)) > len(p.Activities) {
			continue
		}
		cycle, ok := cycleIn(p, set)
		if !ok || gapSum(p, cycle) <= 0 {
			continue
		}
		if best == nil || len(cycle) < len(best) || len(cycle) == len(best) && slices.Compare(cycle, best) < 0 {
			best = cycle
		}
	}
	return best
}

// startsOf raises starts until all links hold in the shortest modes; with a positive cycle this would never end.
func startsOf(p impl.Project) ([]int, bool) {
	starts := make([]int, len(p.Activities))
	for range len(p.Activities) + 1 {
		raised := false
		for k, l := range p.Links {
			if n := starts[l.From] + gapAt(p, k); starts[l.To] < n {
				starts[l.To], raised = n, true
			}
		}
		if !raised {
			return starts, true
		}
	}
	return nil, false
}

// linksHold reports whether starts and durations satisfy all links, as chapter 6 describes them.
func linksHold(p impl.Project, starts, durations []int) bool {
	for _, k := range p.Links {
		from := starts[k.From]
		if k.FromEnd {
			from += durations[k.From]
		}
		if starts[k.To] < from+k.Lag {
			return false
		}
	}
	return true
}

// permutations of 0 to n - 1, in lexicographic order.
func permutations(n int) [][]int {
	lists := [][]int{nil}
	for range n {
		var longer [][]int
		for _, l := range lists {
			for e := range n {
				if !isIn(l, e) {
					longer = append(longer, append(slices.Clone(l), e))
				}
			}
		}
		lists = longer
	}
	return lists
}

// firstOrder is the lexicographically first of the orders in which no link with a positive gap leads back.
func firstOrder(p impl.Project, orders [][]int) ([]int, bool) {
	for _, order := range orders {
		ordered := true
		for k, l := range p.Links {
			if gapAt(p, k) > 0 && slices.Index(order, l.From) > slices.Index(order, l.To) {
				ordered = false
			}
		}
		if ordered {
			return order, true
		}
	}
	return nil, false
}

// paths tells from which activity which one can be reached by one or more links.
func paths(p impl.Project) [6][6]bool {
	var m [6][6]bool
	for _, k := range p.Links {
		m[k.From][k.To] = true
	}
	for via := range 6 {
		for a := range 6 {
			for b := range 6 {
				m[a][b] = m[a][b] || m[a][via] && m[via][b]
			}
		}
	}
	return m
}

// noIndexes are indices of nothing in any valid project.
func noIndexes() []int {
	return ints(math.MinInt, math.MinInt+1, -13, -2, -1, 12, 13, math.MaxInt-1, math.MaxInt)
}

func checkCycle(t *testing.T, name string, p impl.Project, want ...int) {
	t.Helper()
	same(t, "PositiveCycle with "+name, impl.PositiveCycle(p), want)
}

func checkOrder(t *testing.T, name string, p impl.Project, want ...int) {
	t.Helper()
	got, ok := impl.TopologicalOrder(p)
	same(t, "TopologicalOrder with "+name, got, want)
	checkBool(t, "TopologicalOrder with "+name, ok, len(want) > 0)
}

func TestP3APositiveCycleCannotBeSatisfied(t *testing.T) {
	lengths := map[int]int{}
	for _, p := range networks() {
		cycle := impl.PositiveCycle(p)
		lengths[len(cycle)]++
		if len(cycle) == 0 {
			continue
		}
		visited := map[int]bool{}
		for i, k := range cycle {
			previous := cycle[(i+len(cycle)-1)%len(cycle)]
			if p.Links[previous].To != p.Links[k].From || k < cycle[0] || visited[p.Links[k].From] {
				t.Errorf("PositiveCycle(%+v) = %v, which is no cycle from its smallest link on", p, cycle)
			}
			visited[p.Links[k].From] = true
		}
		// The sum of all differences of starts in a cycle is 0, so that one of its links does not hold.
		if gapSum(p, cycle) <= 0 {
			t.Errorf("PositiveCycle(%+v) = %v, whose sum is %d", p, cycle, gapSum(p, cycle))
		}
		if starts, ok := startsOf(p); ok {
			t.Errorf("PositiveCycle(%+v) = %v, but all links hold with the starts %v", p, cycle, starts)
		}
	}
	for _, n := range ints(0, 2, 3, 4, 5, 6) {
		checkBool(t, fmt.Sprint("the projects have cycles of length ", n), lengths[n] > 0, true)
	}
}

func TestP3WithoutAPositiveCycleAllLinksHoldAndAllActivitiesAreOrdered(t *testing.T) {
	for _, p := range networks() {
		if len(impl.PositiveCycle(p)) > 0 {
			continue
		}
		order, ok := impl.TopologicalOrder(p)
		if !ok || !slices.Equal(slices.Sorted(slices.Values(order)), impl.IntRange(len(p.Activities))) {
			t.Errorf("TopologicalOrder(%+v) = %v, %v, but there is no positive cycle", p, order, ok)
		}
		for k, l := range p.Links {
			if gapAt(p, k) > 0 && slices.Index(order, l.From) > slices.Index(order, l.To) {
				t.Errorf("TopologicalOrder(%+v) = %v, against link %d", p, order, k)
			}
		}
		var shortest []int
		for a := range p.Activities {
			shortest = append(shortest, slices.Min(durationsOf(p, a)))
		}
		starts, ok := startsOf(p)
		if !ok || !linksHold(p, starts, shortest) {
			t.Errorf("PositiveCycle(%+v) returns none, but the links cannot hold", p)
		}
	}
}

// canHold tries all starts up to most, in all modes.
func canHold(p impl.Project, most int) bool {
	tries := [][2][]int{{}}
	for a := range p.Activities {
		var longer [][2][]int
		for _, x := range tries {
			for start := range most + 1 {
				for _, n := range durationsOf(p, a) {
					longer = append(longer, [2][]int{append(slices.Clone(x[0]), start), append(slices.Clone(x[1]), n)})
				}
			}
		}
		tries = longer
	}
	return slices.ContainsFunc(tries, func(x [2][]int) bool { return linksHold(p, x[0], x[1]) })
}

func TestP3LinksHoldForSomeStartsUnlessThereIsAPositiveCycle(t *testing.T) {
	for i, p := range pairings() {
		// A gap is at most 3, so that starts up to 3 are enough.
		if i%5 == 0 && canHold(p, 3) != (len(impl.PositiveCycle(p)) == 0) {
			t.Errorf("PositiveCycle(%+v) = %v", p, impl.PositiveCycle(p))
		}
	}
	checkBool(t, "a cycle of 0 can be satisfied", canHold(linked(3, before(0, 1, 1), before(1, 2, -3), before(2, 0, 2)), 3), true)
	checkBool(t, "a cycle of 1 can be satisfied", canHold(linked(3, before(0, 1, 1), before(1, 2, -3), before(2, 0, 3)), 5), false)
	checkCycle(t, "a sum of 0 in three links", linked(3, before(0, 1, 1), before(1, 2, -3), before(2, 0, 2)))
	checkCycle(t, "a sum of 1 in three links", linked(3, before(0, 1, 1), before(1, 2, -3), before(2, 0, 3)), 0, 1, 2)
}

func TestP15LinkGapTable(t *testing.T) {
	p := linked(3, before(0, 1, 7), after(0, 1, 7), after(1, 0, -60), after(2, 0, 60), after(0, 2, 0), before(1, 0, -60), before(2, 1, 60), after(2, 1, -1), before(0, 2, 0))
	p = lasting(lasting(lasting(p, 0, 5, 2, 9), 1, 4), 2, 1, 12)
	cases := []struct {
		k     int
		modes []int
		want  int
	}{
		{0, nil, 7}, {0, ints(0), 7}, {0, ints(0, 1, 2), 7}, {0, ints(-1, 3), 7},
		{1, nil, 7}, {1, ints(), 7}, {1, ints(0), 12}, {1, ints(1), 9}, {1, ints(2), 16}, {1, ints(0, 1, 2), 9},
		{1, ints(0, 2), 12}, {1, ints(2, 0), 12}, {1, ints(2, 1, 0), 9}, {1, ints(2, 2), 16}, {1, ints(0, 0, 2, 2), 12},
		{1, ints(3), 7}, {1, ints(-1), 7}, {1, ints(-1, 2, 3), 16}, {1, ints(math.MinInt, math.MaxInt), 7}, {1, ints(math.MaxInt, 0, math.MinInt), 12},
		{2, nil, -60}, {2, ints(0), -56}, {2, ints(1), -60}, {2, ints(1, 0), -56}, {2, ints(0, 1, 2), -56},
		{3, nil, 60}, {3, ints(0), 61}, {3, ints(1), 72}, {3, ints(1, 0), 61}, {3, ints(2), 60},
		{4, nil, 0}, {4, ints(0), 5}, {4, ints(1), 2}, {4, ints(2), 9},
		{5, ints(0), -60}, {6, ints(0, 1), 60},
		{7, ints(), -1}, {7, ints(0), 0}, {7, ints(1), 11},
		{8, ints(0, 1, 2), 0},
	}
	for _, c := range cases {
		checkInt(t, callOf("LinkGap", c.k, c.modes), impl.LinkGap(p, c.k, c.modes), c.want)
	}
	for _, k := range append(noIndexes(), 9, 10, 11) {
		for _, modes := range [][]int{nil, ints(0), ints(0, 1, 2), ints(k)} {
			checkInt(t, callOf("LinkGap", k, modes), impl.LinkGap(p, k, modes), 0)
			checkInt(t, callOf("LinkGap without links", k, modes), impl.LinkGap(chain(2), k, modes), 0)
			checkInt(t, callOf("LinkGap of the last link but", k, modes), impl.LinkGap(linked(2, before(0, 1, 3)), k, modes), 0)
		}
	}
}

func TestP15LinkGap(t *testing.T) {
	lists := append(listsOf(ints(0, 1, 2), 3), listsOf(ints(-1, 0, 3), 2)...)
	for _, p := range networks() {
		for k, l := range p.Links {
			checkInt(t, callOf("LinkGap with all modes", p, k), impl.LinkGap(p, k, impl.ModeIndexes(p.Activities[l.From])), gapAt(p, k))
		}
	}
	for seed := range int64(300) {
		p := network(seed)
		for k, l := range p.Links {
			for _, modes := range lists {
				want, found := 0, false
				for i, n := range durationsOf(p, l.From) {
					if isIn(modes, i) && (!found || n < want) {
						want, found = n, true
					}
				}
				checkInt(t, callOf("LinkGap", p, k, modes), impl.LinkGap(p, k, modes), l.Lag+want*b2i(l.FromEnd))
			}
		}
	}
}

func TestP15NeighborsTable(t *testing.T) {
	p := linked(5, before(3, 1, 0), after(3, 0, -60), before(0, 3, 5), before(3, 1, 4), after(1, 2, 60), before(3, 2, -1), after(3, 1, 0))
	successors := [][]int{ints(3), ints(2), nil, ints(0, 1, 2), nil}
	predecessors := [][]int{ints(3), ints(3), ints(1, 3), ints(0), nil}
	for a := range 5 {
		same(t, callOf("Successors", a), impl.Successors(p, a), successors[a])
		same(t, callOf("Predecessors", a), impl.Predecessors(p, a), predecessors[a])
	}
	same(t, "Roots", impl.Roots(p), ints(4))
	for _, a := range append(noIndexes(), 5, 6) {
		same(t, callOf("Successors", a), impl.Successors(p, a), nil)
		same(t, callOf("Predecessors", a), impl.Predecessors(p, a), nil)
	}
	for n := 1; n <= 6; n++ {
		same(t, callOf("Roots of unlinked activities", n), impl.Roots(chain(n)), impl.IntRange(n))
		for a := range n {
			same(t, callOf("Successors without links", n, a), impl.Successors(chain(n), a), nil)
			same(t, callOf("Predecessors without links", n, a), impl.Predecessors(chain(n), a), nil)
		}
	}
	same(t, "Roots with one link", impl.Roots(linked(3, before(2, 1, 1))), ints(0, 2))
	same(t, "Roots with one link of a negative gap", impl.Roots(linked(3, before(2, 0, -60))), ints(1, 2))
	same(t, "Roots of a cycle", impl.Roots(linked(2, before(1, 0, 0), before(0, 1, -9))), nil)
	same(t, "Roots of a ring", impl.Roots(ring(0)), nil)
	same(t, "Successors in a ring", impl.Successors(ring(0), 5), ints(0))
	same(t, "Predecessors in a ring", impl.Predecessors(ring(0), 0), ints(5))
}

func TestP15Neighbors(t *testing.T) {
	for _, p := range networks() {
		var roots []int
		for a := range p.Activities {
			var to, from []int
			for b := range p.Activities {
				if slices.ContainsFunc(p.Links, func(k impl.Link) bool { return k.From == a && k.To == b }) {
					to = append(to, b)
				}
				if slices.ContainsFunc(p.Links, func(k impl.Link) bool { return k.From == b && k.To == a }) {
					from = append(from, b)
				}
			}
			if len(from) == 0 {
				roots = append(roots, a)
			}
			same(t, callOf("Successors", p, a), impl.Successors(p, a), to)
			same(t, callOf("Predecessors", p, a), impl.Predecessors(p, a), from)
		}
		same(t, callOf("Roots", p), impl.Roots(p), roots)
		same(t, callOf("Successors", p, len(p.Activities)), impl.Successors(p, len(p.Activities)), nil)
		same(t, callOf("Predecessors", p, len(p.Activities)), impl.Predecessors(p, len(p.Activities)), nil)
	}
}

func TestP15IsReachableTable(t *testing.T) {
	p := linked(6, before(1, 0, -60), after(0, 3, 0), before(3, 1, 0), before(3, 4, 9), before(5, 4, 1), before(1, 4, 0))
	// 0, 3 and 1 form a cycle, so that each of them reaches itself.
	want := []string{
		"##.##.",
		"##.##.",
		"......",
		"##.##.",
		"......",
		"....#.",
	}
	for a := range 6 {
		for b := range 6 {
			checkBool(t, callOf("IsReachable", a, b), impl.IsReachable(p, a, b), want[a][b] == '#')
		}
	}
	for _, a := range append(noIndexes(), 6, 7) {
		for b := range 6 {
			checkBool(t, callOf("IsReachable", a, b), impl.IsReachable(p, a, b), false)
			checkBool(t, callOf("IsReachable", b, a), impl.IsReachable(p, b, a), false)
		}
		checkBool(t, callOf("IsReachable", a, a), impl.IsReachable(p, a, a), false)
	}
	for a := range 6 {
		for b := range 6 {
			checkBool(t, callOf("IsReachable without links", a, b), impl.IsReachable(chain(6), a, b), false)
			checkBool(t, callOf("IsReachable in a ring", a, b), impl.IsReachable(ring(0), a, b), true)
		}
	}
	one := linked(2, before(0, 1, 0))
	checkBool(t, "IsReachable by one link", impl.IsReachable(one, 0, 1), true)
	checkBool(t, "IsReachable against one link", impl.IsReachable(one, 1, 0), false)
	checkBool(t, "IsReachable from an activity to itself", impl.IsReachable(one, 0, 0), false)
	path := linked(6, before(4, 5, 0), before(3, 4, 0), before(2, 3, 0), before(1, 2, 0), before(0, 1, 0))
	for a := range 6 {
		for b := range 6 {
			checkBool(t, callOf("IsReachable on a path", a, b), impl.IsReachable(path, a, b), a < b)
		}
	}
}

func TestP15IsReachable(t *testing.T) {
	for _, p := range networks() {
		m := paths(p)
		n := len(p.Activities)
		for a := -1; a <= n; a++ {
			for b := -1; b <= n; b++ {
				want := a >= 0 && b >= 0 && a < n && b < n && m[a][b]
				if got := impl.IsReachable(p, a, b); got != want {
					t.Errorf("IsReachable(%+v, %d, %d) = %v", p, a, b, got)
				}
			}
		}
	}
}

func TestP15PositiveCycleOfTwoLinks(t *testing.T) {
	checkCycle(t, "one activity", chain(1))
	checkCycle(t, "no links", chain(6))
	checkCycle(t, "one link", linked(2, before(0, 1, 60)))
	checkCycle(t, "links in one direction", linked(2, before(0, 1, 60), after(0, 1, 60), before(0, 1, 1)))
	checkCycle(t, "a sum of -1", linked(2, before(0, 1, 4), before(1, 0, -5)))
	checkCycle(t, "a sum of 0", linked(2, before(0, 1, 5), before(1, 0, -5)))
	checkCycle(t, "a sum of 1", linked(2, before(0, 1, 6), before(1, 0, -5)), 0, 1)
	checkCycle(t, "a sum of 1 and links exchanged", linked(2, before(1, 0, -5), before(0, 1, 6)), 0, 1)
	checkCycle(t, "the greatest lags", linked(2, after(0, 1, 60), after(1, 0, 60)), 0, 1)
	checkCycle(t, "the smallest lags", linked(2, after(0, 1, -60), after(1, 0, -60)))
	checkCycle(t, "opposite lags", linked(2, before(0, 1, 60), before(1, 0, -60)))
	checkCycle(t, "opposite lags from an end", linked(2, after(0, 1, 60), before(1, 0, -60)), 0, 1)
	for lag, ok := range map[int]bool{-9: false, -3: false, -2: false, -1: true, 0: true, 5: true} {
		p := lasting(lasting(linked(2, after(0, 1, 0), before(1, 0, lag)), 0, 5, 2, 3), 1, 9)
		checkBool(t, callOf("PositiveCycle after the shortest of three modes", lag), len(impl.PositiveCycle(p)) > 0, ok)
		p = lasting(lasting(linked(2, before(0, 1, lag), after(1, 0, -4)), 0, 9), 1, 8, 7, 6)
		checkBool(t, callOf("PositiveCycle with another end", lag), len(impl.PositiveCycle(p)) > 0, lag > -2)
	}
	several := linked(2, before(0, 1, 2), before(0, 1, 3), before(1, 0, -3), before(1, 0, -2), before(1, 0, -1))
	checkCycle(t, "several links, of which the first one has a positive cycle with the last one", several, 0, 4)
	several.Links[0].Lag = 1
	checkCycle(t, "several links, of which the second one decides", several, 1, 3)
	several.Links[1].Lag = 1
	checkCycle(t, "several links with sums of 0", several)
	checkCycle(t, "several links in the other order", linked(2, before(1, 0, -3), before(1, 0, -1), before(0, 1, 2), before(0, 1, 3), before(0, 1, 4)), 0, 4)
}

func TestP15PositiveCycleOfTheFewestLinks(t *testing.T) {
	checkCycle(t, "another rotation that begins at a smaller activity", linked(3, before(2, 0, 1), before(0, 1, 1), before(1, 2, 1)), 0, 1, 2)
	checkCycle(t, "links that are not in the order of the cycle", linked(3, before(1, 2, 1), before(0, 1, 1), before(2, 0, 1)), 0, 2, 1)
	checkCycle(t, "a smaller link that is not in the cycle", linked(4, before(0, 3, 9), before(2, 1, 1), before(0, 2, 1), before(1, 0, 1)), 1, 3, 2)
	checkCycle(t, "a longer cycle of smaller links", linked(3, before(0, 1, 9), before(1, 2, 9), before(2, 0, 9), before(1, 0, -9), before(0, 2, -8)), 2, 4)
	checkCycle(t, "a shorter cycle that is apart", linked(5, before(0, 1, 9), before(1, 2, 9), before(2, 0, 9), before(3, 4, 1), before(4, 3, 0)), 3, 4)
	checkCycle(t, "a shorter cycle of a sum of 0", linked(5, before(3, 4, 1), before(4, 3, -1), before(0, 1, 1), before(1, 2, 0), before(2, 0, 0)), 2, 3, 4)
	checkCycle(t, "two cycles apart, the second of smaller links", linked(4, before(2, 3, 1), before(0, 1, 9), before(1, 0, 9), before(3, 2, 1)), 0, 3)
	checkCycle(t, "two cycles of three links", linked(4, before(0, 1, 1), before(2, 0, 0), before(1, 3, 0), before(3, 0, 0), before(1, 2, 0)), 0, 2, 3)
	checkCycle(t, "two cycles of three links, the first of a sum of 0", linked(4, before(0, 1, 1), before(2, 0, 0), before(1, 3, 0), before(3, 0, -1), before(1, 2, 0)), 0, 4, 1)
	eight := linked(3, before(0, 1, 1), before(1, 0, -1), before(0, 2, 4), before(2, 0, -3))
	checkCycle(t, "two cycles that share an activity", eight, 2, 3)
	eight.Links[1].Lag = 0
	checkCycle(t, "two positive cycles that share an activity", eight, 0, 1)
	eight.Links[0].Lag, eight.Links[2].Lag = 0, 3
	checkCycle(t, "two cycles of 0 that share an activity", eight)
	wide := linked(5, before(0, 1, 9), before(1, 0, -10), before(1, 2, 1), before(2, 3, 1), before(3, 1, -1), before(3, 4, 0), before(4, 3, 0))
	checkCycle(t, "cycles that share activities", wide, 2, 3, 4)
	for n := 2; n <= 6; n++ {
		for sum := -1; sum <= 1; sum++ {
			p := chain(n)
			for a := range n {
				p.Links = append(p.Links, before(a, (a+1)%n, 3*a))
			}
			p.Links[n-1].Lag -= 3*n*(n-1)/2 - sum
			want := impl.IntRange(n)
			if sum < 1 {
				want = nil
			}
			checkCycle(t, fmt.Sprint("a sum of ", sum, " through all of ", n), p, want...)
		}
	}
	checkCycle(t, "a ring of double links of a sum of 0", ring(0))
	checkCycle(t, "a ring of double links of a sum of 1", ring(1), 6, 7, 8, 9, 10, 11)
	checkCycle(t, "a ring of double links of a sum of 2", ring(2), 0, 7, 8, 9, 10, 11)
	checkCycle(t, "a ring of double links of a sum of 5", ring(5), 0, 1, 2, 3, 10, 11)
	checkCycle(t, "a ring of double links of a sum of 6", ring(6), 0, 1, 2, 3, 4, 11)
}

func TestP15PositiveCycle(t *testing.T) {
	for _, p := range networks() {
		if got, want := impl.PositiveCycle(p), bestCycle(p); !slices.Equal(got, want) {
			t.Errorf("PositiveCycle(%+v) = %v, want %v", p, got, want)
		}
	}
}

func TestP15TopologicalOrderTable(t *testing.T) {
	for n := 1; n <= 6; n++ {
		checkOrder(t, fmt.Sprint(n, " unlinked activities"), chain(n), impl.IntRange(n)...)
	}
	checkOrder(t, "one link", linked(2, before(1, 0, 1)), 1, 0)
	checkOrder(t, "one link in ascending order", linked(2, before(0, 1, 1)), 0, 1)
	checkOrder(t, "one link of a gap of 0", linked(2, before(1, 0, 0)), 0, 1)
	checkOrder(t, "one link of a negative gap", linked(2, before(1, 0, -60)), 0, 1)
	checkOrder(t, "one link from the end", linked(2, after(1, 0, 0)), 1, 0)
	checkOrder(t, "a gap of 0 from the end", lasting(linked(2, after(1, 0, -2)), 1, 5, 2, 3), 0, 1)
	checkOrder(t, "a gap of 1 from the end", lasting(linked(2, after(1, 0, -1)), 1, 5, 2, 3), 1, 0)
	checkOrder(t, "the smallest gap from the end", lasting(linked(2, after(1, 0, -60)), 1, 12), 0, 1)
	checkOrder(t, "several links, of which one orders", linked(2, before(1, 0, 0), after(1, 0, -1), before(1, 0, 1), before(0, 1, 0)), 1, 0)
	checkOrder(t, "a smaller activity after a greater one", linked(4, before(2, 0, 1)), 1, 2, 0, 3)
	checkOrder(t, "smaller activities after greater ones", linked(6, before(3, 0, 1), before(0, 2, 1), before(5, 1, 60)), 3, 0, 2, 4, 5, 1)
	checkOrder(t, "two predecessors", linked(4, before(1, 0, 1), before(3, 0, 1)), 1, 2, 3, 0)
	checkOrder(t, "a path backwards", linked(6, before(5, 4, 1), before(4, 3, 1), before(3, 2, 1), before(2, 1, 1), before(1, 0, 1)), 5, 4, 3, 2, 1, 0)
	checkOrder(t, "a positive cycle that orders", linked(3, before(2, 0, 9), before(0, 2, 0)), 1, 2, 0)
	checkOrder(t, "a cycle of gaps of 0", linked(3, before(0, 1, 0), before(1, 2, 0), before(2, 0, 0)), 0, 1, 2)
	checkOrder(t, "a cycle of 1 and 1", linked(2, before(0, 1, 1), before(1, 0, 1)))
	checkOrder(t, "a cycle apart", linked(4, before(2, 3, 1), before(3, 2, 1)))
	checkOrder(t, "a cycle at the end", linked(4, before(0, 1, 1), before(1, 2, 1), before(2, 1, 1)))
	checkOrder(t, "a cycle at the beginning", linked(4, before(0, 1, 1), before(1, 0, 1), before(1, 2, 1), before(2, 3, 1)))
	checkOrder(t, "a cycle from the ends", linked(3, after(0, 1, 0), after(1, 2, 0), after(2, 0, 0)))
	all := ring(0)
	for k := range all.Links {
		all.Links[k].Lag = 1
	}
	checkOrder(t, "a cycle through all", all)
	all.Links[2].Lag, all.Links[8].Lag = 0, -60
	checkOrder(t, "a cycle through all that is open", all, 3, 4, 5, 0, 1, 2)
}

func TestP15TopologicalOrder(t *testing.T) {
	var orders [7][][]int
	for n := range orders {
		orders[n] = permutations(n)
	}
	failed := 0
	for _, p := range networks() {
		want, wantOk := firstOrder(p, orders[len(p.Activities)])
		got, ok := impl.TopologicalOrder(p)
		if ok != wantOk || !slices.Equal(got, want) {
			t.Errorf("TopologicalOrder(%+v) = %v, %v, want %v, %v", p, got, ok, want, wantOk)
		}
		failed += b2i(!ok)
	}
	checkBool(t, "there are projects that cannot be ordered", failed > 0, true)
}

func checkNoLinks(t *testing.T, name string, p impl.Project) {
	t.Helper()
	for _, n := range append(noIndexes(), 0, 1, 2, 3, 5, 6, 11) {
		for _, modes := range [][]int{nil, ints(0), ints(0, 1, 2)} {
			checkInt(t, "LinkGap in a project with "+name, impl.LinkGap(p, n, modes), 0)
		}
		same(t, "Successors in a project with "+name, impl.Successors(p, n), nil)
		same(t, "Predecessors in a project with "+name, impl.Predecessors(p, n), nil)
		for b := range 6 {
			checkBool(t, "IsReachable in a project with "+name, impl.IsReachable(p, n, b), false)
		}
	}
	checkCycle(t, name, p)
	checkOrder(t, name, p)
	same(t, "Roots in a project with "+name, impl.Roots(p), nil)
}

func TestP15LinksOfProjectsThatAreNotValid(t *testing.T) {
	for _, v := range badNetworks() {
		checkNoLinks(t, v.name, v.p)
	}
}

func TestP15NilAndEmptyListsOfLinksAreEqual(t *testing.T) {
	p, q := chain(3), deepCopy(chain(3))
	if p.Links != nil || q.Links == nil {
		t.Fatal("the lists of links are not as this test needs them")
	}
	for _, r := range []impl.Project{p, q} {
		same(t, "Roots without links", impl.Roots(r), ints(0, 1, 2))
		checkCycle(t, "no links", r)
		checkOrder(t, "no links", r, 0, 1, 2)
		same(t, "Successors without links", impl.Successors(r, 1), nil)
		same(t, "Predecessors without links", impl.Predecessors(r, 1), nil)
		checkBool(t, "IsReachable without links", impl.IsReachable(r, 1, 1), false)
		checkInt(t, "LinkGap without links", impl.LinkGap(r, 0, nil), 0)
	}
	one := linked(2, after(0, 1, 7))
	checkInt(t, "LinkGap with nil", impl.LinkGap(one, 0, nil), 7)
	checkInt(t, "LinkGap with an empty list", impl.LinkGap(one, 0, ints()), 7)
}

func TestP15LinksAreLeftAlone(t *testing.T) {
	all := []impl.Project{ring(1), linked(4, before(2, 0, 1), after(1, 2, 0)), linked(2, before(0, 1, 1), before(1, 0, 0))}
	for _, v := range variants() {
		all = append(all, v.p)
	}
	for _, v := range all {
		p, kept := roomy(v)
		modes, modesKept := spare(ints(2, 0, 0, 7), 1)
		for n := range 6 {
			impl.LinkGap(p, n, modes)
			impl.IsReachable(p, n, 5-n)
			for _, l := range [][]int{impl.Successors(p, n), impl.Predecessors(p, n)} {
				checkNew(t, "Successors or Predecessors", l, p)
				overwrite(l, -9)
			}
		}
		order, _ := impl.TopologicalOrder(p)
		for _, l := range [][]int{impl.Roots(p), impl.PositiveCycle(p), order} {
			checkNew(t, "Roots, PositiveCycle or TopologicalOrder", l, p)
			overwrite(l, -9)
		}
		if !kept() || !modesKept() {
			t.Errorf("a function of chapter 8 changes its argument, %+v", v)
		}
	}
}

func TestP15LinksKeepNoState(t *testing.T) {
	type results struct {
		successors, predecessors, cycle, order, roots []int
	}
	call := func() results {
		p := linked(4, before(2, 0, 3), after(0, 2, -2), before(2, 1, 0))
		order, _ := impl.TopologicalOrder(p)
		return results{impl.Successors(p, 2), impl.Predecessors(p, 2), impl.PositiveCycle(p), order, impl.Roots(p)}
	}
	want := results{ints(0, 1), ints(0), ints(0, 1), ints(1, 2, 0, 3), ints(3)}
	for range 3 {
		got := call()
		if !reflect.DeepEqual(got, want) {
			t.Errorf("the functions of chapter 8 return %+v, want %+v", got, want)
		}
		for _, l := range [][]int{got.successors, got.predecessors, got.cycle, got.order, got.roots} {
			overwrite(l, -9)
		}
	}
}
