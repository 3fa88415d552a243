package tests

import (
	"fmt"
	"math"
	"math/rand"
	"slices"
	"testing"

	"loop.example/g00806/impl"
)

// The times of a duty begin this much before 0, because a domain can have negative starts.
const dutyStart = -5

// duty is what a domain that is not empty leaves no choice about, found by trying each start with each mode.
type duty struct {
	always   [][90]bool
	usage    [][90]int
	shortest []int
	required [][]int
}

// dutyTimes are the times of a duty, of which the first and the last ones are before and after everything.
func dutyTimes() []int {
	return numbersFrom(dutyStart, dutyStart+89)
}

func dutyOf(p impl.Project, b impl.Domain) duty {
	d := duty{always: make([][90]bool, len(p.Activities)), usage: make([][90]int, len(p.Resources)), required: make([][]int, len(p.Resources))}
	for a, activity := range p.Activities {
		var durations []int
		for _, m := range b.Modes[a] {
			durations = append(durations, activity.Modes[m].Duration)
		}
		d.shortest = append(d.shortest, slices.Min(durations))
		for res := range p.Resources {
			var amounts []int
			for _, m := range b.Modes[a] {
				amounts = append(amounts, activity.Modes[m].Usage[res])
			}
			d.required[res] = append(d.required[res], slices.Min(amounts))
		}
		for i, at := range dutyTimes() {
			d.always[a][i] = runsInEveryCase(at, b.MinStart[a], b.MaxStart[a], durations)
			for res := range p.Resources {
				d.usage[res][i] += b2i(d.always[a][i]) * d.required[res][a]
			}
		}
	}
	return d
}

func runsInEveryCase(at, first, last int, durations []int) bool {
	for start := first; start <= last; start++ {
		for _, n := range durations {
			if at < start || at >= start+n {
				return false
			}
		}
	}
	return true
}

// part returns the first time at which an activity runs in every case, and the time after the last one.
func (d duty) part(a int) (int, int, bool) {
	first, end := 0, 0
	for i, at := range dutyTimes() {
		if d.always[a][i] && first == end {
			first, end = at, at+1
		} else if d.always[a][i] {
			end = at + 1
		}
	}
	return first, end, first < end
}

func (d duty) work(res, x, y int) int {
	sum := 0
	for at := x; at < y; at++ {
		sum += d.usage[res][at-dutyStart]
	}
	return sum
}

func (d duty) overload(p impl.Project, res int) int {
	for at, capacity := range levelsOf(p.Resources[res].Steps) {
		if d.usage[res][at-dutyStart] > capacity {
			return at
		}
	}
	return -1
}

func checkPart(t *testing.T, name string, p impl.Project, b impl.Domain, a, x, y int, ok bool) {
	t.Helper()
	gotX, gotY, gotOk := impl.CompulsoryPart(p, b, a)
	if gotX != x || gotY != y || gotOk != ok {
		t.Errorf("CompulsoryPart of %d%s = %d, %d, %v, want %d, %d, %v", a, name, gotX, gotY, gotOk, x, y, ok)
	}
}

// checkDuty compares all functions with what is found case by case, in a domain that is not empty.
func checkDuty(t *testing.T, p impl.Project, b impl.Domain) duty {
	t.Helper()
	name := fmt.Sprintf(" in %+v of %+v", b, p)
	d := dutyOf(p, b)
	for a := range p.Activities {
		x, y, ok := d.part(a)
		checkPart(t, name, p, b, a, x, y, ok)
		checkInt(t, fmt.Sprint("ShortestDuration of ", a, name), impl.ShortestDuration(p, b, a), d.shortest[a])
	}
	for res := range p.Resources {
		for i, at := range dutyTimes() {
			checkInt(t, fmt.Sprint("CompulsoryUsage of resource ", res, " at ", at, name), impl.CompulsoryUsage(p, b, res, at), d.usage[res][i])
		}
		for a := range p.Activities {
			checkInt(t, fmt.Sprint("RequiredUsage of resource ", res, " by ", a, name), impl.RequiredUsage(p, b, res, a), d.required[res][a])
		}
		checkInt(t, fmt.Sprint("OverloadTime of resource ", res, name), impl.OverloadTime(p, b, res), d.overload(p, res))
		checkWork(t, name, p, b, res, d)
	}
	return d
}

// checkWork tries intervals that begin or end where an activity can, and at the first and last times.
func checkWork(t *testing.T, name string, p impl.Project, b impl.Domain, res int, d duty) {
	t.Helper()
	edges := ints(0, 60)
	for a, n := range d.shortest {
		edges = append(edges, b.MaxStart[a], b.MinStart[a]+n)
	}
	for _, x := range edges {
		for _, y := range edges {
			want := 0
			if isEdgeOk(x) && isEdgeOk(y) {
				want = d.work(res, x, y)
			}
			checkInt(t, fmt.Sprint("CompulsoryWork on resource ", res, " from ", x, " up to ", y, name), impl.CompulsoryWork(p, b, res, x, y), want)
		}
	}
}

// checkNoDuty expects what the functions return if a domain is empty or not one of the project.
func checkNoDuty(t *testing.T, name string, p impl.Project, b impl.Domain) {
	t.Helper()
	for _, n := range append(noIndexes(), 0, 1, 2, 3, 5, 6) {
		checkPart(t, " if "+name, p, b, n, 0, 0, false)
		checkInt(t, fmt.Sprint("ShortestDuration of ", n, " if ", name), impl.ShortestDuration(p, b, n), 0)
		checkInt(t, fmt.Sprint("OverloadTime of resource ", n, " if ", name), impl.OverloadTime(p, b, n), -1)
		for _, a := range ints(-1, 0, 1, 2, 6) {
			checkInt(t, fmt.Sprint("RequiredUsage of resource ", n, " by ", a, " if ", name), impl.RequiredUsage(p, b, n, a), 0)
		}
		for _, at := range ints(-1, 0, 5, 60, 61) {
			checkInt(t, fmt.Sprint("CompulsoryUsage of resource ", n, " at ", at, " if ", name), impl.CompulsoryUsage(p, b, n, at), 0)
			checkInt(t, fmt.Sprint("CompulsoryWork on resource ", n, " up to ", at, " if ", name), impl.CompulsoryWork(p, b, n, 0, at), 0)
		}
	}
}

// checkNoSuch calls the functions with activities, resources and times that do not exist, in a domain that is not empty.
func checkNoSuch(t *testing.T, p impl.Project, b impl.Domain) {
	t.Helper()
	name := fmt.Sprintf(" in %+v of %+v", b, p)
	for _, a := range append(noIndexes(), len(p.Activities), len(p.Activities)+1) {
		checkPart(t, name, p, b, a, 0, 0, false)
		checkInt(t, fmt.Sprint("ShortestDuration of ", a, name), impl.ShortestDuration(p, b, a), 0)
		for res := range p.Resources {
			checkInt(t, fmt.Sprint("RequiredUsage of resource ", res, " by ", a, name), impl.RequiredUsage(p, b, res, a), 0)
		}
	}
	for _, res := range append(noIndexes(), len(p.Resources), len(p.Resources)+1) {
		checkInt(t, fmt.Sprint("OverloadTime of resource ", res, name), impl.OverloadTime(p, b, res), -1)
		checkInt(t, fmt.Sprint("CompulsoryWork on resource ", res, name), impl.CompulsoryWork(p, b, res, 0, 60), 0)
		for a := range p.Activities {
			checkInt(t, fmt.Sprint("RequiredUsage of resource ", res, " by ", a, name), impl.RequiredUsage(p, b, res, a), 0)
			checkInt(t, fmt.Sprint("CompulsoryUsage of resource ", res, " at the last start of ", a, name), impl.CompulsoryUsage(p, b, res, b.MaxStart[a]), 0)
		}
	}
	for res := range p.Resources {
		for _, at := range ints(math.MinInt, math.MinInt+1, -1000, -61, 100, 1000, math.MaxInt-1, math.MaxInt) {
			checkInt(t, fmt.Sprint("CompulsoryUsage of resource ", res, " at ", at, name), impl.CompulsoryUsage(p, b, res, at), 0)
			for _, n := range ints(0, 30, 60) {
				checkInt(t, fmt.Sprint("CompulsoryWork on resource ", res, " between ", at, " and ", n, name), impl.CompulsoryWork(p, b, res, at, n)+impl.CompulsoryWork(p, b, res, n, at), 0)
			}
		}
	}
}

// fewModes are some modes of an activity, at least one.
func fewModes(r *rand.Rand, count int) []int {
	modes := someModes(r, count)
	if len(modes) == 0 {
		return ints(r.Intn(count))
	}
	return modes
}

// tightBox is DomainForm for p and not empty, and the same for the same seed; its starts are close to each other, so that most activities have compulsory parts, which overlap.
func tightBox(p impl.Project, seed int64) impl.Domain {
	r := rand.New(rand.NewSource(seed))
	middle := ints(-2, 1+r.Intn(4), r.Intn(60), 50+r.Intn(13))[r.Intn(4)]
	var b impl.Domain
	for _, a := range p.Activities {
		first := max(-2, min(62, middle+r.Intn(7)-3))
		b.MinStart, b.MaxStart = append(b.MinStart, first), append(b.MaxStart, min(62, first+r.Intn(5)))
		b.Modes = append(b.Modes, fewModes(r, len(a.Modes)))
	}
	return b
}

// around contains the schedule, and others that start at most 4 earlier or later.
func around(x scheduled, seed int64) impl.Domain {
	r := rand.New(rand.NewSource(seed))
	var b impl.Domain
	spread := 1 + r.Intn(4)
	for a, start := range x.s.Starts {
		b.MinStart, b.MaxStart = append(b.MinStart, max(-2, start-r.Intn(spread))), append(b.MaxStart, min(62, start+r.Intn(spread)))
		modes := fewModes(r, len(x.p.Activities[a].Modes))
		if !isIn(modes, x.s.Modes[a]) {
			modes = append(modes, x.s.Modes[a])
		}
		slices.Sort(modes)
		b.Modes = append(b.Modes, modes)
	}
	return b
}

// timed has 1, 3 and 2 modes, of which each of the last two activities has one that is shorter and others that use less; its second resource is a machine.
func timed(t *testing.T) impl.Project {
	return reading(t, "deadline 20\nresource 0:3,6:1,8:20\nresource 0:20,10:4,60:0 1,1,1,1,2,2,2,2,3,3,3,3,4,4,4,4\nactivity a 0 3/1,0/-\nactivity b 1 2/4,3/- 5/2,6/- 8/1,9/-\nactivity c 2 6/0,2/- 4/3,1/-\n")
}

// checkKept expects that a schedule that a domain contains does all that is compulsory in it.
func checkKept(t *testing.T, p impl.Project, b impl.Domain, s impl.Schedule, c chart) {
	t.Helper()
	name := fmt.Sprintf(" of %+v in %+v of %+v", s, b, p)
	for a := range p.Activities {
		x, y, ok := impl.CompulsoryPart(p, b, a)
		for at := x; at < y; at++ {
			if at < 0 || !isIn(c.running[at], a) {
				t.Errorf("the compulsory part of activity %d from %d up to %d is no part%s", a, x, y, name)
			}
		}
		checkBool(t, "the part has a time"+name, x < y, ok)
		if impl.ShortestDuration(p, b, a) > c.ends[a]-s.Starts[a] {
			t.Errorf("activity %d lasts less than the ShortestDuration%s", a, name)
		}
		for res := range p.Resources {
			if impl.RequiredUsage(p, b, res, a) > p.Activities[a].Modes[s.Modes[a]].Usage[res] {
				t.Errorf("activity %d uses less of resource %d than the RequiredUsage%s", a, res, name)
			}
		}
	}
	for res := range p.Resources {
		for at, used := range c.usage[res] {
			if impl.CompulsoryUsage(p, b, res, at) > used {
				t.Errorf("less than the CompulsoryUsage of resource %d is used at %d%s", res, at, name)
			}
		}
		if at := impl.OverloadTime(p, b, res); at >= 0 && (!isBroken(p, s, c, rule(3, res, at, 0)) || !impl.Violates(p, s, rule(3, res, at, 0)) || impl.ScheduleOk(p, s)) {
			t.Errorf("resource %d is not overloaded at the OverloadTime %d%s", res, at, name)
		}
	}
}

// checkWorkKept expects that the schedule does the compulsory work in each of these intervals.
func checkWorkKept(t *testing.T, p impl.Project, b impl.Domain, c chart, times []int) {
	t.Helper()
	for res := range p.Resources {
		for _, x := range times {
			work := 0
			for y := x; y <= times[len(times)-1]; y++ {
				if n := impl.CompulsoryWork(p, b, res, x, y); n > work {
					t.Errorf("CompulsoryWork on resource %d from %d up to %d is %d, but only %d is done, in %+v of %+v", res, x, y, n, work, b, p)
				}
				work += c.usage[res][y]
			}
		}
	}
}

func TestP6CompulsoryPartsRunInExactlyAllSchedulesOfADomain(t *testing.T) {
	p := tiny(t)
	all := earlySchedules(p, 4)
	var charts []chart
	for _, s := range all {
		charts = append(charts, chartOf(p, s))
	}
	overloads := 0
	for seed := range int64(60) {
		b := around(scheduled{p, all[int(seed)*97%len(all)]}, seed)
		// The list has only the schedules with these starts.
		for a := range p.Activities {
			b = restricted(restricted(b, lit(1, a, 0)), lit(2, a, 4))
		}
		var inside []chart
		for i, s := range all {
			if isInside(b, s) {
				inside = append(inside, charts[i])
				checkKept(t, p, b, s, charts[i])
				checkWorkKept(t, p, b, charts[i], numbersFrom(0, 8))
			}
		}
		for a := range p.Activities {
			x, y, _ := impl.CompulsoryPart(p, b, a)
			for at := range 12 {
				always := !slices.ContainsFunc(inside, func(c chart) bool { return !isIn(c.running[at], a) })
				checkBool(t, fmt.Sprintf("activity %d runs at %d in all schedules of %+v", a, at, b), always, x <= at && at < y)
			}
		}
		for res := range p.Resources {
			overloads += b2i(impl.OverloadTime(p, b, res) >= 0)
		}
	}
	checkBool(t, "there are domains with an overload and others", overloads > 10 && overloads < 110, true)
}

func TestP6CompulsoryPartsRunInTheSchedulesOfLargerProjects(t *testing.T) {
	parts, overloads := 0, 0
	for i, x := range scheduledProjects() {
		if i%4 != 0 {
			continue
		}
		c := chartOf(x.p, x.s)
		for _, b := range []impl.Domain{around(x, int64(i)), impl.SingletonDomain(x.s)} {
			checkBool(t, "the domain contains the schedule", isInside(b, x.s), true)
			checkKept(t, x.p, b, x.s, c)
			if i%40 == 0 {
				checkWorkKept(t, x.p, b, c, ints(0, x.s.Starts[0], 58, 60))
			}
			for a := range x.p.Activities {
				_, _, ok := impl.CompulsoryPart(x.p, b, a)
				parts += b2i(ok)
			}
			for res := range x.p.Resources {
				overloads += b2i(impl.OverloadTime(x.p, b, res) >= 0)
			}
		}
	}
	checkBool(t, "there are compulsory parts and overloads", parts > 1000 && overloads > 300, true)
}

func TestP6ADomainOfAValidScheduleHasNoOverload(t *testing.T) {
	count := 0
	for seed := range int64(300) {
		x := limits(seed)
		if !impl.ScheduleOk(x.p, x.s) {
			continue
		}
		count++
		for _, b := range []impl.Domain{around(x, seed), around(x, seed+1000), impl.SingletonDomain(x.s), impl.InitialDomain(x.p)} {
			for res := range x.p.Resources {
				checkInt(t, fmt.Sprintf("OverloadTime of resource %d in %+v of %+v", res, b, x.p), impl.OverloadTime(x.p, b, res), -1)
			}
			checkKept(t, x.p, b, x.s, chartOf(x.p, x.s))
		}
	}
	checkBool(t, "there are valid schedules", count > 100, true)
}

// checkSmaller expects that at least as much is compulsory in c, which is a part of b, as in b.
func checkSmaller(t *testing.T, p impl.Project, b, c impl.Domain) {
	t.Helper()
	name := fmt.Sprintf(" in %+v than in %+v of %+v", c, b, p)
	for a := range p.Activities {
		x, y, ok := impl.CompulsoryPart(p, b, a)
		smallX, smallY, smallOk := impl.CompulsoryPart(p, c, a)
		if ok && !(smallOk && smallX <= x && smallY >= y) || impl.ShortestDuration(p, b, a) > impl.ShortestDuration(p, c, a) {
			t.Errorf("activity %d runs less%s", a, name)
		}
	}
	for res := range p.Resources {
		for _, at := range dutyTimes() {
			if impl.CompulsoryUsage(p, b, res, at) > impl.CompulsoryUsage(p, c, res, at) {
				t.Errorf("resource %d is used less at %d%s", res, at, name)
			}
		}
		at, smallAt := impl.OverloadTime(p, b, res), impl.OverloadTime(p, c, res)
		if at >= 0 && (smallAt < 0 || smallAt > at) || impl.CompulsoryWork(p, b, res, 0, 60) > impl.CompulsoryWork(p, c, res, 0, 60) {
			t.Errorf("resource %d is overloaded later, or does less work,%s", res, name)
		}
	}
}

func TestP6ASmallerDomainHasAtLeastTheSameCompulsoryParts(t *testing.T) {
	overloads := 0
	for seed := range int64(300) {
		r := rand.New(rand.NewSource(seed))
		for _, p := range []impl.Project{randomProject(seed), crowded(seed)} {
			b := tightBox(p, seed)
			literals := literalsOf(p)
			for range 4 {
				c := b
				for range 1 + r.Intn(3) {
					c = restricted(c, literals[r.Intn(len(literals))])
				}
				if !isVoid(c) {
					checkSmaller(t, p, b, c)
				}
			}
			for res := range p.Resources {
				overloads += b2i(impl.OverloadTime(p, b, res) >= 0)
			}
		}
	}
	checkBool(t, "there are overloads", overloads > 100, true)
}

func TestP15CompulsoryPartsOfManyDomains(t *testing.T) {
	parts, overloads, voids := 0, 0, 0
	check := func(p impl.Project, b impl.Domain) {
		t.Helper()
		if isVoid(b) {
			checkNoDuty(t, fmt.Sprintf("it is %+v", b), p, b)
			voids++
			return
		}
		d := checkDuty(t, p, b)
		checkNoSuch(t, p, b)
		for a := range p.Activities {
			_, _, ok := d.part(a)
			parts += b2i(ok)
		}
		for res := range p.Resources {
			overloads += b2i(d.overload(p, res) >= 0)
		}
	}
	for seed := range int64(250) {
		for _, p := range []impl.Project{randomProject(seed), crowded(seed)} {
			for _, b := range []impl.Domain{tightBox(p, seed), someBox(p, seed), narrowBox(p, seed)} {
				check(p, b)
			}
		}
	}
	for i, v := range chosen(true) {
		if i%10 == 0 {
			check(v.p, tightBox(v.p, int64(i)))
		}
	}
	checkBool(t, "there are compulsory parts, overloads and empty domains", parts > 1000 && overloads > 100 && voids > 100, true)
}

func TestP15CompulsoryPartOfAllBounds(t *testing.T) {
	p := timed(t)
	cases := []struct {
		modes    []int
		shortest int
	}{{ints(0), 2}, {ints(1), 5}, {ints(2), 8}, {ints(0, 1), 2}, {ints(0, 2), 2}, {ints(1, 2), 5}, {ints(0, 1, 2), 2}}
	for _, c := range cases {
		for first := -2; first <= 62; first++ {
			for last := -2; last <= 62; last++ {
				b := box(ints(0, first, 0), ints(19, last, 19), ints(0), c.modes, ints(0, 1))
				name := fmt.Sprintf(" in %+v", b)
				if first <= last && last-first < c.shortest {
					checkPart(t, name, p, b, 1, last, first+c.shortest, true)
				} else {
					checkPart(t, name, p, b, 1, 0, 0, false)
				}
			}
		}
	}
}

func TestP15CompulsoryPartTable(t *testing.T) {
	p := timed(t)
	cases := []struct {
		a, first, last int
		modes          []int
		x, y           int
		ok             bool
	}{
		// MaxStart is one less than, the same as and one more than MinStart + MinDuration.
		{0, 4, 6, ints(0), 6, 7, true}, {0, 4, 7, ints(0), 0, 0, false}, {0, 4, 8, ints(0), 0, 0, false},
		{1, 4, 5, ints(0, 1, 2), 5, 6, true}, {1, 4, 6, ints(0, 1, 2), 0, 0, false}, {1, 4, 7, ints(0, 1, 2), 0, 0, false}, {1, 4, 8, ints(1, 2), 8, 9, true}, {1, 4, 9, ints(1, 2), 0, 0, false}, {1, 4, 11, ints(2), 11, 12, true}, {1, 4, 12, ints(2), 0, 0, false},
		// In c, the second mode is the shorter one.
		{2, 4, 7, ints(0, 1), 7, 8, true}, {2, 4, 8, ints(0, 1), 0, 0, false}, {2, 4, 9, ints(0), 9, 10, true}, {2, 4, 10, ints(0), 0, 0, false}, {2, 4, 7, ints(1), 7, 8, true}, {2, 4, 8, ints(1), 0, 0, false},
		{0, 4, 4, ints(0), 4, 7, true}, {0, 4, 5, ints(0), 5, 7, true}, {0, 0, 0, ints(0), 0, 3, true}, {0, 0, 2, ints(0), 2, 3, true}, {0, 60, 60, ints(0), 60, 63, true}, {0, 62, 62, ints(0), 62, 65, true}, {1, 62, 62, ints(2), 62, 70, true},
		// The part can lie before 0, and it can begin or end there; an end of 0 is not what makes it empty.
		{0, -2, -2, ints(0), -2, 1, true}, {0, -2, -1, ints(0), -1, 1, true}, {0, -2, 0, ints(0), 0, 1, true}, {0, -2, 1, ints(0), 0, 0, false}, {1, -2, -2, ints(0), -2, 0, true}, {1, -2, -1, ints(0), -1, 0, true}, {1, -2, 0, ints(0), 0, 0, false},
		{0, 0, 19, ints(0), 0, 0, false}, {1, -2, 62, ints(2), 0, 0, false},
	}
	for _, c := range cases {
		b := edited(box(ints(0, 0, 0), ints(19, 19, 19), ints(0), ints(0, 1, 2), ints(0, 1)), func(b *impl.Domain) {
			b.MinStart[c.a], b.MaxStart[c.a], b.Modes[c.a] = c.first, c.last, c.modes
		})
		for a := -1; a <= 4; a++ {
			if a == c.a {
				checkPart(t, callOf("", b), p, b, a, c.x, c.y, c.ok)
			} else {
				checkPart(t, callOf("", b), p, b, a, 0, 0, false)
			}
		}
	}
}

func TestP15CompulsoryPartOfEachActivity(t *testing.T) {
	for n := 1; n <= 6; n++ {
		p := lasting(chain(n), n-1, 7, 4)
		b := box(make([]int, n), make([]int, n))
		for a := range n {
			b.MinStart[a], b.MaxStart[a], b.Modes = 10*a, 10*a, append(b.Modes, ints(0))
		}
		for a := range n - 1 {
			checkPart(t, fmt.Sprint(" of ", n), p, b, a, 10*a, 10*a+1, true)
			checkInt(t, "ShortestDuration of one of the first activities", impl.ShortestDuration(p, b, a), 1)
		}
		checkPart(t, fmt.Sprint(" of ", n), p, b, n-1, 10*n-10, 10*n-3, true)
		checkInt(t, "ShortestDuration of the last activity", impl.ShortestDuration(p, b, n-1), 7)
		for _, a := range append(noIndexes(), n, n+1) {
			checkPart(t, fmt.Sprint(" of ", n), p, b, a, 0, 0, false)
			checkInt(t, callOf("ShortestDuration", n, a), impl.ShortestDuration(p, b, a), 0)
		}
		checkNoSuch(t, p, b)
	}
}

// usageCase is a domain of timed, of which a resource is used as stated.
type usageCase struct {
	b   impl.Domain
	res int
	// The usage at the times from -3 on, which is 0 at all other times.
	usage []int
}

func (c usageCase) usageAt(at int) int {
	if at < -3 || at >= len(c.usage)-3 {
		return 0
	}
	return c.usage[at+3]
}

func usageCases() []usageCase {
	free := box(ints(0, 0, 0), ints(19, 19, 19), ints(0), ints(0, 1, 2), ints(0, 1))
	only := func(a, first, last int, modes ...int) impl.Domain {
		return edited(free, func(b *impl.Domain) { b.MinStart[a], b.MaxStart[a], b.Modes[a] = first, last, modes })
	}
	also := func(b impl.Domain, a, first, last int, modes ...int) impl.Domain {
		return edited(b, func(b *impl.Domain) { b.MinStart[a], b.MaxStart[a], b.Modes[a] = first, last, modes })
	}
	return []usageCase{
		{free, 0, nil}, {free, 1, nil},
		{only(0, 2, 2, 0), 0, ints(0, 0, 0, 0, 0, 1, 1, 1)}, {only(0, 2, 3, 0), 0, ints(0, 0, 0, 0, 0, 0, 1, 1)}, {only(0, 2, 4, 0), 0, ints(0, 0, 0, 0, 0, 0, 0, 1)}, {only(0, 2, 5, 0), 0, nil}, {only(0, 2, 2, 0), 1, nil},
		{only(0, -2, -2, 0), 0, ints(0, 1, 1, 1)}, {only(0, -2, -1, 0), 0, ints(0, 0, 1, 1)}, {only(1, -2, -2, 0), 1, ints(0, 3, 3)}, {only(0, 0, 0, 0), 0, ints(0, 0, 0, 1, 1, 1)},
		{only(0, 60, 60, 0), 0, append(make([]int, 63), 1, 1, 1)}, {only(1, 62, 62, 2), 1, append(make([]int, 65), 9, 9, 9, 9, 9, 9, 9, 9)}, {only(0, 57, 58, 0), 0, append(make([]int, 61), 1, 1)},
		// The shortest mode and the one that uses least are different ones.
		{only(1, 1, 1, 0), 0, ints(0, 0, 0, 0, 4, 4)}, {only(1, 1, 1, 1), 0, ints(0, 0, 0, 0, 2, 2, 2, 2, 2)}, {only(1, 1, 1, 0, 1), 0, ints(0, 0, 0, 0, 2, 2)}, {only(1, 1, 1, 0, 2), 0, ints(0, 0, 0, 0, 1, 1)}, {only(1, 1, 1, 1, 2), 0, ints(0, 0, 0, 0, 1, 1, 1, 1, 1)}, {only(1, 1, 1, 0, 1, 2), 0, ints(0, 0, 0, 0, 1, 1)}, {only(1, 1, 1, 0, 1, 2), 1, ints(0, 0, 0, 0, 3, 3)}, {only(1, 1, 1, 1, 2), 1, ints(0, 0, 0, 0, 6, 6, 6, 6, 6)},
		{only(2, 1, 1, 0, 1), 0, nil}, {only(2, 1, 1, 0, 1), 1, ints(0, 0, 0, 0, 1, 1, 1, 1)}, {only(2, 1, 1, 1), 0, ints(0, 0, 0, 0, 3, 3, 3, 3)}, {only(2, 1, 1, 0), 1, ints(0, 0, 0, 0, 2, 2, 2, 2, 2, 2)},
		// Two parts that overlap, two that only meet, two with a gap, and two that are the same.
		{also(only(0, 2, 2, 0), 1, 3, 3, 1), 0, ints(0, 0, 0, 0, 0, 1, 3, 3, 2, 2, 2)}, {also(only(0, 2, 2, 0), 1, 5, 5, 1), 0, ints(0, 0, 0, 0, 0, 1, 1, 1, 2, 2, 2, 2, 2)}, {also(only(0, 2, 2, 0), 1, 6, 6, 1), 0, ints(0, 0, 0, 0, 0, 1, 1, 1, 0, 2, 2, 2, 2, 2)}, {also(only(0, 2, 2, 0), 1, 2, 2, 0), 0, ints(0, 0, 0, 0, 0, 5, 5, 1)},
		{also(also(only(0, 0, 0, 0), 1, 0, 0, 0), 2, 0, 0, 1), 0, ints(0, 0, 0, 8, 8, 4, 3)}, {also(also(only(0, 0, 0, 0), 1, 0, 0, 0), 2, 0, 0, 1), 1, ints(0, 0, 0, 4, 4, 1, 1)}, {also(only(1, 4, 8, 1, 2), 2, 6, 9, 0, 1), 1, ints(0, 0, 0, 0, 0, 0, 0, 0, 0, 0, 0, 6, 1)},
	}
}

func TestP15CompulsoryUsageTable(t *testing.T) {
	p := timed(t)
	for _, c := range usageCases() {
		for _, at := range slices.Concat(dutyTimes(), otherTimes()) {
			checkInt(t, callOf("CompulsoryUsage", c.b, c.res, at), impl.CompulsoryUsage(p, c.b, c.res, at), c.usageAt(at))
			for _, res := range append(noIndexes(), 2, 3) {
				checkInt(t, callOf("CompulsoryUsage", c.b, res, at), impl.CompulsoryUsage(p, c.b, res, at), 0)
			}
		}
	}
}

func TestP15CompulsoryWorkOfAllIntervals(t *testing.T) {
	p := timed(t)
	for i, c := range usageCases() {
		for _, x := range append(numbersFrom(-2, 62), edgeTimes()...) {
			work := 0
			for y := -2; y <= 62; y++ {
				want := 0
				if isEdgeOk(x) && isEdgeOk(y) {
					want = work
				}
				if got := impl.CompulsoryWork(p, c.b, c.res, x, y); got != want {
					t.Errorf("CompulsoryWork of case %d from %d up to %d = %d, want %d", i, x, y, got, want)
				}
				if y >= x {
					work += c.usageAt(y)
				}
			}
			for _, y := range ints(math.MinInt, math.MinInt+1, -100000, -61, 63, 120, 100000, math.MaxInt-1, math.MaxInt) {
				checkInt(t, callOf("CompulsoryWork", c.b, x, y), impl.CompulsoryWork(p, c.b, c.res, x, y), 0)
			}
		}
	}
}

func TestP15CompulsoryWorkIsTheSumOfCompulsoryUsage(t *testing.T) {
	for seed := range int64(60) {
		p := crowded(seed)
		b := tightBox(p, seed)
		for res := range p.Resources {
			for _, x := range ints(0, int(seed), 20, 59, 60) {
				sum := 0
				for y := x; y <= 60; y++ {
					checkInt(t, fmt.Sprintf("CompulsoryWork on resource %d from %d up to %d in %+v", res, x, y, b), impl.CompulsoryWork(p, b, res, x, y), sum)
					sum += impl.CompulsoryUsage(p, b, res, y)
				}
			}
		}
	}
}

func TestP15OverloadTimeTable(t *testing.T) {
	parts := func(numbers ...int) impl.Domain {
		return box(ints(numbers[0], numbers[2]), ints(numbers[1], numbers[3]), ints(0), ints(0))
	}
	cases := []struct {
		steps []impl.Step
		b     impl.Domain
		want  int
	}{
		// Activity a uses 2 for 4 hours and activity b uses 3 for 5 hours, so that the part of a is from 4 to 7 if it starts at 4.
		{profile(0, 2), parts(4, 4, 0, 19), -1}, {profile(0, 1), parts(4, 4, 0, 19), 4}, {profile(0, 3), parts(4, 4, 0, 19), -1}, {profile(0, 0), parts(4, 4, 0, 19), 4}, {profile(0, 0), parts(0, 19, 0, 19), -1}, {profile(0, 0), parts(4, 8, 4, 9), -1}, {profile(0, 0), parts(4, 7, 4, 9), 7}, {profile(0, 0), parts(4, 8, 4, 8), 8},
		{profile(0, 5), parts(4, 4, 6, 6), -1}, {profile(0, 4), parts(4, 4, 6, 6), 6}, {profile(0, 3), parts(4, 4, 6, 6), 6}, {profile(0, 2), parts(4, 4, 6, 6), 6}, {profile(0, 1), parts(4, 4, 6, 6), 4}, {profile(0, 2), parts(4, 4, 8, 8), 8}, {profile(0, 3), parts(4, 4, 8, 8), -1}, {profile(0, 4), parts(8, 8, 3, 3), -1}, {profile(0, 4), parts(7, 7, 3, 3), 7}, {profile(0, 4), parts(4, 4, 0, 0), 4}, {profile(0, 4), parts(5, 5, 0, 0), -1}, {profile(0, 2), parts(12, 12, 6, 6), 6},
		// The capacity changes within a part: at its first time, between, at its last time, and just outside.
		{profile(0, 2, 4, 1, 5, 2), parts(4, 4, 0, 19), 4}, {profile(0, 2, 5, 1, 6, 2), parts(4, 4, 0, 19), 5}, {profile(0, 2, 7, 1), parts(4, 4, 0, 19), 7}, {profile(0, 2, 7, 1, 8, 2), parts(4, 4, 0, 19), 7}, {profile(0, 2, 8, 1), parts(4, 4, 0, 19), -1}, {profile(0, 0, 4, 2, 8, 0), parts(4, 4, 0, 19), -1}, {profile(0, 0, 5, 2, 8, 0), parts(4, 4, 0, 19), 4}, {profile(0, 2, 5, 3, 6, 0, 7, 1), parts(4, 4, 0, 19), 6}, {profile(0, 2, 3, 0, 4, 2, 6, 2, 7, 2, 8, 0), parts(4, 4, 0, 19), -1}, {profile(0, 2, 6, 5, 8, 3, 10, 2), parts(4, 4, 6, 6), 10}, {profile(0, 2, 6, 5, 8, 3, 11, 2), parts(4, 4, 6, 6), -1},
		// Only the times from 0 to MaxTime count.
		{profile(0, 0), parts(-2, -2, 0, 19), 0}, {profile(0, 2), parts(-2, -2, -2, -2), 0}, {profile(0, 0), parts(-2, 1, 0, 19), 1}, {profile(0, 0), parts(-2, 2, 0, 19), -1}, {profile(0, 2), parts(-2, -2, 2, 2), 2}, {profile(0, 0), parts(60, 60, 0, 19), 60}, {profile(0, 0), parts(59, 60, 0, 19), 60}, {profile(0, 0), parts(59, 61, 0, 19), -1}, {profile(0, 0), parts(61, 61, 62, 62), -1}, {profile(0, 4), parts(57, 57, 60, 60), 60}, {profile(0, 4), parts(57, 57, 61, 61), -1}, {profile(0, 20, 60, 1), parts(57, 57, 0, 19), 60}, {profile(0, 20, 60, 2), parts(57, 57, 0, 19), -1}, {profile(0, 20, 60, 1), parts(56, 56, 0, 19), -1},
		{profile(0, 1), parts(0, 0, 0, 0), 0}, {profile(0, 0, 1, 20), parts(0, 0, 0, 0), 0}, {profile(0, 20, 1, 0), parts(0, 0, 0, 0), 1},
	}
	for _, c := range cases {
		p := chain(2)
		p.Resources = []impl.Resource{{Steps: profile(0, 20)}, {Steps: c.steps}}
		p.Activities[0].Modes, p.Activities[1].Modes = []impl.Mode{mode(4, ints(0, 2), nil)}, []impl.Mode{mode(5, ints(20, 3), nil)}
		checkInt(t, callOf("OverloadTime", c.steps, c.b), impl.OverloadTime(p, c.b, 1), c.want)
		checkInt(t, callOf("OverloadTime of the other resource", c.b), impl.OverloadTime(p, c.b, 0), -1)
		for _, res := range append(noIndexes(), 2, 3) {
			checkInt(t, callOf("OverloadTime", c.steps, c.b, res), impl.OverloadTime(p, c.b, res), -1)
		}
		p.Resources[1].Setup = setupOf(1, 2, 3)
		checkInt(t, callOf("OverloadTime of a machine", c.steps, c.b), impl.OverloadTime(p, c.b, 1), c.want)
	}
}

func TestP15ShortestDurationAndRequiredUsageTable(t *testing.T) {
	p := timed(t)
	cases := []struct {
		a        int
		modes    []int
		shortest int
		required [2]int
	}{
		{0, ints(0), 3, [2]int{1, 0}},
		{1, ints(0), 2, [2]int{4, 3}}, {1, ints(1), 5, [2]int{2, 6}}, {1, ints(2), 8, [2]int{1, 9}}, {1, ints(0, 1), 2, [2]int{2, 3}}, {1, ints(0, 2), 2, [2]int{1, 3}}, {1, ints(1, 2), 5, [2]int{1, 6}}, {1, ints(0, 1, 2), 2, [2]int{1, 3}},
		{2, ints(0), 6, [2]int{0, 2}}, {2, ints(1), 4, [2]int{3, 1}}, {2, ints(0, 1), 4, [2]int{0, 1}},
	}
	for _, c := range cases {
		for _, first := range ints(-2, 0, 19, 62) {
			// The bounds of the activity do not matter, nor do the modes of the others.
			b := edited(box(ints(0, 5, -2), ints(19, 5, 62), ints(0), ints(2), ints(0)), func(b *impl.Domain) {
				b.MinStart[c.a], b.MaxStart[c.a], b.Modes[c.a] = first, 62, c.modes
			})
			checkInt(t, callOf("ShortestDuration", b, c.a), impl.ShortestDuration(p, b, c.a), c.shortest)
			for res, n := range c.required {
				checkInt(t, callOf("RequiredUsage", b, res, c.a), impl.RequiredUsage(p, b, res, c.a), n)
			}
			checkNoSuch(t, p, b)
		}
	}
}

func TestP15CompulsoryPartsWithoutTheRequirement(t *testing.T) {
	p := timed(t)
	seen := map[bool]int{}
	for _, b := range []impl.Domain{box(ints(4, 4, 4), ints(4, 4, 4), ints(0), ints(0, 1, 2), ints(0, 1)), box(ints(0, 1, 59), ints(2, 1, 62), ints(0), ints(1), ints(1))} {
		checkDuty(t, p, b)
		for _, c := range slices.Concat(boundChanges(), modesChanges(), lengthChanges()) {
			d := edited(b, c.apply)
			if c.ok && !isVoid(d) {
				checkDuty(t, p, d)
			} else {
				checkNoDuty(t, c.name, p, d)
			}
			seen[c.ok && !isVoid(d)]++
		}
	}
	checkBool(t, "there are domains of both kinds", seen[true] > 50 && seen[false] > 200, true)
	for a := range 3 {
		b := box(ints(4, 4, 4), ints(4, 4, 4), ints(0), ints(0), ints(0))
		crossed, bare := edited(b, func(b *impl.Domain) { b.MinStart[a] = 5 }), edited(b, func(b *impl.Domain) { b.Modes[a] = nil })
		checkNoDuty(t, fmt.Sprint("the bounds of ", a, " cross"), p, crossed)
		checkNoDuty(t, fmt.Sprint("activity ", a, " has no modes"), p, bare)
	}
	checkNoDuty(t, "it is that of a project with fewer activities", p, impl.InitialDomain(chain(2)))
	checkNoDuty(t, "it is that of a project with more activities", p, impl.InitialDomain(chain(4)))
	checkNoDuty(t, "it is that of a project with more modes", p, impl.InitialDomain(lasting(chain(3), 0, 1, 2)))
	checkNoDuty(t, "it is the zero value", p, impl.Domain{})
}

func TestP15CompulsoryPartsOfProjectsThatAreNotValid(t *testing.T) {
	for _, v := range badNetworks() {
		count := len(v.p.Activities)
		b := impl.Domain{MinStart: make([]int, count), MaxStart: make([]int, count), Modes: make([][]int, count)}
		for a, activity := range v.p.Activities {
			b.Modes[a] = ints(0, 1, 2)[:min(3, len(activity.Modes))]
		}
		checkNoDuty(t, "the project has "+v.name, v.p, b)
	}
	for _, n := range ints(math.MinInt, -1, 0, 1, 12, 13, math.MaxInt) {
		for a := range 3 {
			p := timed(t)
			p.Activities[a].Modes[0].Duration = n
			b := box(ints(4, 4, 4), ints(4, 5, 6), ints(0), ints(1), ints(1))
			if n == 1 || n == 12 {
				checkDuty(t, p, b)
			} else {
				checkNoDuty(t, fmt.Sprint("activity ", a, " has the duration ", n), p, b)
			}
		}
	}
}

func TestP15CompulsoryPartsOfNilAndEmptyLists(t *testing.T) {
	p := lasting(lasting(chain(3), 0, 4, 7), 2, 9, 5)
	b := box(ints(3, 3, 3), ints(5, 3, 62), ints(0, 1), ints(0), ints(1))
	for _, q := range []impl.Project{p, deepCopy(p)} {
		for _, c := range []impl.Domain{b, wholeBox(b)} {
			checkDuty(t, q, c)
			checkNoSuch(t, q, c)
		}
		for _, none := range [][]int{nil, {}} {
			checkNoDuty(t, "the modes are empty", q, edited(b, func(b *impl.Domain) { b.Modes[1] = none }))
			checkNoDuty(t, "the lists are empty", q, impl.Domain{MinStart: none, MaxStart: none})
		}
	}
	q := timed(t)
	c := box(ints(4, 4, 4), ints(4, 5, 6), ints(0), ints(0, 1, 2), ints(0, 1))
	checkDuty(t, deepCopy(q), c)
	checkDuty(t, q, wholeBox(c))
}

func TestP15CompulsoryPartsWithVeryLongLists(t *testing.T) {
	long := make([]int, 100000)
	p := timed(t)
	many := impl.Domain{MinStart: long, MaxStart: long, Modes: slices.Repeat([][]int{ints(0)}, len(long))}
	checkNoDuty(t, "there are very many activities", p, many)
	checkNoDuty(t, "there are very many modes", p, box(ints(0, 0, 0), ints(0, 0, 0), ints(0), long, ints(0)))
	checkNoDuty(t, "there are very many activities in the project too", linked(len(long)), many)
}

func TestP15CompulsoryPartsLeaveTheirArgumentsAlone(t *testing.T) {
	for _, v := range variants() {
		p, kept := roomy(v.p)
		b, boxKept := roomyBox(box(ints(0, 1, 2, 3, 4, 5), ints(2, 2, 2, 5, 6, 7), ints(0), ints(0, 1), ints(1, 2), ints(0), ints(1), ints(0, 1, 2)))
		for n := -1; n <= 6; n++ {
			impl.CompulsoryPart(p, b, n)
			impl.ShortestDuration(p, b, n)
			impl.RequiredUsage(p, b, 0, n)
			impl.CompulsoryUsage(p, b, n, 2)
			impl.OverloadTime(p, b, n)
			impl.CompulsoryWork(p, b, n, 0, 9)
		}
		if !kept() || !boxKept() {
			t.Errorf("a function of chapter 15 changes its argument, a domain or a project with %s", v.name)
		}
	}
}

func TestP15CompulsoryPartsKeepNoState(t *testing.T) {
	p := timed(t)
	b := box(ints(4, 4, 4), ints(4, 5, 6), ints(0), ints(0), ints(1))
	for range 3 {
		checkPart(t, " again", p, b, 1, 5, 6, true)
		checkInt(t, "CompulsoryUsage again", impl.CompulsoryUsage(p, b, 0, 5), 5)
		checkInt(t, "OverloadTime again", impl.OverloadTime(p, b, 0), 5)
		checkInt(t, "CompulsoryWork again", impl.CompulsoryWork(p, b, 0, 0, 60), 3+4+6)
		checkInt(t, "ShortestDuration again", impl.ShortestDuration(p, b, 2), 4)
		checkInt(t, "RequiredUsage again", impl.RequiredUsage(p, b, 0, 2), 3)
		q := crowded(5)
		for res := range q.Resources {
			impl.OverloadTime(q, tightBox(q, 5), res)
			impl.CompulsoryWork(q, impl.InitialDomain(q), res, 0, 60)
		}
		p, b = deepCopy(p), wholeBox(b)
	}
}
