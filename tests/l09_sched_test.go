package tests

import (
	"fmt"
	"math"
	"math/rand"
	"reflect"
	"regexp"
	"slices"
	"strings"
	"testing"

	"loop.example/g00806/impl"
)

// The pattern of a schedule's text according to chapter 10, without the limits of its numbers and names, independent of the program.
var schedulePattern = regexp.MustCompile(`\A[^ @/]+@[0-9]+/[0-9]+( [^ @/]+@[0-9]+/[0-9]+)*\z`)

// placed makes a schedule of numbers that are in turn a start and a mode.
func placed(numbers ...int) impl.Schedule {
	var s impl.Schedule
	for i := 0; i+1 < len(numbers); i += 2 {
		s.Starts, s.Modes = append(s.Starts, numbers[i]), append(s.Modes, numbers[i+1])
	}
	return s
}

// allAtZero gives every activity, also of a project that is not valid, the start and the mode 0.
func allAtZero(p impl.Project) impl.Schedule {
	return impl.Schedule{Starts: make([]int, len(p.Activities)), Modes: make([]int, len(p.Activities))}
}

// with returns a copy of a schedule in which an activity has another start and another mode.
func with(s impl.Schedule, a, start, mode int) impl.Schedule {
	c := impl.Schedule{Starts: slices.Clone(s.Starts), Modes: slices.Clone(s.Modes)}
	c.Starts[a], c.Modes[a] = start, mode
	return c
}

// someSchedule is ScheduleForm for p, and the same for the same seed; its starts are often close to each other or to MaxTime.
func someSchedule(p impl.Project, seed int64) impl.Schedule {
	r := rand.New(rand.NewSource(seed))
	s := allAtZero(p)
	for a := range p.Activities {
		s.Starts[a] = []int{r.Intn(4), r.Intn(61), 60 - r.Intn(4), 60}[r.Intn(4)]
		s.Modes[a] = r.Intn(len(p.Activities[a].Modes))
	}
	return s
}

// crowded is a valid project with one machine and two other resources, whose capacities are sometimes exceeded.
func crowded(seed int64) impl.Project {
	r := rand.New(rand.NewSource(seed))
	p := chain(1 + r.Intn(6))
	p.Stocks = ints(r.Intn(101), r.Intn(101))
	for range 3 {
		steps := profile(0, r.Intn(12), 1+r.Intn(20), r.Intn(12), 30+r.Intn(20), r.Intn(12), 60, r.Intn(12))
		p.Resources = append(p.Resources, impl.Resource{Steps: steps})
	}
	p.Resources[1].Setup = setupOf(r.Intn(13), 3, 5)
	for a := range p.Activities {
		p.Activities[a].Modes = nil
		for range 1 + r.Intn(3) {
			usage := ints(r.Intn(6), r.Intn(3), r.Intn(6))
			p.Activities[a].Modes = append(p.Activities[a].Modes, mode(1+r.Intn(12), usage, ints(r.Intn(21), r.Intn(21))))
		}
	}
	return p
}

// scheduled is a project with a schedule that is ScheduleForm for it.
type scheduled struct {
	p impl.Project
	s impl.Schedule
}

func scheduledProjects() []scheduled {
	var all []scheduled
	for i, v := range chosen(true) {
		all = append(all, scheduled{v.p, someSchedule(v.p, int64(i))})
	}
	for seed := range int64(1500) {
		for _, p := range []impl.Project{randomProject(seed), crowded(seed)} {
			all = append(all, scheduled{p, someSchedule(p, seed)})
		}
	}
	return all
}

// chart is what happens at each time, filled in hour by hour.
type chart struct {
	running     [80][]int
	usage       [][80]int
	consumption []int
	ends        []int
	makespan    int
}

func chartOf(p impl.Project, s impl.Schedule) chart {
	c := chart{usage: make([][80]int, len(p.Resources)), consumption: make([]int, len(p.Stocks))}
	for a, activity := range p.Activities {
		m := activity.Modes[s.Modes[a]]
		at := s.Starts[a]
		for range m.Duration {
			c.running[at] = append(c.running[at], a)
			for res, n := range m.Usage {
				c.usage[res][at] += n
			}
			at++
		}
		for stock, n := range m.Consumption {
			c.consumption[stock] += n
		}
		c.ends = append(c.ends, at)
	}
	c.makespan = slices.Max(c.ends)
	return c
}

// idle counts MaxTime as a time, which does not lie beyond MaxTime.
func (c chart) idle(p impl.Project, res int) int {
	sum := 0
	for at, capacity := range levelsOf(p.Resources[res].Steps) {
		if at < c.makespan && capacity > c.usage[res][at] {
			sum += capacity - c.usage[res][at]
		}
	}
	return sum
}

// otherTimes are at no time of a chart.
func otherTimes() []int {
	return ints(math.MinInt, math.MinInt+1, -61, -60, -12, -2, -1, 80, 100, 1000, math.MaxInt-72, math.MaxInt-1, math.MaxInt)
}

func checkChart(t *testing.T, p impl.Project, s impl.Schedule) {
	t.Helper()
	name := fmt.Sprintf(" with %+v of %+v", s, p)
	c := chartOf(p, s)
	checkBool(t, "ScheduleForm"+name, impl.ScheduleForm(p, s), true)
	checkInt(t, "Makespan"+name, impl.Makespan(p, s), c.makespan)
	for a, end := range c.ends {
		checkInt(t, fmt.Sprint("EndTime of ", a, name), impl.EndTime(p, s, a), end)
	}
	for at, running := range c.running {
		same(t, fmt.Sprint("RunningAt ", at, name), impl.RunningAt(p, s, at), running)
		for res := range p.Resources {
			checkInt(t, fmt.Sprint("UsageAt ", at, " of resource ", res, name), impl.UsageAt(p, s, res, at), c.usage[res][at])
		}
	}
	for res := range p.Resources {
		checkInt(t, fmt.Sprint("IdleCapacity of resource ", res, name), impl.IdleCapacity(p, s, res), c.idle(p, res))
	}
	for stock, n := range c.consumption {
		checkInt(t, fmt.Sprint("ConsumptionOf stock ", stock, name), impl.ConsumptionOf(p, s, stock), n)
	}
	checkNothingElse(t, name, p, s)
}

// checkNothingElse calls the functions with activities, resources, stocks and times that do not exist.
func checkNothingElse(t *testing.T, name string, p impl.Project, s impl.Schedule) {
	t.Helper()
	for _, n := range append(noIndexes(), len(p.Activities), len(p.Activities)+1) {
		checkInt(t, fmt.Sprint("EndTime of ", n, name), impl.EndTime(p, s, n), -1)
	}
	for _, n := range append(noIndexes(), len(p.Resources), len(p.Resources)+1) {
		checkInt(t, fmt.Sprint("UsageAt of resource ", n, name), impl.UsageAt(p, s, n, s.Starts[0]), 0)
		checkInt(t, fmt.Sprint("IdleCapacity of resource ", n, name), impl.IdleCapacity(p, s, n), 0)
	}
	for _, n := range append(noIndexes(), len(p.Stocks), len(p.Stocks)+1) {
		checkInt(t, fmt.Sprint("ConsumptionOf stock ", n, name), impl.ConsumptionOf(p, s, n), 0)
	}
	for _, at := range otherTimes() {
		same(t, fmt.Sprint("RunningAt ", at, name), impl.RunningAt(p, s, at), nil)
		for res := range p.Resources {
			checkInt(t, fmt.Sprint("UsageAt ", at, " of resource ", res, name), impl.UsageAt(p, s, res, at), 0)
		}
	}
}

// checkNoForm expects what the functions return for a schedule that is not ScheduleForm.
func checkNoForm(t *testing.T, name string, p impl.Project, s impl.Schedule) {
	t.Helper()
	checkBool(t, "ScheduleForm with "+name, impl.ScheduleForm(p, s), false)
	checkInt(t, "Makespan with "+name, impl.Makespan(p, s), -1)
	if got := impl.FormatSchedule(p, s); got != "" {
		t.Errorf("FormatSchedule with %s = %q", name, got)
	}
	for _, n := range append(noIndexes(), 0, 1, 2, 3, 5, 6) {
		checkInt(t, fmt.Sprint("EndTime of ", n, " with ", name), impl.EndTime(p, s, n), -1)
		checkInt(t, fmt.Sprint("ConsumptionOf stock ", n, " with ", name), impl.ConsumptionOf(p, s, n), 0)
		checkInt(t, fmt.Sprint("IdleCapacity of resource ", n, " with ", name), impl.IdleCapacity(p, s, n), 0)
		for _, at := range ints(math.MinInt, -1, 0, 1, 60, math.MaxInt) {
			checkInt(t, fmt.Sprint("UsageAt ", at, " of resource ", n, " with ", name), impl.UsageAt(p, s, n, at), 0)
		}
	}
	for _, at := range append(otherTimes(), 0, 1, 5, 60, 61) {
		same(t, fmt.Sprint("RunningAt ", at, " with ", name), impl.RunningAt(p, s, at), nil)
	}
}

// reading returns the project of a text of chapter 7.
func reading(t *testing.T, text string) impl.Project {
	t.Helper()
	p, ok := readProject(text)
	if !ok {
		t.Fatalf("%q is the text of no project", text)
	}
	return p
}

// tiny has so few schedules with early starts that all of them can be tried.
func tiny(t *testing.T) impl.Project {
	return reading(t, "deadline 5\nresource 0:2,2:1\nresource 0:1 0,1,1,1,1,0,1,1,1,1,0,1,1,1,1,0\nstock 3\nactivity a 0 1/2,0/2 3/1,1/0\nactivity b 1 2/1,1/1\nactivity c 2 1/0,1/1 2/1,0/2\n")
}

// earlySchedules are all schedules with starts up to most, in the order of their modes and then of their starts.
func earlySchedules(p impl.Project, most int) []impl.Schedule {
	modes, starts := [][]int{nil}, [][]int{nil}
	extend := func(lists [][]int, count int) [][]int {
		var longer [][]int
		for _, l := range lists {
			for n := range count {
				longer = append(longer, append(slices.Clone(l), n))
			}
		}
		return longer
	}
	for _, a := range p.Activities {
		modes, starts = extend(modes, len(a.Modes)), extend(starts, most+1)
	}
	var all []impl.Schedule
	for _, m := range modes {
		for _, l := range starts {
			all = append(all, impl.Schedule{Starts: slices.Clone(l), Modes: slices.Clone(m)})
		}
	}
	return all
}

func TestP4EveryScheduleOfSmallNumbersHasTheFormOnce(t *testing.T) {
	p := tiny(t)
	all := earlySchedules(p, 4)
	checkInt(t, "the number of schedules", len(all), 4*125)
	seen := map[string]bool{}
	for i, s := range all {
		text := impl.FormatSchedule(p, s)
		checkBool(t, callOf("ScheduleForm", s), impl.ScheduleForm(p, s), true)
		checkBool(t, "the text is new, "+text, text != "" && !seen[text], true)
		seen[text] = true
		for j, o := range all {
			checkBool(t, callOf("ScheduleEqual", s, o), impl.ScheduleEqual(s, o), i == j)
		}
	}
}

// breach is where a schedule exceeds what its project has; the links and the machines follow in chapter 11.
type breach struct {
	deadline bool
	times    [2]uint64
	stock    bool
}

func TestP4WhatIsExceededAtEveryTime(t *testing.T) {
	p := tiny(t)
	counts := map[breach]int{}
	for _, s := range earlySchedules(p, 6) {
		c := chartOf(p, s)
		got := breach{deadline: impl.Makespan(p, s) > p.Deadline, stock: impl.ConsumptionOf(p, s, 0) > p.Stocks[0]}
		want := breach{deadline: c.makespan > p.Deadline, stock: c.consumption[0] > p.Stocks[0]}
		for res, r := range p.Resources {
			for at, capacity := range levelsOf(r.Steps) {
				got.times[res] |= uint64(b2i(impl.UsageAt(p, s, res, at) > capacity)) << at
				want.times[res] |= uint64(b2i(c.usage[res][at] > capacity)) << at
			}
		}
		if got != want {
			t.Errorf("%+v exceeds %+v, want %+v", s, got, want)
		}
		counts[got]++
	}
	checkBool(t, "some schedules exceed nothing", counts[breach{}] > 0, true)
	checkBool(t, "the others differ", len(counts) > 50, true)
}

func TestP4NothingIsUsedButByWhatRuns(t *testing.T) {
	for _, x := range scheduledProjects() {
		work, lasted := make([]int, len(x.p.Resources)), 0
		for a, m := range x.s.Modes {
			chosen := x.p.Activities[a].Modes[m]
			lasted += chosen.Duration
			for res, n := range chosen.Usage {
				work[res] += n * chosen.Duration
			}
		}
		for at := -5; at < 80; at++ {
			running := impl.RunningAt(x.p, x.s, at)
			lasted -= len(running)
			for res := range work {
				used := impl.UsageAt(x.p, x.s, res, at)
				work[res] -= used
				for _, a := range running {
					used -= x.p.Activities[a].Modes[x.s.Modes[a]].Usage[res]
				}
				if used != 0 {
					t.Errorf("what does not run uses %d at %d, with %+v of %+v", used, at, x.s, x.p)
				}
			}
		}
		if lasted != 0 || slices.ContainsFunc(work, func(n int) bool { return n != 0 }) {
			t.Errorf("the time %d and the work %v are missing, with %+v of %+v", lasted, work, x.s, x.p)
		}
	}
}

func TestP15ScheduleFormOfStartsAndModes(t *testing.T) {
	for _, p := range []impl.Project{chain(1), chain(2), chain(6), full(), plain(3, 2)} {
		for a, activity := range p.Activities {
			for _, n := range edgeTimes() {
				s := with(allAtZero(p), a, n, 0)
				checkBool(t, callOf("ScheduleForm", s), impl.ScheduleForm(p, s), n >= 0 && n <= 60)
				if n < 0 || n > 60 {
					checkNoForm(t, callOf("a start", s), p, s)
				}
			}
			count := len(activity.Modes)
			for _, n := range ints(math.MinInt, -count, -2, -1, 0, count-1, count, count+1, 3, 6, math.MaxInt) {
				s := with(allAtZero(p), a, 60, n)
				checkBool(t, callOf("ScheduleForm", s), impl.ScheduleForm(p, s), n >= 0 && n < count)
				if n < 0 || n >= count {
					checkNoForm(t, callOf("a mode", s), p, s)
				}
			}
		}
	}
}

func TestP15ScheduleFormOfFewAndManyElements(t *testing.T) {
	for n := 1; n <= 6; n++ {
		for starts := range 9 {
			for modes := range 9 {
				s := impl.Schedule{Starts: make([]int, starts), Modes: make([]int, modes)}
				checkBool(t, callOf("ScheduleForm", n, s), impl.ScheduleForm(chain(n), s), starts == n && modes == n)
				if starts != n || modes != n {
					checkNoForm(t, callOf("lists", n, s), chain(n), s)
				}
			}
		}
		many := make([]int, 100000)
		checkNoForm(t, "very many Starts", chain(n), impl.Schedule{Starts: many, Modes: make([]int, n)})
		checkNoForm(t, "very many Modes", chain(n), impl.Schedule{Starts: make([]int, n), Modes: many})
		checkNoForm(t, "very many of both", chain(n), impl.Schedule{Starts: many, Modes: many})
	}
	p := full()
	checkBool(t, "ScheduleForm of a full project", impl.ScheduleForm(p, placed(0, 0, 60, 1, 30, 2, 1, 0, 59, 1, 0, 2)), true)
	checkNoForm(t, "Starts and Modes exchanged", p, impl.Schedule{Starts: ints(0, 1, 2, 0, 1, 2), Modes: ints(0, 60, 30, 1, 59, 0)})
	checkNoForm(t, "the zero value", p, impl.Schedule{})
}

func TestP15SchedulesOfProjectsThatAreNotValid(t *testing.T) {
	for _, v := range badNetworks() {
		s := allAtZero(v.p)
		checkNoForm(t, v.name, v.p, s)
		checkNoForm(t, "no schedule and "+v.name, v.p, impl.Schedule{})
		if len(v.p.Activities) <= 9 {
			checkNoSchedule(t, v.p, scheduleText(v.p, s))
		}
		checkNoSchedule(t, v.p, "")
	}
	p := linked(100000)
	checkNoSchedule(t, p, scheduleText(p, allAtZero(p)))
}

func TestP15EndTimeAndMakespanTable(t *testing.T) {
	p := lasting(lasting(lasting(chain(3), 0, 12, 1), 1, 5, 7), 2, 3)
	cases := []struct {
		s        impl.Schedule
		ends     []int
		makespan int
	}{
		{placed(0, 0, 0, 0, 0, 0), ints(12, 5, 3), 12},
		{placed(0, 1, 0, 0, 0, 0), ints(1, 5, 3), 5},
		{placed(0, 1, 0, 1, 5, 0), ints(1, 7, 8), 8},
		{placed(0, 1, 4, 0, 6, 0), ints(1, 9, 9), 9},
		{placed(2, 0, 8, 0, 10, 0), ints(14, 13, 13), 14},
		{placed(10, 0, 20, 1, 15, 0), ints(22, 27, 18), 27},
		{placed(48, 0, 55, 0, 57, 0), ints(60, 60, 60), 60},
		{placed(49, 0, 0, 0, 0, 0), ints(61, 5, 3), 61},
		{placed(0, 0, 0, 0, 60, 0), ints(12, 5, 63), 63},
		{placed(60, 1, 60, 1, 60, 0), ints(61, 67, 63), 67},
		{placed(60, 0, 59, 1, 60, 0), ints(72, 66, 63), 72},
	}
	for _, c := range cases {
		checkInt(t, callOf("Makespan", c.s), impl.Makespan(p, c.s), c.makespan)
		for a, end := range c.ends {
			checkInt(t, callOf("EndTime", c.s, a), impl.EndTime(p, c.s, a), end)
		}
		for _, a := range append(noIndexes(), 3, 4, 5, 6) {
			checkInt(t, callOf("EndTime", c.s, a), impl.EndTime(p, c.s, a), -1)
		}
	}
	for n := 1; n <= 6; n++ {
		s := allAtZero(chain(n))
		checkInt(t, callOf("EndTime of the last activity", n), impl.EndTime(chain(n), s, n-1), 1)
		checkInt(t, callOf("EndTime after the last activity", n), impl.EndTime(chain(n), s, n), -1)
		checkInt(t, callOf("Makespan", n), impl.Makespan(chain(n), s), 1)
	}
}

func TestP15RunningAtTable(t *testing.T) {
	p := lasting(lasting(lasting(chain(3), 0, 4), 1, 2, 12), 2, 1)
	s := placed(3, 0, 5, 0, 9, 0)
	cases := []struct {
		s    impl.Schedule
		at   int
		want []int
	}{
		{s, 0, nil}, {s, 2, nil}, {s, 3, ints(0)}, {s, 4, ints(0)}, {s, 5, ints(0, 1)}, {s, 6, ints(0, 1)}, {s, 7, nil}, {s, 8, nil}, {s, 9, ints(2)}, {s, 10, nil}, {s, 60, nil},
		{placed(5, 0, 5, 1, 5, 0), 4, nil},
		{placed(5, 0, 5, 1, 5, 0), 5, ints(0, 1, 2)},
		{placed(5, 0, 5, 1, 5, 0), 6, ints(0, 1)},
		{placed(5, 0, 5, 1, 5, 0), 9, ints(1)},
		{placed(5, 0, 5, 1, 5, 0), 16, ints(1)},
		{placed(5, 0, 5, 1, 5, 0), 17, nil},
		{placed(4, 0, 3, 1, 2, 0), 4, ints(0, 1)},
		{placed(60, 0, 60, 1, 60, 0), 59, nil},
		{placed(60, 0, 60, 1, 60, 0), 60, ints(0, 1, 2)},
		{placed(60, 0, 60, 1, 60, 0), 61, ints(0, 1)},
		{placed(60, 0, 60, 1, 60, 0), 64, ints(1)},
		{placed(60, 0, 60, 1, 60, 0), 71, ints(1)},
		{placed(60, 0, 60, 1, 60, 0), 72, nil},
		{placed(0, 0, 0, 1, 0, 0), -1, nil},
		{placed(0, 0, 0, 1, 0, 0), 0, ints(0, 1, 2)},
	}
	for _, c := range cases {
		same(t, callOf("RunningAt", c.s, c.at), impl.RunningAt(p, c.s, c.at), c.want)
		for _, at := range otherTimes() {
			same(t, callOf("RunningAt", c.s, at), impl.RunningAt(p, c.s, at), nil)
		}
	}
	same(t, "RunningAt of six activities", impl.RunningAt(chain(6), allAtZero(chain(6)), 0), ints(0, 1, 2, 3, 4, 5))
}

// sharing has two resources and two stocks that its activities need at different amounts in their modes.
func sharing(t *testing.T) impl.Project {
	return reading(t, "deadline 9\nresource 0:2,6:1\nresource 0:20\nstock 5\nstock 100\nactivity a 0 3/1,20/0,20\nactivity b 0 2/2,20/1,20 4/1,0/4,0\nactivity c 0 2/0,20/2,20 1/5,7/20,1 12/3,1/3,0\n")
}

func TestP15UsageAtTable(t *testing.T) {
	p := sharing(t)
	cases := []struct {
		s        impl.Schedule
		res, at  int
		expected int
	}{
		{placed(0, 0, 0, 0, 0, 0), 0, 0, 3},
		{placed(0, 0, 0, 0, 0, 0), 1, 0, 60},
		{placed(0, 0, 0, 0, 0, 0), 0, 1, 3},
		{placed(0, 0, 0, 0, 0, 0), 0, 2, 1},
		{placed(0, 0, 0, 0, 0, 0), 1, 2, 20},
		{placed(0, 0, 0, 0, 0, 0), 0, 3, 0},
		{placed(0, 0, 0, 0, 0, 0), 0, -1, 0},
		{placed(0, 0, 0, 1, 0, 1), 0, 0, 7},
		{placed(0, 0, 0, 1, 0, 1), 1, 0, 27},
		{placed(0, 0, 0, 1, 0, 1), 0, 1, 2},
		{placed(0, 0, 0, 1, 0, 1), 0, 3, 1},
		{placed(0, 0, 0, 1, 0, 1), 1, 3, 0},
		{placed(3, 0, 5, 0, 7, 1), 0, 2, 0},
		{placed(3, 0, 5, 0, 7, 1), 0, 3, 1},
		{placed(3, 0, 5, 0, 7, 1), 0, 5, 3},
		{placed(3, 0, 5, 0, 7, 1), 0, 6, 2},
		{placed(3, 0, 5, 0, 7, 1), 0, 7, 5},
		{placed(3, 0, 5, 0, 7, 1), 1, 7, 7},
		{placed(3, 0, 5, 0, 7, 1), 0, 8, 0},
		{placed(60, 0, 60, 1, 60, 2), 0, 59, 0},
		{placed(60, 0, 60, 1, 60, 2), 0, 60, 5},
		{placed(60, 0, 60, 1, 60, 2), 0, 62, 5},
		{placed(60, 0, 60, 1, 60, 2), 0, 63, 4},
		{placed(60, 0, 60, 1, 60, 2), 0, 71, 3},
		{placed(60, 0, 60, 1, 60, 2), 1, 71, 1},
		{placed(60, 0, 60, 1, 60, 2), 0, 72, 0},
	}
	for _, c := range cases {
		checkInt(t, callOf("UsageAt", c.s, c.res, c.at), impl.UsageAt(p, c.s, c.res, c.at), c.expected)
		for _, res := range append(noIndexes(), 2, 3) {
			checkInt(t, callOf("UsageAt", c.s, res, c.at), impl.UsageAt(p, c.s, res, c.at), 0)
		}
		for _, at := range otherTimes() {
			checkInt(t, callOf("UsageAt", c.s, c.res, at), impl.UsageAt(p, c.s, c.res, at), 0)
		}
	}
	for _, res := range append(noIndexes(), 0, 1, 2) {
		checkInt(t, callOf("UsageAt without resources", res), impl.UsageAt(chain(2), placed(0, 0, 0, 0), res, 0), 0)
	}
}

func TestP15ConsumptionOfTable(t *testing.T) {
	p := sharing(t)
	cases := []struct {
		s    impl.Schedule
		want []int
	}{
		{placed(0, 0, 0, 0, 0, 0), ints(3, 60)},
		{placed(0, 0, 0, 1, 0, 0), ints(6, 40)},
		{placed(0, 0, 0, 0, 0, 1), ints(21, 41)},
		{placed(0, 0, 0, 1, 0, 1), ints(24, 21)},
		{placed(0, 0, 0, 1, 0, 2), ints(7, 20)},
		{placed(60, 0, 60, 1, 60, 2), ints(7, 20)},
		{placed(9, 0, 0, 0, 50, 2), ints(4, 40)},
	}
	for _, c := range cases {
		for stock, want := range c.want {
			checkInt(t, callOf("ConsumptionOf", c.s, stock), impl.ConsumptionOf(p, c.s, stock), want)
		}
		for _, stock := range append(noIndexes(), 2, 3) {
			checkInt(t, callOf("ConsumptionOf", c.s, stock), impl.ConsumptionOf(p, c.s, stock), 0)
		}
	}
	for _, stock := range append(noIndexes(), 0, 1, 2) {
		checkInt(t, callOf("ConsumptionOf without stocks", stock), impl.ConsumptionOf(plain(3, 0), placed(0, 0), stock), 0)
	}
	one := reading(t, "deadline 9\nstock 0\nactivity a 0 1/-/20\nactivity b 0 1/-/20\nactivity c 0 1/-/20\nactivity d 0 1/-/20\nactivity e 0 1/-/20\nactivity f 0 1/-/20\n")
	checkInt(t, "ConsumptionOf the most", impl.ConsumptionOf(one, allAtZero(one), 0), 120)
	checkInt(t, "ConsumptionOf the second stock where there is one", impl.ConsumptionOf(one, allAtZero(one), 1), 0)
}

func TestP15IdleCapacityTable(t *testing.T) {
	const setup = " 0,9,9,9,9,0,9,9,9,9,0,9,9,9,9,0"
	three := "activity a 0 3/1/-\nactivity b 1 2/2/- 4/1/-\nactivity c 0 2/1/-\n"
	long := "activity a 0 12/2/- 1/20/-\n"
	cases := []struct {
		steps, activities string
		s                 impl.Schedule
		want              int
	}{
		{"0:2,6:1", three, placed(0, 0, 0, 1, 4, 0), 3},
		{"0:2,6:1", three, placed(0, 0, 0, 0, 0, 0), 1},
		{"0:2,6:1", three, placed(6, 0, 0, 0, 0, 0), 8},
		{"0:2,6:1", three, placed(5, 0, 0, 0, 0, 0), 7},
		{"0:2,6:1", three, placed(0, 0, 3, 0, 7, 0), 6},
		{"0:2,6:1", three, placed(0, 0, 5, 0, 8, 0), 8},
		{"0:2,6:1", three, placed(60, 0, 0, 0, 2, 0), 60},
		{"0:2,6:1,60:5", three, placed(60, 0, 0, 0, 2, 0), 64},
		{"0:0", three, placed(0, 0, 5, 1, 20, 0), 0},
		{"0:0,1:3,2:0", three, placed(0, 0, 0, 1, 60, 0), 1},
		{"0:20", three, placed(0, 0, 0, 0, 0, 0), 51},
		{"0:5", long, placed(0, 0), 36},
		{"0:5", long, placed(47, 0), 271},
		{"0:5", long, placed(48, 0), 276},
		{"0:5", long, placed(49, 0), 281},
		{"0:5", long, placed(50, 0), 283},
		{"0:5", long, placed(60, 0), 303},
		{"0:5,60:9", long, placed(59, 0), 305},
		{"0:5,60:9", long, placed(60, 0), 307},
		{"0:5,60:1", long, placed(60, 0), 300},
		{"0:0,60:9", long, placed(60, 0), 7},
		{"0:5", long, placed(0, 1), 0},
		{"0:5", long, placed(7, 1), 35},
		{"0:5", long, placed(59, 1), 295},
		{"0:5,60:20", long, placed(60, 1), 300},
		{"0:20", long, placed(60, 1), 1200},
		{"0:1" + setup, three, placed(0, 0, 3, 1, 7, 0), 0},
		{"0:1" + setup, three, placed(0, 0, 12, 1, 25, 0), 18},
		{"0:3" + setup, three, placed(0, 0, 0, 1, 0, 0), 3},
	}
	for _, c := range cases {
		p := reading(t, "deadline 9\nresource "+c.steps+"\n"+c.activities)
		checkInt(t, callOf("IdleCapacity", c.steps, c.activities, c.s), impl.IdleCapacity(p, c.s, 0), c.want)
		for _, res := range append(noIndexes(), 1, 2, 3) {
			checkInt(t, callOf("IdleCapacity", c.s, res), impl.IdleCapacity(p, c.s, res), 0)
		}
	}
	p := sharing(t)
	checkInt(t, "IdleCapacity of the first of two", impl.IdleCapacity(p, placed(0, 0, 3, 1, 0, 0), 0), 6)
	checkInt(t, "IdleCapacity of the second of two", impl.IdleCapacity(p, placed(0, 0, 3, 1, 0, 0), 1), 80)
	checkInt(t, "IdleCapacity of none", impl.IdleCapacity(chain(2), placed(0, 0, 9, 0), 0), 0)
}

func TestP15Schedules(t *testing.T) {
	exceeded, beyond := 0, 0
	for _, x := range scheduledProjects() {
		checkChart(t, x.p, x.s)
		c := chartOf(x.p, x.s)
		beyond += b2i(c.makespan > 60)
		for res, r := range x.p.Resources {
			for at, capacity := range levelsOf(r.Steps) {
				exceeded += b2i(c.usage[res][at] > capacity)
			}
		}
	}
	checkBool(t, "many capacities are exceeded", exceeded > 1000, true)
	checkBool(t, "many makespans lie beyond MaxTime", beyond > 1000, true)
}

// scheduleText writes any schedule as chapter 10 describes it, also one that is not ScheduleForm.
func scheduleText(p impl.Project, s impl.Schedule) string {
	var words []string
	for a, activity := range p.Activities {
		words = append(words, fmt.Sprintf("%s@%d/%d", activity.Name, s.Starts[a], s.Modes[a]))
	}
	return strings.Join(words, " ")
}

// readSchedule returns the schedule that a text stands for in a valid project according to chapter 10.
func readSchedule(p impl.Project, text string) (impl.Schedule, bool) {
	words := strings.Split(text, " ")
	if !schedulePattern.MatchString(text) || len(words) != len(p.Activities) {
		return impl.Schedule{}, false
	}
	var s impl.Schedule
	for a, word := range words {
		parts := strings.FieldsFunc(word, func(r rune) bool { return r == '@' || r == '/' })
		start, startOk := numberOf(parts[1])
		mode, modeOk := numberOf(parts[2])
		activity := p.Activities[a]
		if parts[0] != activity.Name || !startOk || start > 60 || !modeOk || mode >= len(activity.Modes) {
			return impl.Schedule{}, false
		}
		s.Starts, s.Modes = append(s.Starts, start), append(s.Modes, mode)
	}
	return s, true
}

func areEqual(s, o impl.Schedule) bool {
	return slices.Equal(s.Starts, o.Starts) && slices.Equal(s.Modes, o.Modes)
}

// checkSchedule expects a schedule, or the zero value and false, and the text of what is accepted.
func checkSchedule(t *testing.T, p impl.Project, text string, want impl.Schedule, ok bool) {
	t.Helper()
	got, gotOk := impl.ParseSchedule(p, text)
	if gotOk != ok || !areEqual(got, want) {
		t.Errorf("ParseSchedule(%q) = %+v, %v, want %+v, %v", text, got, gotOk, want, ok)
	}
	if gotOk && impl.FormatSchedule(p, got) != text {
		t.Errorf("ParseSchedule accepts %q, but FormatSchedule of it is %q", text, impl.FormatSchedule(p, got))
	}
}

func checkNoSchedule(t *testing.T, p impl.Project, text string) {
	t.Helper()
	checkSchedule(t, p, text, impl.Schedule{}, false)
}

// checkScheduleText compares ParseSchedule with readSchedule.
func checkScheduleText(t *testing.T, p impl.Project, text string) {
	t.Helper()
	want, ok := readSchedule(p, text)
	checkSchedule(t, p, text, want, ok)
}

// checkWritten expects that a schedule has this text and is recovered from it.
func checkWritten(t *testing.T, p impl.Project, s impl.Schedule, text string) {
	t.Helper()
	if got := impl.FormatSchedule(p, s); got != text {
		t.Errorf("%s = %q, want %q", callOf("FormatSchedule", s), got, text)
	}
	checkSchedule(t, p, text, s, true)
}

func TestP1ScheduleTexts(t *testing.T) {
	checkWritten(t, chain(1), placed(0, 0), "a0@0/0")
	checkWritten(t, chain(1), placed(60, 0), "a0@60/0")
	checkWritten(t, chain(2), placed(9, 0, 10, 0), "a0@9/0 a1@10/0")
	checkWritten(t, lasting(chain(1), 0, 1, 2, 3), placed(59, 2), "a0@59/2")
	checkWritten(t, full(), allAtZero(full()), "a@0/0 b1@0/0 c@0/0 abcdefgh@0/0 z9@0/0 start@0/0")
	checkWritten(t, full(), placed(60, 0, 1, 1, 10, 2, 0, 0, 59, 1, 7, 2), "a@60/0 b1@1/1 c@10/2 abcdefgh@0/0 z9@59/1 start@7/2")
	checkWritten(t, tiny(t), placed(4, 1, 0, 0, 60, 1), "a@4/1 b@0/0 c@60/1")
}

func TestP1SchedulesAreRecovered(t *testing.T) {
	for _, x := range scheduledProjects() {
		checkWritten(t, x.p, x.s, scheduleText(x.p, x.s))
	}
	p := full()
	for a, activity := range p.Activities {
		for start := range 61 {
			for m := range activity.Modes {
				s := with(allAtZero(p), a, start, m)
				checkWritten(t, p, s, scheduleText(p, s))
			}
		}
	}
}

func TestP1SchedulesThatAreNotValidAreRecovered(t *testing.T) {
	p := tiny(t)
	for _, s := range earlySchedules(p, 3) {
		checkWritten(t, p, s, scheduleText(p, s))
	}
}

func TestP15ScheduleTextsOfOtherNumbers(t *testing.T) {
	p := full()
	for a, activity := range p.Activities {
		for _, start := range append(edgeTimes(), 10, 99, 100, 100000, 100001) {
			for m := -2; m <= 4; m++ {
				s := with(allAtZero(p), a, start, m)
				want := ""
				if start >= 0 && start <= 60 && m >= 0 && m < len(activity.Modes) {
					want = scheduleText(p, s)
				}
				if got := impl.FormatSchedule(p, s); got != want {
					t.Errorf("%s = %q, want %q", callOf("FormatSchedule", s), got, want)
				}
				checkScheduleText(t, p, scheduleText(p, s))
			}
		}
	}
}

// basicTexts are the schedules of which the tests of texts make others.
func basicTexts() map[string]impl.Project {
	return map[string]impl.Project{
		"a@60/0 b1@1/1 c@10/2 abcdefgh@0/0 z9@59/1 start@7/2": full(),
		"a0@10/1 a1@6/0": lasting(chain(2), 0, 3, 2),
		"a0@0/0":         chain(1),
	}
}

func TestP15ScheduleTextsWithOneByteChanged(t *testing.T) {
	for text, p := range basicTexts() {
		for at := range len(text) + 1 {
			head, tail := text[:at], text[at:]
			for _, piece := range []string{"", " ", "\n", "\t", "@", "/", "-", "+", ",", ".", ":", "0", "1", "2", "3", "6", "9", "a", "b", "z", "A", "_", "\x00", "\xff", "\u00e9", "\u0661"} {
				checkScheduleText(t, p, head+piece+tail)
				if tail != "" {
					checkScheduleText(t, p, head+piece+tail[1:])
				}
			}
			checkScheduleText(t, p, head)
			if at > 0 {
				checkScheduleText(t, p, tail)
			}
		}
	}
}

func TestP15ScheduleTextsWithOneWordChanged(t *testing.T) {
	words := []string{
		"", "-", "@", "/", "@/", "a", "a@0", "a/0", "a0@0/0", "a1@0/0", "a@0/0", "b1@0/0", "b1@60/1", "z9@0/2", "@0/0", "a@/0", "a@0/", "a@0@0", "a/0/0", "a/0@0", "a@0/0/0", "a@0@0/0", "0@0/0", "0@a/0",
		"a@-1/0", "a@-0/0", "a@00/0", "a@+0/0", "a@0/-1", "a@0/-0", "a@0/00", "a@0/+0", "a@0/1", "a@60/0", "a@61/0", "a@100/0", "a@100000/0", "a@100001/0", "a@0/100001", "a@18446744073709551616/0", "a@0/18446744073709551616", "a@0/3",
		"A@0/0", "a@0x0/0", "a@0.0/0", "a@1e1/0", "a@0/0\n", "\na@0/0", "a @0/0", "a@ 0/0", "a@0 /0", "a@0/ 0", "a@0/0 ", " a@0/0", "a@0/0 a@0/0", "nobody@0/0", "c@5/2", "c@5/3", "start@5/2",
	}
	for text, p := range basicTexts() {
		cuts := regexp.MustCompile(`[^ ]+`).FindAllStringIndex(text, -1)
		for _, cut := range cuts {
			for _, word := range words {
				checkScheduleText(t, p, text[:cut[0]]+word+text[cut[1]:])
				checkScheduleText(t, p, text[:cut[1]]+" "+word+text[cut[1]:])
			}
		}
	}
}

func TestP15ScheduleTextsWithWordsMoved(t *testing.T) {
	for text, p := range basicTexts() {
		words := strings.Split(text, " ")
		for i, word := range words {
			rest := slices.Delete(slices.Clone(words), i, i+1)
			checkScheduleText(t, p, strings.Join(rest, " "))
			for at := range len(words) {
				checkScheduleText(t, p, strings.Join(slices.Insert(slices.Clone(rest), at, word), " "))
				checkScheduleText(t, p, strings.Join(slices.Insert(slices.Clone(words), at, word), " "))
			}
		}
		for _, by := range []string{"", "  ", ",", "\n", " \n", "/", "@"} {
			checkScheduleText(t, p, strings.Join(words, by))
		}
	}
}

func TestP15ParseScheduleTable(t *testing.T) {
	p := lasting(chain(2), 1, 1, 2)
	checkSchedule(t, p, "a0@0/0 a1@60/1", placed(0, 0, 60, 1), true)
	bad := []string{
		"", " ", "-", "a0@0/0", "a1@60/1", "a0@0/0 a1@60/1 ", " a0@0/0 a1@60/1", "a0@0/0  a1@60/1", "a0@0/0 a1@60/1\n", "a0@0/0\na1@60/1", "a0@0/0\ta1@60/1", "a0@0/0,a1@60/1", "a0@0/0a1@60/1",
		"a1@60/1 a0@0/0", "a0@0/0 a0@60/1", "a1@0/0 a1@60/1", "a1@0/0 a0@60/1", "a0@0/0 a1@60/1 a2@0/0", "a0@0/0 a1@60/1 a1@60/1", "a0@0/0 a0@0/0 a1@60/1",
		"a0@0/1 a1@60/1", "a0@0/0 a1@60/2", "a0@0/0 a1@61/1", "a0@-1/0 a1@60/1", "a0@0/-1 a1@60/1", "a0@-0/0 a1@60/1", "a0@+0/0 a1@60/1", "a0@00/0 a1@60/1", "a0@0/00 a1@60/1", "a0@0/0 a1@060/1", "a0@0/0 a1@60/01", "a0@0/0 a1@60/+1",
		"a0@/0 a1@60/1", "a0@0/ a1@60/1", "@0/0 a1@60/1", "a0@0 a1@60/1", "a0/0 a1@60/1", "a0 a1@60/1", "a0/0@0 a1@60/1", "a0/0/0 a1@60/1", "a0@0@0 a1@60/1", "a0@0/0/0 a1@60/1", "a0@@0/0 a1@60/1", "a0@0//0 a1@60/1",
		"A0@0/0 a1@60/1", "0@0/0 1@60/1", "a0 @0/0 a1@60/1", "a0@ 0/0 a1@60/1", "a0@18446744073709551616/0 a1@60/1", "a0@0/18446744073709551616 a1@60/1", "a0@100001/0 a1@60/1", "\ufeffa0@0/0 a1@60/1", "a0@0/0 a1@60/1\x00",
	}
	for _, text := range bad {
		checkNoSchedule(t, p, text)
	}
	checkNoSchedule(t, impl.Project{}, "")
	checkNoSchedule(t, impl.Project{}, "a0@0/0")
	checkNoSchedule(t, chain(3), "a0@0/0 a1@0/0")
	checkNoSchedule(t, chain(1), "a0@0/0 a1@0/0")
	nameless := chain(1)
	nameless.Activities[0].Name = ""
	checkNoSchedule(t, nameless, "@0/0")
	checkNoSchedule(t, nameless, "")
}

func TestP15ParseScheduleOfLongTexts(t *testing.T) {
	for text, p := range basicTexts() {
		for _, piece := range []string{" ", "@", "/", "a", "0", "@/", "@0/0 ", "a@0/0 ", " a@0/0", "\n", "\x00"} {
			checkNoSchedule(t, p, strings.Repeat(piece, 100000))
			checkNoSchedule(t, p, text+strings.Repeat(piece, 100000))
			checkNoSchedule(t, p, strings.Repeat(piece, 100000)+text)
		}
	}
	checkNoSchedule(t, chain(1), "a0@"+strings.Repeat("9", 1000000)+"/0")
	checkNoSchedule(t, chain(1), "a0@"+strings.Repeat("0", 1000000)+"/0")
	checkNoSchedule(t, chain(1), "a0@0/"+strings.Repeat("0", 1000000))
	checkNoSchedule(t, chain(1), strings.Repeat("a", 1000000)+"@0/0")
}

func TestP15ScheduleEqual(t *testing.T) {
	lists := append(listsOf(ints(math.MinInt, 0, 61), 3), slices.Repeat(ints(1), 100000), append(slices.Repeat(ints(1), 99999), 2))
	for i, starts := range lists {
		for j, modes := range lists {
			s := impl.Schedule{Starts: slices.Clone(starts), Modes: slices.Clone(modes)}
			for k, other := range lists {
				checkBool(t, fmt.Sprint("ScheduleEqual with the Starts ", i, " and ", k), impl.ScheduleEqual(s, impl.Schedule{Starts: other, Modes: modes}), i == k)
				checkBool(t, fmt.Sprint("ScheduleEqual with the Modes ", j, " and ", k), impl.ScheduleEqual(s, impl.Schedule{Starts: starts, Modes: other}), j == k)
			}
			checkBool(t, fmt.Sprint("ScheduleEqual with Starts ", i, " and Modes ", j, " exchanged"), impl.ScheduleEqual(s, impl.Schedule{Starts: modes, Modes: starts}), i == j)
		}
	}
	checkBool(t, "ScheduleEqual of other divisions", impl.ScheduleEqual(impl.Schedule{Starts: ints(1, 2), Modes: ints(3)}, impl.Schedule{Starts: ints(1), Modes: ints(2, 3)}), false)
}

func TestP15NilAndEmptyListsOfSchedulesAreEqual(t *testing.T) {
	var zero impl.Schedule
	empty := impl.Schedule{Starts: ints(), Modes: []int{}}
	for _, s := range []impl.Schedule{zero, {Starts: []int{}}, {Modes: []int{}}, {Starts: []int{}, Modes: []int{}}} {
		for _, o := range []impl.Schedule{zero, empty} {
			checkBool(t, callOf("ScheduleEqual", s, o), impl.ScheduleEqual(s, o), true)
			checkBool(t, callOf("ScheduleEqual", o, s), impl.ScheduleEqual(o, s), true)
		}
		checkBool(t, callOf("ScheduleEqual to another one", s), impl.ScheduleEqual(s, placed(0, 0)), false)
		checkNoForm(t, callOf("no activities", s), impl.Project{}, s)
		checkNoForm(t, callOf("one activity", s), chain(1), s)
		checkNoForm(t, callOf("no activities but a Deadline", s), deepCopy(chain(0)), s)
	}
	checkBool(t, "ScheduleEqual of nil and an empty list beside others", impl.ScheduleEqual(impl.Schedule{Starts: ints(1)}, impl.Schedule{Starts: ints(1), Modes: []int{}}), true)
	for _, p := range []impl.Project{chain(2), deepCopy(chain(2))} {
		checkChart(t, p, placed(0, 0, 7, 0))
		checkWritten(t, p, placed(0, 0, 7, 0), "a0@0/0 a1@7/0")
	}
}

func TestP15SchedulesLeaveTheirArgumentsAlone(t *testing.T) {
	for i, v := range variants() {
		p, kept := roomy(v.p)
		place := allAtZero(v.p)
		if v.ok {
			place = someSchedule(v.p, int64(i))
		}
		starts, startsKept := spare(place.Starts, 7)
		modes, modesKept := spare(place.Modes, 1)
		s := impl.Schedule{Starts: starts, Modes: modes}
		impl.ScheduleForm(p, s)
		impl.Makespan(p, s)
		impl.ScheduleEqual(s, s)
		for n := -1; n < 7; n++ {
			impl.EndTime(p, s, n)
			impl.UsageAt(p, s, n, 60)
			impl.ConsumptionOf(p, s, n)
			impl.IdleCapacity(p, s, n)
		}
		for _, at := range append(slices.Clone(starts), 60) {
			running := impl.RunningAt(p, s, at)
			checkNew(t, "RunningAt with "+v.name, running, p, s)
			overwrite(running, -9)
		}
		text := impl.FormatSchedule(p, s)
		checkNew(t, "FormatSchedule with "+v.name, text, p)
		parsed, ok := impl.ParseSchedule(p, text)
		checkBool(t, "ParseSchedule with "+v.name, ok, v.ok)
		checkNew(t, "ParseSchedule with "+v.name, parsed, p, s)
		overwrite(parsed.Starts, -9)
		if !slices.Equal(parsed.Modes, place.Modes[:len(parsed.Modes)]) {
			t.Errorf("the Starts of ParseSchedule with %s share memory with the Modes, %v", v.name, parsed.Modes)
		}
		overwrite(parsed.Modes, -9)
		if !kept() || !startsKept() || !modesKept() {
			t.Errorf("a function of chapter 10 changes its argument, %+v or a project with %s", place, v.name)
		}
	}
}

func TestP15SchedulesKeepNoState(t *testing.T) {
	type results struct {
		s        impl.Schedule
		running  []int
		text     string
		numbers  [4]int
		accepted bool
	}
	p := sharing(t)
	const text = "a@0/0 b@1/1 c@60/2"
	want := results{placed(0, 0, 1, 1, 60, 2), ints(0, 1), text, [4]int{72, 2, 7, 59}, true}
	for range 3 {
		s, ok := impl.ParseSchedule(p, text)
		got := results{s, impl.RunningAt(p, s, 2), impl.FormatSchedule(p, s), [4]int{impl.Makespan(p, s), impl.UsageAt(p, s, 0, 2), impl.ConsumptionOf(p, s, 0), impl.IdleCapacity(p, s, 0)}, ok}
		if !reflect.DeepEqual(got, want) {
			t.Errorf("the functions of chapter 10 return %+v, want %+v", got, want)
		}
		overwrite(got.running, -9)
		overwrite(s.Starts, -9)
		overwrite(s.Modes, -9)
		impl.ParseSchedule(chain(2), "a0@60/0 a1@59/0")
		impl.UsageAt(full(), allAtZero(full()), 1, 0)
	}
}
