package tests

import (
	"fmt"
	"math"
	"math/rand"
	"reflect"
	"regexp"
	"slices"
	"strings"
	"testing"

	"loop.example/g00806/impl"
)

func rule(kind, a, b, c int) impl.Rule {
	return impl.Rule{Kind: kind, A: a, B: b, C: c}
}

// listedRules are the rules that ViolatedRules considers for a valid project, in its order, with the numbers of the document.
func listedRules(p impl.Project) []impl.Rule {
	var all []impl.Rule
	for k := range p.Links {
		all = append(all, rule(1, k, 0, 0))
	}
	for a := range p.Activities {
		all = append(all, rule(2, a, 0, 0))
	}
	for res := range p.Resources {
		for at := range 61 {
			all = append(all, rule(3, res, at, 0))
		}
	}
	for res, r := range p.Resources {
		for a := range len(p.Activities) * b2i(len(r.Setup) > 0) {
			for o := a + 1; o < len(p.Activities); o++ {
				all = append(all, rule(5, res, a, o))
			}
		}
	}
	for stock := range p.Stocks {
		all = append(all, rule(6, stock, 0, 0))
	}
	return all
}

// workRules are the rules of work in intervals that end by most.
func workRules(p impl.Project, most int) []impl.Rule {
	var all []impl.Rule
	for res := range p.Resources {
		for x := range most {
			for y := x + 1; y <= most; y++ {
				all = append(all, rule(4, res, x, y))
			}
		}
	}
	return all
}

// rulesOf are all rules that a valid project has.
func rulesOf(p impl.Project) []impl.Rule {
	return append(listedRules(p), workRules(p, 60)...)
}

// someWorkRules are the same for the same seed; their intervals are often short, or begin or end where an activity does.
func someWorkRules(p impl.Project, s impl.Schedule, seed int64) []impl.Rule {
	r := rand.New(rand.NewSource(seed))
	edges := ints(0, 60)
	for a, end := range chartOf(p, s).ends {
		edges = append(edges, s.Starts[a], min(end, 60))
	}
	var all []impl.Rule
	for range 40 * b2i(len(p.Resources) > 0) {
		x, y := edges[r.Intn(len(edges))], edges[r.Intn(len(edges))]
		if r.Intn(2) == 0 {
			y = x + 1 + r.Intn(5)
		}
		if x < y && y <= 60 {
			all = append(all, rule(4, r.Intn(len(p.Resources)), x, y))
		}
	}
	return all
}

// isBroken tells by the chart of a schedule whether it violates a rule that the project has.
func isBroken(p impl.Project, s impl.Schedule, c chart, r impl.Rule) bool {
	switch r.Kind {
	case 1:
		k := p.Links[r.A]
		from := s.Starts[k.From]
		if k.FromEnd {
			from = c.ends[k.From]
		}
		return s.Starts[k.To]-from < k.Lag
	case 2:
		return c.ends[r.A] > p.Deadline
	case 3:
		return c.usage[r.A][r.B] > levelsOf(p.Resources[r.A].Steps)[r.B]
	case 4:
		work := 0
		for at := r.B; at < r.C; at++ {
			work += c.usage[r.A][at]
		}
		return work > levelsOf(p.Resources[r.A].Steps).total(r.B, r.C)
	case 5:
		return collide(p, s, c, r.A, r.B, r.C) && collide(p, s, c, r.A, r.C, r.B)
	}
	return c.consumption[r.A] > p.Stocks[r.A]
}

// collide reports whether two activities use a machine and the second one starts before the first one has ended and the machine is set up.
func collide(p impl.Project, s impl.Schedule, c chart, res, a, o int) bool {
	for _, i := range ints(a, o) {
		if p.Activities[i].Modes[s.Modes[i]].Usage[res] == 0 {
			return false
		}
	}
	return s.Starts[o] < c.ends[a]+p.Resources[res].Setup[p.Activities[a].Family][p.Activities[o].Family]
}

// brokenRules are the violated ones of some rules.
func brokenRules(p impl.Project, s impl.Schedule, rules []impl.Rule) []impl.Rule {
	c := chartOf(p, s)
	return slices.DeleteFunc(slices.Clone(rules), func(r impl.Rule) bool { return !isBroken(p, s, c, r) })
}

// checkFaults compares ViolatedRules and ScheduleOk, and Violates with each of the listed rules and of some others.
func checkFaults(t *testing.T, p impl.Project, s impl.Schedule, others []impl.Rule) {
	t.Helper()
	name := fmt.Sprintf(" with %+v of %+v", s, p)
	broken := brokenRules(p, s, listedRules(p))
	same(t, "ViolatedRules"+name, impl.ViolatedRules(p, s), broken)
	checkBool(t, "ScheduleOk"+name, impl.ScheduleOk(p, s), len(broken) == 0)
	c := chartOf(p, s)
	for _, r := range append(listedRules(p), others...) {
		checkBool(t, fmt.Sprint("Violates of ", r, name), impl.Violates(p, s, r), isBroken(p, s, c, r))
	}
}

// faultText returns the texts of ViolatedRules.
func faultText(p impl.Project, s impl.Schedule) string {
	var words []string
	for _, r := range impl.ViolatedRules(p, s) {
		words = append(words, impl.FormatRule(p, r))
	}
	return strings.Join(words, "; ")
}

// checkFaultText expects the texts of all violated rules of a schedule that is given as text.
func checkFaultText(t *testing.T, p impl.Project, text, want string) {
	t.Helper()
	s, ok := readSchedule(p, text)
	if !ok {
		t.Fatalf("%q is the text of no schedule", text)
	}
	if got := faultText(p, s); got != want {
		t.Errorf("ViolatedRules of %s are %q, want %q", text, got, want)
	}
	checkFaults(t, p, s, nil)
}

// limits is a project whose limits a schedule of it just meets.
func limits(seed int64) scheduled {
	r := rand.New(rand.NewSource(seed))
	p := chain(1 + r.Intn(6))
	p.Resources, p.Stocks = make([]impl.Resource, 3), ints(0, 0)
	s := allAtZero(p)
	for a := range p.Activities {
		p.Activities[a].Family, p.Activities[a].Modes = r.Intn(4), nil
		for range 1 + r.Intn(3) {
			usage := ints(r.Intn(4), r.Intn(3), r.Intn(2))
			p.Activities[a].Modes = append(p.Activities[a].Modes, mode(1+r.Intn(6), usage, ints(r.Intn(15), r.Intn(15))))
		}
		s.Starts[a], s.Modes[a] = r.Intn(24), r.Intn(len(p.Activities[a].Modes))
	}
	gap := ints(0, r.Intn(10), 60-chartOf(p, s).makespan)[r.Intn(3)]
	for a := range s.Starts {
		s.Starts[a] += gap
	}
	c := chartOf(p, s)
	p.Deadline, p.Stocks = c.makespan, c.consumption
	for res := range p.Resources {
		p.Resources[res].Steps = tightSteps(c.usage[res], r)
	}
	if setup, ok := tightSetup(p, s, c); ok {
		p.Resources[2].Setup = setup
	}
	for range 12 * b2i(len(s.Starts) > 1) {
		from := r.Intn(len(s.Starts))
		to := (from + 1 + r.Intn(len(s.Starts)-1)) % len(s.Starts)
		k := link(from, to, r.Intn(2) == 0, s.Starts[to]-s.Starts[from])
		if k.FromEnd {
			k.Lag = s.Starts[to] - c.ends[from]
		}
		if k.Lag >= -60 {
			p.Links = append(p.Links, k)
		}
	}
	return scheduled{p, s}
}

// tightSteps has some steps, each with the greatest usage until the next one.
func tightSteps(usage [80]int, r *rand.Rand) []impl.Step {
	ats := ints(0)
	for at := 1; at <= 60 && len(ats) < 8; at++ {
		if r.Intn(4) == 0 || usage[at] != usage[at-1] && r.Intn(2) == 0 {
			ats = append(ats, at)
		}
	}
	var steps []impl.Step
	for i, at := range ats {
		end := 61
		if i+1 < len(ats) {
			end = ats[i+1]
		}
		steps = append(steps, impl.Step{At: at, Capacity: slices.Max(usage[at:end])})
	}
	return steps
}

// tightSetup has the greatest setup times that a schedule permits on the resource 2; there are none if two users overlap.
func tightSetup(p impl.Project, s impl.Schedule, c chart) ([][]int, bool) {
	rows := setupOf(12, 0, 0)
	for a := range s.Starts {
		for o := range s.Starts {
			if a == o || p.Activities[a].Modes[s.Modes[a]].Usage[2] == 0 || p.Activities[o].Modes[s.Modes[o]].Usage[2] == 0 || s.Starts[a] > s.Starts[o] {
				continue
			}
			if s.Starts[o] < c.ends[a] {
				return nil, false
			}
			cell := &rows[p.Activities[a].Family][p.Activities[o].Family]
			*cell = min(*cell, s.Starts[o]-c.ends[a])
		}
	}
	return rows, true
}

// tightened are the projects with one limit that is less by one, if it was any, and the rules that a schedule then violates.
type tightened struct {
	p     impl.Project
	rules []impl.Rule
}

func tightenings(x scheduled) []tightened {
	var all []tightened
	c := chartOf(x.p, x.s)
	add := func(apply func(p *impl.Project), rules ...impl.Rule) {
		q := deepCopy(x.p)
		apply(&q)
		all = append(all, tightened{q, rules})
	}
	for i, k := range x.p.Links {
		if k.Lag < 60 {
			add(func(p *impl.Project) { p.Links[i].Lag++ }, rule(1, i, 0, 0))
		}
	}
	var late []impl.Rule
	for a, end := range c.ends {
		if end == c.makespan {
			late = append(late, rule(2, a, 0, 0))
		}
	}
	if x.p.Deadline > 1 {
		add(func(p *impl.Project) { p.Deadline-- }, late...)
	}
	for res, r := range x.p.Resources {
		for i, step := range r.Steps {
			var over []impl.Rule
			for at := step.At; at <= 60 && (i+1 == len(r.Steps) || at < r.Steps[i+1].At); at++ {
				if c.usage[res][at] == step.Capacity {
					over = append(over, rule(3, res, at, 0))
				}
			}
			if step.Capacity > 0 {
				add(func(p *impl.Project) { p.Resources[res].Steps[i].Capacity-- }, over...)
			}
		}
	}
	for stock, n := range x.p.Stocks {
		if n > 0 {
			add(func(p *impl.Project) { p.Stocks[stock]-- }, rule(6, stock, 0, 0))
		}
	}
	return append(all, slowerSetups(x, c)...)
}

// slowerSetups are the projects with one setup time that is greater by one.
func slowerSetups(x scheduled, c chart) []tightened {
	var all []tightened
	if len(x.p.Resources[2].Setup) == 0 {
		return nil
	}
	for f := range 4 {
		for g := range 4 {
			q := deepCopy(x.p)
			q.Resources[2].Setup[f][g]++
			var over []impl.Rule
			for a := range x.s.Starts {
				for o := a + 1; o < len(x.s.Starts); o++ {
					if collide(q, x.s, c, 2, a, o) && collide(q, x.s, c, 2, o, a) {
						over = append(over, rule(5, 2, a, o))
					}
				}
			}
			if q.Resources[2].Setup[f][g] <= 12 {
				all = append(all, tightened{q, over})
			}
		}
	}
	return all
}

func TestKindsOfRules(t *testing.T) {
	kinds := ints(impl.RuleNone, impl.RuleLink, impl.RuleEnd, impl.RuleTime, impl.RuleWork, impl.RulePair, impl.RuleStock)
	for n, kind := range kinds {
		checkInt(t, fmt.Sprint("the kind with the number ", n), kind, n)
	}
}

func TestP4LimitsThatAreMetAndMissedByOne(t *testing.T) {
	kinds := map[int]int{}
	for seed := range int64(700) {
		x := limits(seed)
		if faults := faultText(x.p, x.s); faults != "" || !impl.ScheduleOk(x.p, x.s) {
			t.Errorf("%+v violates %q of %+v", x.s, faults, x.p)
		}
		for _, y := range tightenings(x) {
			same(t, fmt.Sprintf("ViolatedRules with %+v of %+v", x.s, y.p), impl.ViolatedRules(y.p, x.s), y.rules)
			checkBool(t, fmt.Sprintf("ScheduleOk with %+v of %+v", x.s, y.p), impl.ScheduleOk(y.p, x.s), len(y.rules) == 0)
			for _, r := range y.rules {
				kinds[r.Kind]++
			}
		}
	}
	for _, kind := range ints(1, 2, 3, 5, 6) {
		checkBool(t, fmt.Sprint("many schedules violate rules of the kind ", kind), kinds[kind] > 200, true)
	}
}

func TestP4EveryScheduleOfSmallProjects(t *testing.T) {
	linked := "deadline 8\nresource 0:1,3:2 0,2,0,0,1,0,0,0,0,0,0,0,0,0,0,0\nstock 2\nactivity a 0 2/1/1 1/0/2\nactivity b 1 1/1/1 3/2/0\nend a b 1\nstart b a -5\n"
	later := tiny(t)
	later.Deadline = 8
	for text, p := range map[string]impl.Project{"later": later, "linked": reading(t, linked)} {
		valid, invalid := 0, 0
		for _, s := range earlySchedules(p, 7) {
			checkFaults(t, p, s, workRules(p, 8))
			if impl.ScheduleOk(p, s) {
				valid++
			} else {
				invalid++
			}
		}
		checkBool(t, fmt.Sprint(valid, " schedules of ", text, " are valid"), valid > 5, true)
		checkBool(t, fmt.Sprint(invalid, " schedules of ", text, " are not valid"), invalid > 50, true)
	}
}

// hours runs a schedule hour by hour and reports whether nothing is ever exceeded.
func hours(p impl.Project, s impl.Schedule) bool {
	c := chartOf(p, s)
	for at := range 80 {
		for res, r := range p.Resources {
			if at <= 60 && c.usage[res][at] > levelsOf(r.Steps)[at] {
				return false
			}
			if len(r.Setup) > 0 && !isFree(p, s, c, res, at) {
				return false
			}
		}
		if at >= p.Deadline && len(c.running[at]) > 0 {
			return false
		}
	}
	for stock, n := range c.consumption {
		if n > p.Stocks[stock] {
			return false
		}
	}
	for _, k := range p.Links {
		if k.FromEnd && s.Starts[k.To] < c.ends[k.From]+k.Lag || !k.FromEnd && s.Starts[k.To] < s.Starts[k.From]+k.Lag {
			return false
		}
	}
	return true
}

// isFree reports whether a machine that is in use at a time is used by one activity, and was set up since each earlier one.
func isFree(p impl.Project, s impl.Schedule, c chart, res, at int) bool {
	users := slices.DeleteFunc(slices.Clone(c.running[at]), func(a int) bool { return p.Activities[a].Modes[s.Modes[a]].Usage[res] == 0 })
	if len(users) == 0 {
		return true
	}
	now := users[0]
	for a, end := range c.ends {
		uses := p.Activities[a].Modes[s.Modes[a]].Usage[res] > 0
		setup := p.Resources[res].Setup[p.Activities[a].Family][p.Activities[now].Family]
		if a != now && uses && s.Starts[a] <= s.Starts[now] && end+setup > s.Starts[now] {
			return false
		}
	}
	return len(users) == 1
}

func TestP4ValidSchedulesExceedNothingAtAnyTime(t *testing.T) {
	valid := 0
	check := func(p impl.Project, s impl.Schedule) {
		want := hours(p, s)
		checkBool(t, fmt.Sprintf("ScheduleOk with %+v of %+v", s, p), impl.ScheduleOk(p, s), want)
		valid += b2i(want)
	}
	for _, x := range scheduledProjects() {
		check(x.p, x.s)
	}
	for seed := range int64(1000) {
		x := limits(seed)
		check(x.p, x.s)
		for a, start := range x.s.Starts {
			for _, n := range ints(start-1, start+1) {
				if n >= 0 && n <= 60 {
					check(x.p, with(x.s, a, n, x.s.Modes[a]))
				}
			}
			for m := range x.p.Activities[a].Modes {
				check(x.p, with(x.s, a, start, m))
			}
		}
	}
	checkBool(t, fmt.Sprint(valid, " of the schedules are valid"), valid > 1500, true)
}

func TestP4ValidSchedulesDoNotOverworkAnyInterval(t *testing.T) {
	for seed := range int64(20) {
		x := limits(seed)
		for _, r := range workRules(x.p, 60) {
			checkBool(t, fmt.Sprintf("Violates of %v with %+v of %+v", r, x.s, x.p), impl.Violates(x.p, x.s, r), false)
		}
	}
}

func TestP15ViolationsOfAllSchedules(t *testing.T) {
	kinds := map[int]int{}
	for i, x := range scheduledProjects() {
		same(t, fmt.Sprintf("ViolatedRules with %+v of %+v", x.s, x.p), impl.ViolatedRules(x.p, x.s), brokenRules(x.p, x.s, listedRules(x.p)))
		if i%4 == 0 {
			checkFaults(t, x.p, x.s, someWorkRules(x.p, x.s, int64(i)))
		}
		for _, r := range append(brokenRules(x.p, x.s, someWorkRules(x.p, x.s, int64(i))), impl.ViolatedRules(x.p, x.s)...) {
			kinds[r.Kind]++
		}
	}
	for kind := 1; kind <= 6; kind++ {
		checkBool(t, fmt.Sprint("many schedules violate rules of the kind ", kind), kinds[kind] > 300, true)
	}
}

func TestP15ViolatedLinks(t *testing.T) {
	cases := []struct {
		link, schedule string
		violated       bool
	}{
		{"start a b 4", "a@0/0 b@4/0", false},
		{"start a b 4", "a@0/0 b@3/0", true},
		{"start a b 4", "a@10/1 b@14/0", false},
		{"start a b 4", "a@10/1 b@13/0", true},
		{"start a b 4", "a@10/1 b@30/0", false},
		{"start a b 4", "a@10/1 b@0/0", true},
		{"start a b 0", "a@7/0 b@7/0", false},
		{"start a b 0", "a@7/0 b@6/0", true},
		{"start a b -4", "a@9/0 b@5/0", false},
		{"start a b -4", "a@9/0 b@4/0", true},
		{"start b a -4", "a@0/0 b@4/0", false},
		{"start b a -4", "a@0/0 b@5/0", true},
		{"start a b 48", "a@0/0 b@48/0", false},
		{"start a b 48", "a@0/0 b@47/0", true},
		{"start a b -48", "a@48/0 b@0/0", false},
		{"start a b -48", "a@49/0 b@0/0", true},
		{"end a b 4", "a@0/0 b@7/0", false},
		{"end a b 4", "a@0/0 b@6/0", true},
		{"end a b 4", "a@0/1 b@9/0", false},
		{"end a b 4", "a@0/1 b@8/0", true},
		{"end a b 0", "a@6/0 b@9/0", false},
		{"end a b 0", "a@6/0 b@8/0", true},
		{"end a b -3", "a@6/0 b@6/0", false},
		{"end a b -3", "a@6/0 b@5/0", true},
		{"end b a -6", "a@6/0 b@10/0", false},
		{"end b a -6", "a@5/0 b@10/0", true},
		{"end a b 50", "a@0/0 b@53/0", false},
		{"end a b 50", "a@0/0 b@52/0", true},
		{"end a b -60", "a@58/1 b@3/0", false},
		{"end a b -60", "a@58/1 b@2/0", true},
		{"end a b 60", "a@0/0 b@60/0", true},
		{"start a b 60", "a@0/0 b@60/0", false},
		{"start a b 60", "a@1/0 b@60/0", true},
		{"start a b -60", "a@60/0 b@0/0", false},
	}
	for _, c := range cases {
		p := reading(t, "deadline 60\nactivity a 0 3/-/- 5/-/-\nactivity b 0 2/-/-\n"+c.link+"\n")
		s, ok := readSchedule(p, c.schedule)
		checkBool(t, callOf("Violates", c.link, c.schedule), ok && impl.Violates(p, s, rule(1, 0, 0, 0)), c.violated)
		checkBool(t, callOf("ViolatedRules", c.link, c.schedule), slices.Contains(impl.ViolatedRules(p, s), rule(1, 0, 0, 0)), c.violated)
	}
}

func TestP15ViolatedDeadlines(t *testing.T) {
	cases := []struct {
		deadline                 int
		schedule, want, nextHour string
	}{
		{10, "a@7/0 b@8/0", "", "end a; end b"},
		{10, "a@5/1 b@0/0", "", "end a"},
		{10, "a@6/1 b@8/0", "end a", "end a; end b"},
		{10, "a@0/0 b@9/0", "end b", "end b"},
		{10, "a@9/0 b@10/0", "end a; end b", "end a; end b"},
		{5, "a@0/1 b@3/0", "", "end a; end b"},
		{1, "a@0/0 b@0/0", "end a; end b", "end a; end b"},
		{60, "a@57/0 b@58/0", "", "end a; end b"},
		{60, "a@55/1 b@0/0", "", "end a"},
		{60, "a@58/0 b@58/0", "end a", "end a; end b"},
		{59, "a@57/0 b@57/0", "end a", "end a; end b"},
	}
	for _, c := range cases {
		p := reading(t, fmt.Sprintf("deadline %d\nactivity a 0 3/-/- 5/-/-\nactivity b 0 2/-/-\n", c.deadline))
		checkFaultText(t, p, c.schedule, c.want)
		s, _ := readSchedule(p, c.schedule)
		for a := range s.Starts {
			s.Starts[a]++
		}
		checkFaultText(t, p, scheduleText(p, s), c.nextHour)
	}
	for n := 1; n <= 12; n++ {
		p := lasting(chain(1), 0, n)
		p.Deadline = 60
		checkFaultText(t, p, fmt.Sprintf("a0@%d/0", 60-n), "")
		checkFaultText(t, p, fmt.Sprintf("a0@%d/0", 61-n), "end a0")
	}
}

func TestP15ExceededCapacities(t *testing.T) {
	three := "activity a 0 3/1/- 3/3/-\nactivity b 1 2/2/- 4/1/-\nactivity c 0 2/1/- 12/0/-\n"
	cases := []struct{ steps, schedule, want string }{
		{"0:2", "a@0/0 b@0/1 c@4/0", ""},
		{"0:2", "a@0/0 b@2/0 c@4/0", "time 0 2"},
		{"0:2", "a@0/0 b@3/0 c@5/0", ""},
		{"0:2", "a@2/0 b@0/0 c@2/0", ""},
		{"0:2", "a@2/0 b@1/0 c@3/0", "time 0 2"},
		{"0:2", "a@5/1 b@0/0 c@0/1", "time 0 5; time 0 6; time 0 7"},
		{"0:3", "a@5/1 b@8/0 c@0/1", ""},
		{"0:3", "a@5/1 b@7/1 c@0/1", "time 0 7"},
		{"0:3", "a@5/1 b@2/1 c@0/1", "time 0 5"},
		{"0:4", "a@5/1 b@5/1 c@5/0", "time 0 5; time 0 6"},
		{"0:5", "a@5/1 b@5/1 c@5/0", ""},
		{"0:2,6:1", "a@0/0 b@2/1 c@6/0", ""},
		{"0:2,6:1", "a@0/0 b@3/1 c@6/0", "time 0 6"},
		{"0:2,6:1", "a@4/0 b@3/1 c@10/0", "time 0 6"},
		{"0:2,6:1", "a@3/0 b@2/1 c@7/0", ""},
		{"0:2,6:1,8:3", "a@8/1 b@6/1 c@0/0", "time 0 8; time 0 9"},
		{"0:2,6:1,8:3", "a@7/1 b@0/1 c@0/0", "time 0 7"},
		{"0:0,5:3,8:0", "a@5/1 b@11/1 c@0/1", "time 0 11; time 0 12; time 0 13; time 0 14"},
		{"0:0,5:3,8:0", "a@4/1 b@5/0 c@0/1", "time 0 4; time 0 5; time 0 6"},
		{"0:0,5:3,8:0", "a@6/1 b@20/0 c@0/1", "time 0 8; time 0 20; time 0 21"},
		{"0:1,57:3", "a@57/1 b@0/1 c@0/1", ""},
		{"0:1,58:3", "a@57/1 b@0/1 c@0/1", "time 0 57"},
		{"0:3,60:2", "a@57/1 b@0/1 c@0/1", ""},
		{"0:3,60:2", "a@58/1 b@0/1 c@0/1", "end a; time 0 60"},
		{"0:3,60:2", "a@60/1 b@0/1 c@0/1", "end a; time 0 60"},
		{"0:3,60:2", "a@60/0 b@0/1 c@0/1", "end a"},
		{"0:2,60:3", "a@60/1 b@0/1 c@0/1", "end a"},
		{"0:2,60:3", "a@60/1 b@60/1 c@0/1", "end a; end b; time 0 60"},
		{"0:2,60:3", "a@59/1 b@0/1 c@0/1", "end a; time 0 59"},
		{"0:0,60:0", "a@60/0 b@60/0 c@60/1", "end a; end b; end c; time 0 60"},
	}
	for _, c := range cases {
		p := reading(t, "deadline 60\nresource "+c.steps+"\n"+three)
		checkFaultText(t, p, c.schedule, c.want)
	}
	two := reading(t, "deadline 60\nresource 0:2\nresource 0:1,4:2\nactivity a 0 2/2,1/-\nactivity b 0 2/1,1/- 2/0,2/-\n")
	checkFaultText(t, two, "a@0/0 b@1/0", "time 0 1; time 1 1")
	checkFaultText(t, two, "a@4/0 b@5/0", "time 0 5")
	checkFaultText(t, two, "a@4/0 b@5/1", "time 1 5")
	checkFaultText(t, two, "a@4/0 b@2/1", "time 1 2; time 1 3")
	most := reading(t, "deadline 60\nresource 0:20\nactivity a 0 1/20/-\nactivity b 0 1/20/-\nactivity c 0 1/0/-\n")
	checkFaultText(t, most, "a@9/0 b@9/0 c@9/0", "time 0 9")
	checkFaultText(t, most, "a@9/0 b@10/0 c@9/0", "")
}

func TestP15ExceededWork(t *testing.T) {
	cases := []struct {
		steps, schedule string
		x, y            int
		violated        bool
	}{
		{"0:2", "a@0/0 b@0/0", 0, 3, false},
		{"0:2", "a@0/1 b@0/0", 0, 3, true},
		{"0:2", "a@0/1 b@0/0", 0, 4, true},
		{"0:2", "a@0/1 b@0/0", 0, 5, false},
		{"0:2", "a@0/1 b@0/1", 0, 4, true},
		{"0:2", "a@0/1 b@0/1", 0, 5, false},
		{"0:2", "a@0/1 b@1/1", 0, 3, true},
		{"0:2", "a@0/1 b@1/1", 0, 4, true},
		{"0:2", "a@0/1 b@1/1", 0, 5, false},
		{"0:2", "a@0/1 b@1/1", 1, 5, false},
		{"0:2", "a@0/1 b@1/1", 2, 3, true},
		{"0:2", "a@0/1 b@1/1", 2, 4, false},
		{"0:2", "a@0/1 b@2/0", 0, 3, true},
		{"0:2", "a@0/1 b@2/0", 0, 4, false},
		{"0:2", "a@0/1 b@2/0", 2, 3, true},
		{"0:2", "a@0/1 b@2/0", 2, 4, false},
		{"0:2", "a@0/1 b@3/0", 2, 3, false},
		{"0:2", "a@9/1 b@9/0", 0, 9, false},
		{"0:2", "a@9/1 b@9/0", 8, 9, false},
		{"0:2", "a@9/1 b@9/0", 8, 10, false},
		{"0:2", "a@9/1 b@9/0", 8, 11, false},
		{"0:2", "a@9/1 b@9/0", 8, 12, true},
		{"0:2", "a@9/1 b@9/0", 7, 12, false},
		{"0:2", "a@9/1 b@9/0", 8, 13, false},
		{"0:2", "a@9/1 b@9/0", 9, 10, true},
		{"0:2", "a@9/1 b@9/0", 10, 12, true},
		{"0:2", "a@9/1 b@9/0", 10, 13, false},
		{"0:2", "a@9/1 b@9/0", 11, 12, true},
		{"0:2", "a@9/1 b@9/0", 11, 13, false},
		{"0:2", "a@9/1 b@9/0", 12, 13, false},
		{"0:2", "a@9/1 b@9/0", 0, 60, false},
		{"0:1,3:0", "a@0/0 b@30/1", 0, 4, false},
		{"0:1,3:0", "a@1/0 b@30/1", 0, 4, false},
		{"0:1,3:0", "a@1/0 b@30/1", 2, 4, true},
		{"0:1,3:0", "a@1/0 b@30/1", 3, 4, true},
		{"0:1,3:0", "a@2/0 b@30/1", 0, 5, false},
		{"0:1,3:0", "a@2/0 b@30/1", 1, 5, true},
		{"0:0,10:2", "a@9/0 b@30/1", 9, 10, true},
		{"0:0,10:2", "a@9/0 b@30/1", 9, 11, false},
		{"0:0,10:1", "a@9/0 b@30/1", 9, 11, true},
		{"0:0,10:1", "a@9/0 b@30/1", 9, 12, true},
		{"0:0,10:1", "a@9/0 b@30/1", 9, 13, false},
		{"0:1,59:5", "a@58/1 b@0/1", 58, 59, true},
		{"0:1,59:5", "a@58/1 b@0/1", 58, 60, false},
		{"0:1", "a@58/1 b@58/0", 58, 60, true},
		{"0:1,60:20", "a@58/1 b@0/1", 58, 60, true},
		{"0:2,60:0", "a@60/1 b@60/0", 59, 60, false},
		{"0:2,60:0", "a@60/1 b@60/0", 0, 60, false},
		{"0:0", "a@0/0 b@0/1", 0, 1, true},
		{"0:0", "a@0/0 b@0/1", 3, 4, true},
		{"0:0", "a@0/0 b@0/1", 4, 60, false},
	}
	for _, c := range cases {
		p := reading(t, "deadline 60\nresource "+c.steps+"\nactivity a 0 3/1/- 3/2/-\nactivity b 1 3/1/- 4/1/-\n")
		s, ok := readSchedule(p, c.schedule)
		r := rule(4, 0, c.x, c.y)
		checkBool(t, callOf("Violates", c.steps, c.schedule, c.x, c.y), ok && impl.Violates(p, s, r), c.violated)
		checkBool(t, "RuleWork is not listed", slices.Contains(impl.ViolatedRules(p, s), r), false)
	}
	p := reading(t, "deadline 60\nresource 0:1\nresource 0:3\nactivity a 0 3/2,3/-\n")
	checkBool(t, "Violates of the first resource", impl.Violates(p, placed(0, 0), rule(4, 0, 0, 3)), true)
	checkBool(t, "Violates of the second resource", impl.Violates(p, placed(0, 0), rule(4, 1, 0, 3)), false)
}

func TestP15ViolatedPairs(t *testing.T) {
	// From the family 1 to the family 2 the setup takes 3, back 5, within a family 0 and 2, and 12 from the family 0.
	machine := "deadline 60\nresource 0:20 0,12,12,12,1,0,3,1,1,5,2,1,1,1,1,1\nactivity a 1 4/1/- 6/20/- 2/0/-\nactivity b 2 3/2/- 1/0/-\nactivity c 2 1/1/- 1/0/-\nactivity d 0 2/1/- 2/0/-\n"
	cases := []struct{ schedule, want string }{
		{"a@0/0 b@7/0 c@60/1 d@60/1", ""},
		{"a@0/0 b@6/0 c@60/1 d@60/1", "pair 0 a b"},
		{"a@0/0 b@4/0 c@60/1 d@60/1", "pair 0 a b"},
		{"a@0/0 b@0/0 c@60/1 d@60/1", "pair 0 a b"},
		{"a@0/1 b@9/0 c@60/1 d@60/1", ""},
		{"a@0/1 b@8/0 c@60/1 d@60/1", "pair 0 a b"},
		{"a@0/2 b@0/0 c@60/1 d@60/1", ""},
		{"a@0/0 b@0/1 c@60/1 d@60/1", ""},
		{"a@0/2 b@0/1 c@60/1 d@60/1", ""},
		{"a@8/0 b@0/0 c@60/1 d@60/1", ""},
		{"a@7/0 b@0/0 c@60/1 d@60/1", "pair 0 a b"},
		{"a@28/1 b@20/0 c@60/1 d@60/1", ""},
		{"a@27/1 b@20/0 c@60/1 d@60/1", "pair 0 a b"},
		{"a@30/2 b@0/0 c@5/0 d@60/1", ""},
		{"a@30/2 b@0/0 c@4/0 d@60/1", "pair 0 b c"},
		{"a@30/2 b@3/0 c@0/0 d@60/1", ""},
		{"a@30/2 b@2/0 c@0/0 d@60/1", "pair 0 b c"},
		{"a@14/0 b@30/1 c@60/1 d@0/0", ""},
		{"a@13/0 b@30/1 c@60/1 d@0/0", "pair 0 a d"},
		{"a@0/0 b@30/1 c@60/1 d@5/0", ""},
		{"a@0/0 b@30/1 c@60/1 d@4/0", "pair 0 a d"},
		{"a@0/0 b@30/1 c@60/1 d@4/1", ""},
		{"a@20/0 b@20/0 c@20/0 d@20/0", "pair 0 a b; pair 0 a c; pair 0 a d; pair 0 b c; pair 0 b d; pair 0 c d"},
		{"a@20/1 b@20/1 c@20/0 d@20/0", "time 0 20; time 0 21; pair 0 a c; pair 0 a d; pair 0 c d"},
		{"a@50/0 b@57/0 c@60/1 d@0/0", ""},
		{"a@51/0 b@57/0 c@60/1 d@0/0", "pair 0 a b"},
	}
	for _, c := range cases {
		p := reading(t, machine)
		want := c.want
		if strings.Contains(c.schedule, "@60/") {
			// The activities that start at 60 without the machine end too late, in the order of their numbers.
			want = joinFaults(lateOnes(c.schedule), want)
		}
		checkFaultText(t, p, c.schedule, want)
	}
	two := reading(t, "deadline 60\nresource 0:2 0,0,0,0,0,0,0,0,0,0,0,0,0,0,0,0\nresource 0:2\nresource 0:2 1,1,1,1,1,1,1,1,1,1,1,1,1,1,1,1\nactivity a 0 2/1,1,1/-\nactivity b 3 2/1,1,1/- 2/0,1,1/-\n")
	checkFaultText(t, two, "a@0/0 b@1/0", "pair 0 a b; pair 2 a b")
	checkFaultText(t, two, "a@0/0 b@1/1", "pair 2 a b")
	checkFaultText(t, two, "a@0/0 b@2/0", "pair 2 a b")
	checkFaultText(t, two, "a@0/0 b@3/0", "")
	checkFaultText(t, two, "a@2/0 b@0/0", "pair 2 a b")
	checkFaultText(t, two, "a@3/0 b@0/0", "")
}

func lateOnes(schedule string) string {
	var all []string
	for _, m := range regexp.MustCompile(`([a-z])@60/`).FindAllStringSubmatch(schedule, -1) {
		all = append(all, "end "+m[1])
	}
	return strings.Join(all, "; ")
}

func joinFaults(first, second string) string {
	if second == "" {
		return first
	}
	return first + "; " + second
}

func TestP15ExceededStocks(t *testing.T) {
	activities := "activity a 0 1/-/2,5 1/-/0,20\nactivity b 0 1/-/3,20 1/-/4,0 1/-/20,20\n"
	cases := []struct{ stocks, schedule, want string }{
		{"stock 5\nstock 25\n", "a@0/0 b@0/0", ""},
		{"stock 4\nstock 25\n", "a@0/0 b@0/0", "stock 0"},
		{"stock 5\nstock 24\n", "a@0/0 b@0/0", "stock 1"},
		{"stock 4\nstock 24\n", "a@0/0 b@0/0", "stock 0; stock 1"},
		{"stock 5\nstock 5\n", "a@0/0 b@0/1", "stock 0"},
		{"stock 6\nstock 5\n", "a@0/0 b@0/1", ""},
		{"stock 0\nstock 40\n", "a@0/1 b@0/2", "stock 0"},
		{"stock 20\nstock 40\n", "a@0/1 b@0/2", ""},
		{"stock 19\nstock 39\n", "a@0/1 b@0/2", "stock 0; stock 1"},
		{"stock 100\nstock 100\n", "a@0/0 b@9/2", ""},
		{"stock 5\nstock 24\n", "a@3/0 b@19/0", "stock 1"},
		{"stock 0\nstock 0\n", "a@0/1 b@0/1", "stock 0; stock 1"},
	}
	for _, c := range cases {
		checkFaultText(t, reading(t, "deadline 20\n"+c.stocks+activities), c.schedule, c.want)
	}
	text := "deadline 9\nstock 100\n"
	for _, name := range []string{"a", "b", "c", "d", "e"} {
		text += "activity " + name + " 0 1/-/20\n"
	}
	six := reading(t, text+"activity f 0 1/-/0 1/-/1\n")
	checkFaultText(t, six, "a@0/0 b@0/0 c@0/0 d@0/0 e@0/0 f@0/0", "")
	checkFaultText(t, six, "a@0/0 b@0/0 c@0/0 d@0/0 e@0/0 f@0/1", "stock 0")
}

func TestP15OrderOfViolatedRules(t *testing.T) {
	const setup = " 9,9,9,9,9,9,9,9,9,9,9,9,9,9,9,9\n"
	p := reading(t, "deadline 4\nresource 0:1"+setup+"resource 0:1\nresource 0:2,1:1"+setup+"stock 1\nstock 1\nactivity a 0 2/1,1,1/1,1\nactivity b 1 2/1,1,1/1,1 3/1,0,0/1,0\nactivity c 2 2/0,0,1/0,0 2/1,1,1/0,1\nend a b 1\nstart c a -9\nend c b 0\nstart b c 1\n")
	cases := []struct{ schedule, want string }{
		{"a@0/0 b@0/0 c@0/0", "link 0; link 2; link 3; time 0 0; time 0 1; time 1 0; time 1 1; time 2 0; time 2 1; pair 0 a b; pair 2 a b; pair 2 a c; pair 2 b c; stock 0; stock 1"},
		{"a@3/0 b@3/1 c@4/1", "link 0; link 2; end a; end b; end c; time 0 3; time 0 4; time 0 5; time 1 4; time 2 4; pair 0 a b; pair 0 a c; pair 0 b c; pair 2 a c; stock 0; stock 1"},
		{"a@0/0 b@2/1 c@60/1", "link 0; link 1; link 2; end b; end c; pair 0 a b; stock 0; stock 1"},
		{"a@60/0 b@60/0 c@60/0", "link 0; link 2; link 3; end a; end b; end c; time 0 60; time 1 60; time 2 60; pair 0 a b; pair 2 a b; pair 2 a c; pair 2 b c; stock 0; stock 1"},
		{"a@0/0 b@8/1 c@9/0", "link 2; end b; end c; pair 0 a b; pair 2 a c; stock 0"},
	}
	for _, c := range cases {
		checkFaultText(t, p, c.schedule, c.want)
	}
}

func TestP15RuleName(t *testing.T) {
	for n, name := range []string{"none", "link", "end", "time", "work", "pair", "stock"} {
		if got := impl.RuleName(n); got != name {
			t.Errorf("RuleName(%d) = %q, want %q", n, got, name)
		}
	}
	for _, n := range ints(math.MinInt, math.MinInt+1, -7, -6, -2, -1, 7, 8, 100, math.MaxInt-1, math.MaxInt) {
		if got := impl.RuleName(n); got != "" {
			t.Errorf("RuleName(%d) = %q", n, got)
		}
	}
}

// ruleProjects are valid projects with few and many of everything that rules refer to.
func ruleProjects(t *testing.T) map[string]impl.Project {
	single := full()
	single.Resources[1].Setup = nil
	return map[string]impl.Project{"full": full(), "tiny": tiny(t), "one activity": chain(1), "six activities": chain(6), "plain": plain(3, 2), "linked": linked(2, before(0, 1, 5)), "one machine": single}
}

func TestP15RuleOk(t *testing.T) {
	kinds := ints(math.MinInt, -1, 0, 1, 2, 3, 4, 5, 6, 7, 8, math.MaxInt)
	numbers := ints(math.MinInt, -2, -1, 0, 1, 2, 3, 4, 5, 6, 7, 11, 12, 13, 59, 60, 61, math.MaxInt)
	for name, p := range ruleProjects(t) {
		known := map[impl.Rule]bool{}
		for _, r := range rulesOf(p) {
			known[r] = true
		}
		for _, kind := range kinds {
			for _, a := range numbers {
				for _, b := range numbers {
					for _, c := range numbers {
						r := rule(kind, a, b, c)
						if impl.RuleOk(p, r) != known[r] {
							t.Errorf("RuleOk of %+v with %s = %v", r, name, !known[r])
						}
						if !known[r] && b*c == 0 {
							checkNoRule(t, name, p, allAtZero(p), r)
						}
					}
				}
			}
		}
	}
}

// checkNoRule expects what the functions return for a rule that is not RuleOk.
func checkNoRule(t *testing.T, name string, p impl.Project, s impl.Schedule, r impl.Rule) {
	t.Helper()
	checkBool(t, fmt.Sprintf("RuleOk of %+v with %s", r, name), impl.RuleOk(p, r), false)
	checkBool(t, fmt.Sprintf("Violates of %+v and %+v with %s", s, r, name), impl.Violates(p, s, r), false)
	if got := impl.FormatRule(p, r); got != "" {
		t.Errorf("FormatRule of %+v with %s = %q", r, name, got)
	}
}

func TestP15RuleOkTable(t *testing.T) {
	p := full()
	cases := []struct {
		r    impl.Rule
		want bool
	}{
		{rule(1, 0, 0, 0), true}, {rule(1, 11, 0, 0), true}, {rule(1, 12, 0, 0), false}, {rule(1, -1, 0, 0), false}, {rule(1, 0, 1, 0), false}, {rule(1, 0, 0, 1), false}, {rule(1, 0, 0, -1), false},
		{rule(2, 0, 0, 0), true}, {rule(2, 5, 0, 0), true}, {rule(2, 6, 0, 0), false}, {rule(2, -1, 0, 0), false}, {rule(2, 0, 1, 0), false}, {rule(2, 0, 0, 1), false},
		{rule(3, 0, 0, 0), true}, {rule(3, 2, 60, 0), true}, {rule(3, 3, 0, 0), false}, {rule(3, -1, 0, 0), false}, {rule(3, 0, 61, 0), false}, {rule(3, 0, -1, 0), false}, {rule(3, 0, 5, 6), false}, {rule(3, 0, 0, -1), false},
		{rule(4, 0, 0, 1), true}, {rule(4, 2, 59, 60), true}, {rule(4, 1, 0, 60), true}, {rule(4, 3, 0, 1), false}, {rule(4, -1, 0, 1), false}, {rule(4, 0, 0, 0), false}, {rule(4, 0, 60, 60), false}, {rule(4, 0, 6, 5), false}, {rule(4, 0, -1, 5), false}, {rule(4, 0, 60, 61), false}, {rule(4, 0, 0, 61), false},
		{rule(5, 1, 0, 1), true}, {rule(5, 2, 4, 5), true}, {rule(5, 2, 0, 5), true}, {rule(5, 0, 0, 1), false}, {rule(5, 3, 0, 1), false}, {rule(5, -1, 0, 1), false}, {rule(5, 1, 0, 0), false}, {rule(5, 1, 1, 1), false}, {rule(5, 1, 1, 0), false}, {rule(5, 1, -1, 0), false}, {rule(5, 1, 5, 6), false}, {rule(5, 1, 0, 6), false},
		{rule(6, 0, 0, 0), true}, {rule(6, 1, 0, 0), true}, {rule(6, 2, 0, 0), false}, {rule(6, -1, 0, 0), false}, {rule(6, 0, 1, 0), false}, {rule(6, 0, 0, 1), false},
		{rule(0, 0, 0, 0), false}, {rule(7, 0, 0, 0), false}, {rule(-1, 0, 0, 0), false}, {rule(0, 0, 0, 1), false}, {rule(math.MinInt, 0, 0, 0), false}, {rule(math.MaxInt, 0, 0, 0), false},
	}
	for _, c := range cases {
		checkBool(t, callOf("RuleOk", c.r), impl.RuleOk(p, c.r), c.want)
	}
	// In a project without any of these, only an activity can be referred to.
	for kind := range 8 {
		for b := range 3 {
			for c := range 3 {
				r := rule(kind, 0, b, c)
				checkBool(t, callOf("RuleOk of a chain", r), impl.RuleOk(chain(3), r), r == rule(2, 0, 0, 0))
			}
		}
	}
}

// badRules are broken by most schedules of the projects that have them.
func badRules() []impl.Rule {
	return []impl.Rule{{}, rule(1, 0, 0, 0), rule(2, 0, 0, 0), rule(3, 0, 0, 0), rule(3, 2, 60, 0), rule(4, 0, 0, 1), rule(4, 0, 0, 60), rule(5, 1, 0, 1), rule(5, 2, 3, 5), rule(6, 0, 0, 0), rule(6, 1, 0, 0)}
}

// checkNoFaults expects what the functions return for a schedule that is not ScheduleForm.
func checkNoFaults(t *testing.T, name string, p impl.Project, s impl.Schedule, rules []impl.Rule) {
	t.Helper()
	checkBool(t, "ScheduleOk with "+name, impl.ScheduleOk(p, s), false)
	same(t, "ViolatedRules with "+name, impl.ViolatedRules(p, s), nil)
	for _, r := range rules {
		checkBool(t, fmt.Sprintf("Violates of %v with %s", r, name), impl.Violates(p, s, r), false)
	}
}

func TestP15RulesOfProjectsThatAreNotValid(t *testing.T) {
	for _, v := range badNetworks() {
		s := allAtZero(v.p)
		checkNoFaults(t, v.name, v.p, s, badRules())
		checkNoFaults(t, "no schedule and "+v.name, v.p, impl.Schedule{}, badRules())
		for _, r := range badRules() {
			checkNoRule(t, v.name, v.p, s, r)
		}
		for _, text := range []string{"", "none", "link 0", "end a", "end a0", "time 0 0", "work 0 0 1", "pair 1 a b1", "stock 0"} {
			got, ok := impl.ParseRule(v.p, text)
			checkBool(t, fmt.Sprintf("ParseRule of %q with %s", text, v.name), ok || got != impl.Rule{}, false)
		}
	}
}

func TestP15ViolationsOfSchedulesThatDoNotFit(t *testing.T) {
	p := full()
	p.Deadline = 1
	all := append(badRules(), listedRules(p)...)
	s := allAtZero(p)
	checkBool(t, "the schedule is not valid", len(impl.ViolatedRules(p, s)) > 5 && !impl.ScheduleOk(p, s), true)
	for a, activity := range p.Activities {
		for _, n := range ints(math.MinInt, -1, 61, math.MaxInt) {
			checkNoFaults(t, fmt.Sprint("the start ", n, " of ", a), p, with(s, a, n, 0), all)
		}
		for _, n := range ints(math.MinInt, -1, len(activity.Modes), math.MaxInt) {
			checkNoFaults(t, fmt.Sprint("the mode ", n, " of ", a), p, with(s, a, 0, n), all)
		}
	}
	for starts := range 8 {
		for modes := range 8 {
			if starts != 6 || modes != 6 {
				odd := impl.Schedule{Starts: make([]int, starts), Modes: make([]int, modes)}
				checkNoFaults(t, callOf("lists", odd), p, odd, all)
			}
		}
	}
	many := make([]int, 100000)
	checkNoFaults(t, "very many of both", p, impl.Schedule{Starts: many, Modes: many}, all)
	checkNoFaults(t, "the schedule of another project", p, placed(0, 0, 0, 0, 0, 0), all)
}

// ruleText writes a rule that a project has as chapter 11 describes it.
func ruleText(p impl.Project, r impl.Rule) string {
	switch r.Kind {
	case 1:
		return fmt.Sprint("link ", r.A)
	case 2:
		return "end " + p.Activities[r.A].Name
	case 3:
		return fmt.Sprintf("time %d %d", r.A, r.B)
	case 4:
		return fmt.Sprintf("work %d %d %d", r.A, r.B, r.C)
	case 5:
		return fmt.Sprintf("pair %d %s %s", r.A, p.Activities[r.B].Name, p.Activities[r.C].Name)
	}
	return fmt.Sprint("stock ", r.A)
}

// ruleTexts are the texts of all rules that a project has.
func ruleTexts(p impl.Project) map[string]impl.Rule {
	all := map[string]impl.Rule{}
	for _, r := range rulesOf(p) {
		all[ruleText(p, r)] = r
	}
	return all
}

// checkRule expects the rule that has this text, or the zero value and false.
func checkRule(t *testing.T, p impl.Project, texts map[string]impl.Rule, text string) {
	t.Helper()
	want, known := texts[text]
	got, ok := impl.ParseRule(p, text)
	if got != want || ok != known {
		t.Errorf("ParseRule(%q) = %+v, %v, want %+v, %v", text, got, ok, want, known)
	}
}

func TestP1RulesAreRecovered(t *testing.T) {
	for name, p := range ruleProjects(t) {
		texts := ruleTexts(p)
		checkInt(t, "the number of different texts of "+name, len(texts), len(rulesOf(p)))
		for text, r := range texts {
			if got := impl.FormatRule(p, r); got != text {
				t.Errorf("FormatRule of %+v with %s = %q, want %q", r, name, got, text)
			}
			checkRule(t, p, texts, text)
		}
	}
	for seed := range int64(300) {
		p := randomProject(seed)
		for _, r := range append(listedRules(p), workRules(p, 4)...) {
			got, ok := impl.ParseRule(p, impl.FormatRule(p, r))
			checkBool(t, callOf("the rule is recovered", r), ok && got == r && impl.FormatRule(p, r) == ruleText(p, r), true)
		}
	}
}

func TestP1RuleTexts(t *testing.T) {
	p := full()
	cases := map[string]impl.Rule{
		"link 0": rule(1, 0, 0, 0), "link 11": rule(1, 11, 0, 0), "end a": rule(2, 0, 0, 0), "end abcdefgh": rule(2, 3, 0, 0), "end start": rule(2, 5, 0, 0),
		"time 0 0": rule(3, 0, 0, 0), "time 2 60": rule(3, 2, 60, 0), "work 0 0 1": rule(4, 0, 0, 1), "work 1 9 10": rule(4, 1, 9, 10), "work 2 0 60": rule(4, 2, 0, 60),
		"pair 1 a b1": rule(5, 1, 0, 1), "pair 2 z9 start": rule(5, 2, 4, 5), "stock 0": rule(6, 0, 0, 0), "stock 1": rule(6, 1, 0, 0),
	}
	for text, r := range cases {
		if got := impl.FormatRule(p, r); got != text {
			t.Errorf("FormatRule of %+v = %q, want %q", r, got, text)
		}
		got, ok := impl.ParseRule(p, text)
		checkBool(t, callOf("ParseRule", text), ok && got == r, true)
	}
}

// wordlike is a project whose activities are called like the kinds of rules.
func wordlike() impl.Project {
	p := full()
	for a, name := range []string{"link", "end", "pair", "none", "stock", "time"} {
		p.Activities[a].Name = name
	}
	return p
}

func TestP1RulesOfActivitiesThatAreCalledLikeKinds(t *testing.T) {
	p := wordlike()
	texts := ruleTexts(p)
	for _, text := range []string{"end link", "end end", "end none", "pair 1 link end", "pair 2 stock time", "pair 1 pair none", "link link", "link end", "none none", "stock stock", "time 0 time", "end 1", "pair 1 0 1", "pair 1 end link", "pair link end 1", "end end end", "pair 1 time"} {
		checkRule(t, p, texts, text)
	}
	checkBool(t, "end end is a rule", impl.RuleOk(p, texts["end end"]), true)
}

// ruleLines are the texts of which the tests make others.
func ruleLines() []string {
	return []string{"link 11", "link 1", "end abcdefgh", "end a", "time 2 60", "time 0 5", "work 1 0 60", "work 2 9 10", "pair 2 a start", "pair 1 b1 z9", "stock 1", "none", "", "-"}
}

func TestP15RuleTextsWithOneByteChanged(t *testing.T) {
	p := full()
	texts := ruleTexts(p)
	for _, text := range ruleLines() {
		for at := range len(text) + 1 {
			head, tail := text[:at], text[at:]
			for _, piece := range []string{"", " ", "  ", "\n", "\t", "/", "-", "+", ",", ".", ":", "0", "1", "2", "3", "6", "9", "a", "b", "z", "A", "_", "\x00", "\xff", "\u00e9", "\u0661"} {
				checkRule(t, p, texts, head+piece+tail)
				if tail != "" {
					checkRule(t, p, texts, head+piece+tail[1:])
				}
			}
			checkRule(t, p, texts, head)
			checkRule(t, p, texts, tail)
		}
	}
}

func TestP15RuleTextsWithOneWordChanged(t *testing.T) {
	p := full()
	texts := ruleTexts(p)
	words := []string{
		"", " ", "-", "0", "1", "2", "3", "5", "6", "9", "10", "11", "12", "59", "60", "61", "100", "100000", "100001", "18446744073709551616", "-1", "-0", "+1", "00", "01", "011", "1.0", "1e1", "0x1",
		"a", "b1", "c", "abcdefgh", "z9", "start", "b", "A", "abcdefghi", "nobody", "a b1", "none", "link", "end", "time", "work", "pair", "stock", "Link", "LINK", "links", "lin", "0 1", "1 0", "0 0", "\n", "a\n", "1\n",
	}
	for _, text := range ruleLines() {
		parts := strings.Split(text, " ")
		for at := range len(parts) + 1 {
			for _, word := range words {
				checkRule(t, p, texts, strings.Join(slices.Insert(slices.Clone(parts), at, word), " "))
				if at < len(parts) {
					changed := slices.Clone(parts)
					changed[at] = word
					checkRule(t, p, texts, strings.Join(changed, " "))
				}
			}
		}
		for at := range parts {
			checkRule(t, p, texts, strings.Join(slices.Delete(slices.Clone(parts), at, at+1), " "))
			for to := range parts {
				moved := slices.Clone(parts)
				moved[at], moved[to] = moved[to], moved[at]
				checkRule(t, p, texts, strings.Join(moved, " "))
			}
		}
		for _, by := range []string{"", "  ", ",", "\n", " \n", "\t"} {
			checkRule(t, p, texts, strings.Join(parts, by))
		}
	}
}

func TestP15ParseRuleTable(t *testing.T) {
	p := full()
	bad := []string{
		"", " ", "-", "none", "none ", "none 0", "none 0 0 0", "link", "link ", "end", "end ", "time", "work", "pair", "stock", "link 12", "link -1", "link -0", "link +0", "link 00", "link 01", "link 0 ", " link 0", "link  0", "link 0\n", "link\t0", "link 0 0", "link 0 0 0", "link a", "link 18446744073709551616", "link 100001",
		"end 0", "end b", "end A", "end a a", "end a ", " end a", "end  a", "end a 0", "end abcdefghi", "end nobody", "end -1",
		"time 0", "time 0 61", "time 0 -1", "time 0 -0", "time 0 00", "time 3 0", "time -1 0", "time 0 0 0", "time 0  0", "time 0 0 ", "time a 0", "time 0 a", "time 0 +1", "time 60 0",
		"work 0 0", "work 0 0 0", "work 0 1 0", "work 0 60 60", "work 0 0 61", "work 0 -1 1", "work 3 0 1", "work -1 0 1", "work 0 0 1 0", "work 0 0 1 ", "work 0  0 1", "work 0 00 1", "work 0 0 01", "work 0 a 1", "work a 0 1", "work 0 0 a", "work 0 60 61",
		"pair 1", "pair 1 a", "pair 0 a b1", "pair 3 a b1", "pair -1 a b1", "pair 1 b1 a", "pair 1 a a", "pair 1 a nobody", "pair 1 nobody a", "pair 1 0 1", "pair 1 a b1 c", "pair 1 a b1 ", "pair 1  a b1", "pair 01 a b1", "pair +1 a b1", "pair a b1", "pair a b1 1", "pair a 1 b1",
		"stock 2", "stock -1", "stock 00", "stock 0 0", "stock 0 ", "stock a", "Link 0", "LINK 0", "links 0", "lin 0", "rule 0", "1 0", "\ufefflink 0", "link 0\x00",
	}
	for _, text := range bad {
		checkRule(t, p, nil, text)
	}
	for _, text := range []string{"link 0", "time 0 0", "work 0 0 1", "pair 0 a0 a1", "stock 0", "end a3", "end a", "none"} {
		checkRule(t, chain(3), nil, text)
		checkRule(t, impl.Project{}, nil, text)
	}
	checkRule(t, linked(2, before(0, 1, 0)), nil, "link 1")
	nameless := chain(2)
	nameless.Activities[0].Name = ""
	checkRule(t, nameless, nil, "end ")
	checkRule(t, nameless, nil, "end a1")
}

func TestP15ParseRuleOfLongTexts(t *testing.T) {
	p := full()
	for _, text := range ruleLines() {
		for _, piece := range []string{" ", "a", "0", "9", " 0", " a", "link ", "\n", "\x00"} {
			checkRule(t, p, nil, text+strings.Repeat(piece, 100000))
			checkRule(t, p, nil, strings.Repeat(piece, 100000)+text)
		}
	}
}

func TestP15RulesLeaveTheirArgumentsAlone(t *testing.T) {
	for i, v := range variants() {
		p, kept := roomy(v.p)
		place := allAtZero(v.p)
		if v.ok {
			place = someSchedule(v.p, int64(i))
		}
		starts, startsKept := spare(place.Starts, 7)
		modes, modesKept := spare(place.Modes, 1)
		s := impl.Schedule{Starts: starts, Modes: modes}
		impl.ScheduleOk(p, s)
		for _, r := range badRules() {
			impl.RuleOk(p, r)
			impl.Violates(p, s, r)
			text := impl.FormatRule(p, r)
			checkNew(t, "FormatRule with "+v.name, text, p)
			impl.ParseRule(p, text)
		}
		violated := impl.ViolatedRules(p, s)
		checkNew(t, "ViolatedRules with "+v.name, violated, p, s)
		overwrite(violated, rule(-9, -9, -9, -9))
		if !kept() || !startsKept() || !modesKept() {
			t.Errorf("a function of chapter 11 changes its argument, %+v or a project with %s", place, v.name)
		}
	}
}

func TestP15NilAndEmptyListsOfSchedulesWithRulesAreEqual(t *testing.T) {
	for _, p := range []impl.Project{chain(2), deepCopy(chain(2))} {
		checkFaults(t, p, placed(0, 0, 7, 0), nil)
		checkFaults(t, p, placed(0, 0, 20, 0), nil)
		for _, s := range []impl.Schedule{{}, {Starts: []int{}, Modes: []int{}}} {
			checkNoFaults(t, callOf("no activities", s), p, s, badRules())
			checkNoFaults(t, callOf("no project", s), impl.Project{}, s, badRules())
		}
	}
}

func TestP15RulesKeepNoState(t *testing.T) {
	type results struct {
		violated []impl.Rule
		r        impl.Rule
		text     string
		answers  [3]bool
	}
	p := tiny(t)
	want := results{[]impl.Rule{rule(3, 1, 0, 0), rule(3, 1, 1, 0), rule(5, 1, 0, 1), rule(5, 1, 0, 2), rule(5, 1, 1, 2)}, rule(5, 1, 0, 2), "pair 1 a c", [3]bool{true, true, false}}
	for range 3 {
		s := placed(0, 1, 0, 0, 0, 0)
		r, ok := impl.ParseRule(p, "pair 1 a c")
		got := results{impl.ViolatedRules(p, s), r, impl.FormatRule(p, r), [3]bool{ok, impl.Violates(p, s, r), impl.ScheduleOk(p, s)}}
		if !reflect.DeepEqual(got, want) {
			t.Errorf("the functions of chapter 11 return %+v, want %+v", got, want)
		}
		overwrite(got.violated, rule(-9, -9, -9, -9))
		impl.ViolatedRules(full(), allAtZero(full()))
		impl.ParseRule(full(), "pair 2 a start")
	}
}
