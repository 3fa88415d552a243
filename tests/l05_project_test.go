package tests

import (
	"fmt"
	"math"
	"reflect"
	"slices"
	"testing"

	"loop.example/g00806/impl"
)

func link(from, to int, fromEnd bool, lag int) impl.Link {
	return impl.Link{From: from, To: to, FromEnd: fromEnd, Lag: lag}
}

// setupOf returns a Setup of which the elements at i, j and at j, i differ.
func setupOf(first, down, right int) [][]int {
	var rows [][]int
	for i := range 4 {
		var row []int
		for j := range 4 {
			row = append(row, (first+down*i+right*j)%13)
		}
		rows = append(rows, row)
	}
	return rows
}

// chain is a project of some activities with one mode each, and nothing else.
func chain(activities int) impl.Project {
	p := impl.Project{Deadline: 20}
	for i := range activities {
		p.Activities = append(p.Activities, impl.Activity{Name: fmt.Sprint("a", i), Modes: []impl.Mode{mode(1, nil, nil)}})
	}
	return p
}

// plain has as many resources and stocks as stated, all alike, and one activity whose modes ask for all of them.
func plain(resources, stocks int) impl.Project {
	p := impl.Project{Deadline: 20, Activities: []impl.Activity{activity(mode(2, make([]int, resources), make([]int, stocks)))}}
	for range resources {
		p.Resources = append(p.Resources, impl.Resource{Steps: profile(0, 2)})
	}
	for range stocks {
		p.Stocks = append(p.Stocks, 5)
	}
	return p
}

// full has as much of everything as a project can have; its resources 1 and 2 are machines.
func full() impl.Project {
	return impl.Project{
		Deadline: 60,
		Activities: []impl.Activity{
			{Name: "a", Family: 0, Modes: []impl.Mode{mode(3, ints(1, 0, 0), ints(0, 1))}},
			{Name: "b1", Family: 1, Modes: []impl.Mode{mode(2, ints(2, 0, 1), ints(1, 0)), mode(4, ints(1, 0, 0), ints(3, 2))}},
			{Name: "c", Family: 2, Modes: []impl.Mode{mode(1, ints(0, 0, 0), ints(0, 0)), mode(12, ints(20, 0, 0), ints(20, 20)), mode(5, ints(0, 1, 0), ints(7, 8))}},
			{Name: "abcdefgh", Family: 3, Modes: []impl.Mode{mode(6, ints(0, 1, 1), ints(2, 2))}},
			{Name: "z9", Family: 3, Modes: []impl.Mode{mode(7, ints(0, 0, 0), ints(0, 0)), mode(8, ints(0, 0, 0), ints(0, 4))}},
			{Name: "start", Family: 1, Modes: []impl.Mode{mode(9, ints(3, 0, 0), ints(1, 1)), mode(10, ints(0, 20, 0), ints(2, 3)), mode(11, ints(4, 5, 6), ints(4, 4))}},
		},
		Links: []impl.Link{
			link(0, 1, false, 0), link(1, 0, true, -60), link(0, 2, true, 60), link(5, 4, false, -1), link(2, 3, true, 1), link(3, 5, false, 12),
			link(0, 1, false, 0), link(0, 1, true, 0), link(4, 5, false, -59), link(5, 0, true, 59), link(1, 2, false, 7), link(2, 1, true, -20),
		},
		Resources: []impl.Resource{
			{Steps: profile(0, 2, 6, 1)},
			{Steps: profile(0, 1, 9, 1), Setup: setupOf(1, 3, 5)},
			{Steps: profile(0, 0, 1, 1, 2, 2, 3, 3, 4, 20, 5, 5, 59, 6, 60, 7), Setup: setupOf(0, 2, 7)},
		},
		Stocks: ints(0, 100),
	}
}

// change makes another project of a full one, which is valid if ok is true.
type change struct {
	name  string
	ok    bool
	apply func(p *impl.Project)
}

func deadlineChanges() []change {
	var all []change
	for _, n := range ints(math.MinInt, -60, -1, 0, 1, 2, 59, 60, 61, 62, math.MaxInt) {
		all = append(all, change{fmt.Sprint("Deadline ", n), n >= 1 && n <= 60, func(p *impl.Project) { p.Deadline = n }})
	}
	return all
}

func activityChanges() []change {
	var all []change
	for i, a := range full().Activities {
		add := func(ok bool, what string, apply func(a *impl.Activity)) {
			all = append(all, change{fmt.Sprint("activity ", i, ": ", what), ok, func(p *impl.Project) { apply(&p.Activities[i]) }})
		}
		for _, name := range []string{"", "A", "1a", "abcdefghi", "a b", "a\n", "\u00e9", "new", "a0", "end", "y"} {
			add(name == "new" || name == "a0" || name == "end" || name == "y", "Name "+name, func(a *impl.Activity) { a.Name = name })
		}
		for j, other := range full().Activities {
			add(i == j, "Name of another one", func(a *impl.Activity) { a.Name = other.Name })
		}
		for _, n := range ints(math.MinInt, -1, 0, 1, 2, 3, 4, 5, math.MaxInt) {
			add(n >= 0 && n <= 3, fmt.Sprint("Family ", n), func(a *impl.Activity) { a.Family = n })
		}
		add(false, "no Modes", func(a *impl.Activity) { a.Modes = nil })
		for n := 1; n <= 5; n++ {
			add(n <= 3, fmt.Sprint(n, " Modes"), func(a *impl.Activity) {
				for len(a.Modes) < n {
					a.Modes = append(a.Modes, mode(12, ints(9, 9, 9), ints(9, 9)))
				}
				a.Modes = a.Modes[:n]
			})
		}
		for j := range a.Modes {
			all = append(all, modeChanges(i, j)...)
		}
	}
	return all
}

func modeChanges(i, j int) []change {
	var all []change
	add := func(ok bool, what string, apply func(m *impl.Mode)) {
		all = append(all, change{fmt.Sprint("activity ", i, ", mode ", j, ": ", what), ok, func(p *impl.Project) { apply(&p.Activities[i].Modes[j]) }})
	}
	for _, n := range ints(math.MinInt, -1, 0, 1, 12, 13, math.MaxInt) {
		add(n == 1 || n == 12, fmt.Sprint("Duration ", n), func(m *impl.Mode) { m.Duration = n })
	}
	for _, n := range ints(math.MinInt, -1, 0, 20, 21, math.MaxInt) {
		for at := range 3 {
			add(n == 0 || n == 20, fmt.Sprint("Usage ", at, " is ", n), func(m *impl.Mode) { m.Usage[at] = n })
		}
		for at := range 2 {
			add(n == 0 || n == 20, fmt.Sprint("Consumption ", at, " is ", n), func(m *impl.Mode) { m.Consumption[at] = n })
		}
	}
	add(false, "no Usage", func(m *impl.Mode) { m.Usage = nil })
	add(false, "less Usage", func(m *impl.Mode) { m.Usage = m.Usage[:2] })
	add(false, "more Usage", func(m *impl.Mode) { m.Usage = append(m.Usage, 0) })
	add(false, "no Consumption", func(m *impl.Mode) { m.Consumption = nil })
	add(false, "less Consumption", func(m *impl.Mode) { m.Consumption = m.Consumption[:1] })
	add(false, "more Consumption", func(m *impl.Mode) { m.Consumption = append(m.Consumption, 0) })
	return all
}

func linkChanges() []change {
	var all []change
	for i, k := range full().Links {
		add := func(ok bool, what string, k impl.Link) {
			all = append(all, change{fmt.Sprint("link ", i, ": ", what), ok, func(p *impl.Project) { p.Links[i] = k }})
		}
		for _, n := range ints(math.MinInt, -2, -1, 0, 1, 2, 3, 4, 5, 6, 7, math.MaxInt) {
			add(n >= 0 && n <= 5 && n != k.To, fmt.Sprint("From ", n), link(n, k.To, k.FromEnd, k.Lag))
			add(n >= 0 && n <= 5 && n != k.From, fmt.Sprint("To ", n), link(k.From, n, k.FromEnd, k.Lag))
		}
		for _, n := range ints(math.MinInt, -62, -61, -60, -59, 0, 59, 60, 61, 62, math.MaxInt) {
			add(n >= -60 && n <= 60, fmt.Sprint("Lag ", n), link(k.From, k.To, k.FromEnd, n))
		}
		add(true, "the other FromEnd", link(k.From, k.To, !k.FromEnd, k.Lag))
		all = append(all, change{fmt.Sprint("without link ", i), true, func(p *impl.Project) { p.Links = slices.Delete(p.Links, i, i+1) }})
	}
	all = append(all, change{"without links", true, func(p *impl.Project) { p.Links = nil }})
	all = append(all, change{"a link too many", false, func(p *impl.Project) { p.Links = append(p.Links, link(0, 1, false, 0)) }})
	all = append(all, change{"two links exchanged", true, func(p *impl.Project) { p.Links[0], p.Links[1] = p.Links[1], p.Links[0] }})
	return all
}

func resourceChanges() []change {
	var all []change
	for i := range full().Resources {
		add := func(ok bool, what string, apply func(r *impl.Resource)) {
			all = append(all, change{fmt.Sprint("resource ", i, ": ", what), ok, func(p *impl.Project) { apply(&p.Resources[i]) }})
		}
		for _, l := range goodProfiles() {
			add(true, fmt.Sprint("Steps ", l), func(r *impl.Resource) { r.Steps = l })
		}
		for _, l := range badProfiles() {
			add(false, fmt.Sprint("Steps ", l), func(r *impl.Resource) { r.Steps = l })
		}
		for _, s := range setups() {
			add(s.ok, fmt.Sprint("Setup ", s.rows), func(r *impl.Resource) { r.Setup = s.rows })
		}
	}
	all = append(all, change{"two resources exchanged", true, func(p *impl.Project) { p.Resources[0], p.Resources[1] = p.Resources[1], p.Resources[0] }})
	all = append(all, change{"a resource less", false, func(p *impl.Project) { p.Resources = p.Resources[:2] }})
	all = append(all, change{"a resource more", false, func(p *impl.Project) { p.Resources = append(p.Resources, p.Resources[0]) }})
	all = append(all, change{"no resources", false, func(p *impl.Project) { p.Resources = nil }})
	all = append(all, change{"a resource more and Usage of it", false, func(p *impl.Project) {
		p.Resources = append(p.Resources, impl.Resource{Steps: profile(0, 1)})
		for i, a := range p.Activities {
			for j, m := range a.Modes {
				p.Activities[i].Modes[j].Usage = append(m.Usage, 1)
			}
		}
	}})
	return all
}

type setup struct {
	ok   bool
	rows [][]int
}

// setups are lists for the field Setup; it may also be empty.
func setups() []setup {
	all := []setup{
		{true, nil},
		{true, setupOf(0, 0, 0)},
		{true, setupOf(12, 0, 0)},
		{true, setupOf(4, 5, 6)},
		{false, [][]int{nil}},
		{false, [][]int{nil, nil, nil, nil}},
		{false, [][]int{{0, 0, 0, 0, 0, 0, 0, 0, 0, 0, 0, 0, 0, 0, 0, 0}}},
		{false, setupOf(1, 1, 1)[:1]},
		{false, setupOf(1, 1, 1)[:3]},
		{false, append(setupOf(1, 1, 1), ints(1, 1, 1, 1))},
		{false, append(setupOf(1, 1, 1), nil)},
	}
	for i := range 4 {
		for _, n := range ints(0, 1, 2, 3, 5, 8) {
			rows := setupOf(1, 1, 1)
			rows[i] = make([]int, n)
			all = append(all, setup{false, rows})
		}
		for j := range 4 {
			for _, n := range ints(math.MinInt, -1, 0, 12, 13, math.MaxInt) {
				rows := setupOf(1, 1, 1)
				rows[i][j] = n
				all = append(all, setup{n == 0 || n == 12, rows})
			}
		}
	}
	return all
}

func stockChanges() []change {
	var all []change
	for i := range 2 {
		for _, n := range ints(math.MinInt, -1, 0, 1, 20, 99, 100, 101, math.MaxInt) {
			all = append(all, change{fmt.Sprint("stock ", i, " is ", n), n >= 0 && n <= 100, func(p *impl.Project) { p.Stocks[i] = n }})
		}
	}
	all = append(all, change{"a stock less", false, func(p *impl.Project) { p.Stocks = p.Stocks[:1] }})
	all = append(all, change{"a stock more", false, func(p *impl.Project) { p.Stocks = append(p.Stocks, 1) }})
	all = append(all, change{"no stocks", false, func(p *impl.Project) { p.Stocks = nil }})
	all = append(all, change{"a stock more and Consumption of it", false, func(p *impl.Project) {
		p.Stocks = append(p.Stocks, 1)
		for i, a := range p.Activities {
			for j, m := range a.Modes {
				p.Activities[i].Modes[j].Consumption = append(m.Consumption, 1)
			}
		}
	}})
	return all
}

func changes() []change {
	return slices.Concat(deadlineChanges(), activityChanges(), linkChanges(), resourceChanges(), stockChanges())
}

// variant is a project of the tests, which is valid if ok is true.
type variant struct {
	name string
	ok   bool
	p    impl.Project
}

// variants are projects of which no two are equal: small ones, and a full one with a change.
func variants() []variant {
	all := []variant{{"the zero value", false, impl.Project{}}, {"a full project", true, full()}}
	for n := range 9 {
		all = append(all, variant{fmt.Sprint(n, " activities"), n >= 1 && n <= 6, chain(n)})
	}
	for resources := range 5 {
		for stocks := range 4 {
			all = append(all, variant{fmt.Sprint(resources, " resources and ", stocks, " stocks"), resources <= 3 && stocks <= 2, plain(resources, stocks)})
		}
	}
	for _, c := range changes() {
		p := full()
		c.apply(&p)
		all = append(all, variant{c.name, c.ok, p})
	}
	return distinct(all)
}

// distinct goes by the print of the projects, which does not tell nil from empty lists.
func distinct(all []variant) []variant {
	seen := map[string]bool{}
	return slices.DeleteFunc(all, func(v variant) bool {
		text := fmt.Sprintf("%+v", v.p)
		again := seen[text]
		seen[text] = true
		return again
	})
}

// chosen are the variants that are valid, or those that are not.
func chosen(ok bool) []variant {
	return slices.DeleteFunc(variants(), func(v variant) bool { return v.ok != ok })
}

// deepCopy has empty lists where p has none, so that projects can be compared in depth.
func deepCopy(p impl.Project) impl.Project {
	q := impl.Project{Deadline: p.Deadline, Activities: []impl.Activity{}, Links: append([]impl.Link{}, p.Links...), Resources: []impl.Resource{}, Stocks: append(ints(), p.Stocks...)}
	for _, a := range p.Activities {
		q.Activities = append(q.Activities, copyOf(a))
	}
	for _, r := range p.Resources {
		s := impl.Resource{Steps: append([]impl.Step{}, r.Steps...), Setup: [][]int{}}
		for _, row := range r.Setup {
			s.Setup = append(s.Setup, append(ints(), row...))
		}
		q.Resources = append(q.Resources, s)
	}
	return q
}

func areSame(p, q impl.Project) bool {
	return reflect.DeepEqual(deepCopy(p), deepCopy(q))
}

func TestLimitsOfProjects(t *testing.T) {
	checkInt(t, "MaxActivities", impl.MaxActivities, 6)
	checkInt(t, "MaxResources", impl.MaxResources, 3)
	checkInt(t, "MaxStocks", impl.MaxStocks, 2)
	checkInt(t, "MaxLinks", impl.MaxLinks, 12)
}

// checkUsers compares Users with a look at every mode.
func checkUsers(t *testing.T, p impl.Project, res int) {
	t.Helper()
	var want []int
	for i, a := range p.Activities {
		usesIt := false
		for _, m := range a.Modes {
			usesIt = usesIt || m.Usage[res] > 0
		}
		if usesIt {
			want = append(want, i)
		}
	}
	if got := impl.Users(p, res); !slices.Equal(got, want) {
		t.Errorf("Users(%+v, %d) = %v, want %v", p, res, got, want)
	}
}

func TestP2TheUsersOfAResourceAreReported(t *testing.T) {
	for bits := range 1 << 12 {
		p := chain(3)
		p.Resources = []impl.Resource{{Steps: profile(0, 1)}, {Steps: profile(0, 1), Setup: setupOf(1, 1, 1)}}
		at := 0
		for i := range p.Activities {
			p.Activities[i].Modes = nil
			for range 2 {
				usage := ints(bits>>at&1*20, bits>>(at+1)&1)
				p.Activities[i].Modes = append(p.Activities[i].Modes, mode(1, usage, nil))
				at += 2
			}
		}
		checkUsers(t, p, 0)
		checkUsers(t, p, 1)
	}
	for _, v := range chosen(true) {
		for res := range v.p.Resources {
			checkUsers(t, v.p, res)
		}
	}
}

func TestP2UsersTable(t *testing.T) {
	p := full()
	same(t, "Users of resource 0", impl.Users(p, 0), ints(0, 1, 2, 5))
	same(t, "Users of resource 1", impl.Users(p, 1), ints(2, 3, 5))
	same(t, "Users of resource 2", impl.Users(p, 2), ints(1, 3, 5))
	for _, res := range ints(math.MinInt, -3, -1, 3, 4, math.MaxInt) {
		same(t, callOf("Users", res), impl.Users(p, res), nil)
	}
	same(t, "Users without resources", impl.Users(chain(2), 0), nil)
	same(t, "Users of a resource that is not used", impl.Users(plain(1, 0), 0), nil)
	for _, v := range chosen(false) {
		for _, res := range ints(math.MinInt, -1, 0, 1, 2, 3, math.MaxInt) {
			same(t, "Users in a project with "+v.name, impl.Users(v.p, res), nil)
		}
	}
}

func TestP15ResourceOk(t *testing.T) {
	for _, s := range setups() {
		for _, l := range goodProfiles() {
			checkBool(t, callOf("ResourceOk", l, s.rows), impl.ResourceOk(impl.Resource{Steps: l, Setup: s.rows}), s.ok)
		}
		for _, l := range badProfiles() {
			checkBool(t, callOf("ResourceOk", l, s.rows), impl.ResourceOk(impl.Resource{Steps: l, Setup: s.rows}), false)
		}
	}
	checkBool(t, "ResourceOk with an empty Setup", impl.ResourceOk(impl.Resource{Steps: profile(0, 1), Setup: [][]int{}}), true)
	checkBool(t, "ResourceOk of no resource", impl.ResourceOk(impl.Resource{}), false)
	checkBool(t, "ResourceOk of many rows", impl.ResourceOk(impl.Resource{Steps: profile(0, 1), Setup: slices.Repeat(setupOf(1, 1, 1), 1000)}), false)
}

func TestP15ProjectOk(t *testing.T) {
	for _, v := range variants() {
		if got := impl.ProjectOk(v.p); got != v.ok {
			t.Errorf("ProjectOk with %s = %v, of %+v", v.name, got, v.p)
		}
	}
}

func TestP15ProjectOkCounts(t *testing.T) {
	for n := range 15 {
		p := chain(2)
		for i := range n {
			p.Links = append(p.Links, link(i%2, 1-i%2, i%3 == 0, i))
		}
		checkBool(t, callOf("ProjectOk with links", n), impl.ProjectOk(p), n <= 12)
	}
	p := chain(2)
	p.Links = slices.Repeat([]impl.Link{link(0, 1, false, 0)}, 100000)
	checkBool(t, "ProjectOk of many links", impl.ProjectOk(p), false)
	checkBool(t, "ProjectOk of many activities", impl.ProjectOk(chain(100000)), false)
	checkBool(t, "ProjectOk of many resources", impl.ProjectOk(plain(100000, 0)), false)
	checkBool(t, "ProjectOk of many stocks", impl.ProjectOk(plain(0, 100000)), false)
	one := chain(1)
	one.Links = []impl.Link{link(0, 0, false, 0)}
	checkBool(t, "ProjectOk of a link from the only activity to itself", impl.ProjectOk(one), false)
	one.Links = []impl.Link{link(0, 1, false, 0)}
	checkBool(t, "ProjectOk of a link to no activity", impl.ProjectOk(one), false)
}

func TestP15ProjectOkAgainstModesOfOtherSizes(t *testing.T) {
	for resources := range 4 {
		for stocks := range 3 {
			for usages := range 5 {
				for consumptions := range 4 {
					p := plain(resources, stocks)
					p.Activities[0].Modes = append(p.Activities[0].Modes, mode(2, make([]int, usages), make([]int, consumptions)))
					checkBool(t, callOf("ProjectOk", p), impl.ProjectOk(p), usages == resources && consumptions == stocks)
				}
			}
		}
	}
}

func TestP15ActivityIndex(t *testing.T) {
	named := func(names ...string) impl.Project {
		var p impl.Project
		for _, name := range names {
			p.Activities = append(p.Activities, impl.Activity{Name: name})
		}
		return p
	}
	cases := []struct {
		p    impl.Project
		name string
		want int
	}{
		{full(), "a", 0},
		{full(), "b1", 1},
		{full(), "c", 2},
		{full(), "abcdefgh", 3},
		{full(), "z9", 4},
		{full(), "start", 5},
		{full(), "b", -1},
		{full(), "b12", -1},
		{full(), "", -1},
		{full(), "A", -1},
		{full(), "a ", -1},
		{full(), "abcdefghi", -1},
		{impl.Project{}, "a", -1},
		{impl.Project{}, "", -1},
		{chain(1), "a0", 0},
		{chain(1), "a1", -1},
		{chain(100), "a99", 99},
		{named("a", "b", "a", "b"), "b", 1},
		{named("x", "a", "a", "a"), "a", 1},
		{named("a", "a"), "a", 0},
		{named("a", "", ""), "", 1},
		{named("not a name", "\xff"), "\xff", 1},
		{named("not a name", "\xff"), "not a name", 0},
		{named("\xff"), "\ufffd", -1},
	}
	for _, c := range cases {
		checkInt(t, callOf("ActivityIndex", c.p, c.name), impl.ActivityIndex(c.p, c.name), c.want)
	}
}

func TestP15IsMachine(t *testing.T) {
	rows := func(setups ...[][]int) impl.Project {
		var p impl.Project
		for _, s := range setups {
			p.Resources = append(p.Resources, impl.Resource{Setup: s})
		}
		return p
	}
	cases := []struct {
		p    impl.Project
		want []bool
	}{
		{full(), []bool{false, true, true}},
		{chain(1), nil},
		{impl.Project{}, nil},
		{plain(3, 0), []bool{false, false, false}},
		{plain(5, 0), []bool{false, false, false, false, false}},
		{rows(nil, [][]int{}, [][]int{nil}, [][]int{{}}, [][]int{{-5}}, setupOf(0, 0, 0)), []bool{false, false, true, true, true, true}},
	}
	for _, c := range cases {
		for res := -2; res < len(c.want)+2; res++ {
			want := res >= 0 && res < len(c.want) && c.want[res]
			checkBool(t, callOf("IsMachine", c.p, res), impl.IsMachine(c.p, res), want)
		}
		checkBool(t, callOf("IsMachine", c.p, math.MinInt), impl.IsMachine(c.p, math.MinInt), false)
		checkBool(t, callOf("IsMachine", c.p, math.MaxInt), impl.IsMachine(c.p, math.MaxInt), false)
	}
	for _, v := range chosen(false) {
		for res, r := range v.p.Resources {
			checkBool(t, "IsMachine in a project with "+v.name, impl.IsMachine(v.p, res), len(r.Setup) > 0)
		}
	}
}

func TestP15SetupTime(t *testing.T) {
	p := full()
	indexes := ints(math.MinInt, -2, -1, 0, 1, 2, 3, 4, 5, 6, 7, math.MaxInt)
	family := ints(0, 1, 2, 3, 3, 1)
	for _, res := range indexes {
		for _, a := range indexes {
			for _, b := range indexes {
				want := 0
				if a >= 0 && a <= 5 && b >= 0 && b <= 5 {
					switch res {
					case 1:
						want = (1 + 3*family[a] + 5*family[b]) % 13
					case 2:
						want = (2*family[a] + 7*family[b]) % 13
					}
				}
				checkInt(t, callOf("SetupTime", res, a, b), impl.SetupTime(p, res, a, b), want)
			}
		}
	}
	for _, v := range chosen(false) {
		for _, res := range ints(0, 1, 2, 3) {
			for _, a := range ints(0, 1, 5) {
				checkInt(t, "SetupTime in a project with "+v.name, impl.SetupTime(v.p, res, a, 5-a), 0)
			}
		}
	}
}

func TestP15SetupTimeOfEveryElement(t *testing.T) {
	for i := range 4 {
		for j := range 4 {
			p := plain(1, 0)
			p.Activities = append(p.Activities, impl.Activity{Name: "b", Family: j, Modes: []impl.Mode{mode(1, ints(0), nil)}})
			p.Activities[0].Family = i
			p.Resources[0].Setup = setupOf(0, 0, 0)
			p.Resources[0].Setup[i][j] = 12
			checkInt(t, callOf("SetupTime", i, j), impl.SetupTime(p, 0, 0, 1), 12)
			checkInt(t, callOf("SetupTime", j, i), impl.SetupTime(p, 0, 1, 0), 12*b2i(i == j))
			checkInt(t, callOf("SetupTime", i, i), impl.SetupTime(p, 0, 0, 0), 12*b2i(i == j))
		}
	}
}

func b2i(b bool) int {
	if b {
		return 1
	}
	return 0
}

func TestP15WithDeadline(t *testing.T) {
	edges := ints(math.MinInt, -60, -1, 0, 1, 2, 59, 60, 61, 62, math.MaxInt)
	for _, v := range variants() {
		for _, n := range edges {
			want, ok := v.p, v.ok && n >= 1 && n <= 60
			want.Deadline = n
			if !ok {
				want = impl.Project{}
			}
			got, gotOk := impl.WithDeadline(v.p, n)
			if gotOk != ok || !areSame(got, want) {
				t.Errorf("WithDeadline of a project with %s to %d = %+v, %v", v.name, n, got, gotOk)
			}
		}
	}
	for n := -3; n <= 70; n++ {
		got, ok := impl.WithDeadline(full(), n)
		checkBool(t, callOf("WithDeadline", n), ok, n >= 1 && n <= 60)
		checkInt(t, callOf("WithDeadline", n), got.Deadline, n*b2i(ok))
	}
	if p, ok := impl.WithDeadline(full(), 60); !ok || !areSame(p, full()) {
		t.Errorf("WithDeadline of the same Deadline = %+v, %v", p, ok)
	}
}

func TestP15ProjectEqual(t *testing.T) {
	all := variants()
	for i, v := range all {
		for j, other := range all {
			if got := impl.ProjectEqual(v.p, other.p); got != (i == j) {
				t.Errorf("ProjectEqual of projects with %s and with %s = %v", v.name, other.name, got)
			}
		}
		checkBool(t, "ProjectEqual of a copy with "+v.name, impl.ProjectEqual(v.p, deepCopy(v.p)), true)
		checkBool(t, "ProjectEqual to a copy with "+v.name, impl.ProjectEqual(deepCopy(v.p), v.p), true)
	}
}

func TestP15ProjectEqualOfOtherOrders(t *testing.T) {
	p, q := chain(2), chain(2)
	slices.Reverse(q.Activities)
	checkBool(t, "ProjectEqual of activities in another order", impl.ProjectEqual(p, q), false)
	p, q = plain(0, 2), plain(0, 2)
	p.Stocks, q.Stocks = ints(1, 2), ints(2, 1)
	checkBool(t, "ProjectEqual of stocks in another order", impl.ProjectEqual(p, q), false)
	p, q = chain(1), chain(1)
	p.Resources, q.Resources = make([]impl.Resource, 2), make([]impl.Resource, 3)
	checkBool(t, "ProjectEqual of more resources", impl.ProjectEqual(p, q), false)
	checkBool(t, "ProjectEqual of fewer resources", impl.ProjectEqual(q, p), false)
}

func TestP15NilAndEmptyListsOfProjectsAreEqual(t *testing.T) {
	p, q := chain(1), chain(1)
	q.Links, q.Resources, q.Stocks = []impl.Link{}, []impl.Resource{}, ints()
	q.Activities[0].Modes[0] = mode(1, ints(), ints())
	checkBool(t, "ProjectEqual of nil and empty lists", impl.ProjectEqual(p, q), true)
	checkBool(t, "ProjectEqual of empty and nil lists", impl.ProjectEqual(q, p), true)
	checkBool(t, "ProjectOk of empty lists", impl.ProjectOk(q), true)
	r, ok := impl.WithDeadline(q, 5)
	checkBool(t, "WithDeadline of empty lists", ok && r.Deadline == 5 && len(r.Activities) == 1, true)
	p, q = plain(1, 0), plain(1, 0)
	q.Resources[0].Setup = [][]int{}
	checkBool(t, "ProjectEqual of a nil and an empty Setup", impl.ProjectEqual(p, q) && impl.ProjectEqual(q, p), true)
	checkBool(t, "ProjectOk of an empty Setup", impl.ProjectOk(q), true)
	checkBool(t, "IsMachine of an empty Setup", impl.IsMachine(q, 0), false)
	p.Resources[0] = impl.Resource{Setup: [][]int{nil}}
	q.Resources[0] = impl.Resource{Steps: []impl.Step{}, Setup: [][]int{{}}}
	checkBool(t, "ProjectEqual of a nil and an empty row", impl.ProjectEqual(p, q) && impl.ProjectEqual(q, p), true)
	checkBool(t, "ProjectEqual of zero values", impl.ProjectEqual(impl.Project{}, deepCopy(impl.Project{})), true)
	checkBool(t, "ProjectEqual of a row and none", impl.ProjectEqual(p, plain(1, 0)), false)
}

// roomy returns a copy of a project all of whose lists reach beyond their ends, and a function that reports whether all of it is still the same.
func roomy(p impl.Project) (impl.Project, func() bool) {
	q := deepCopy(p)
	filler := full()
	for i, a := range q.Activities {
		for j, m := range a.Modes {
			q.Activities[i].Modes[j].Usage = extended(m.Usage, 77)
			q.Activities[i].Modes[j].Consumption = extended(m.Consumption, 88)
		}
		q.Activities[i].Modes = extended(a.Modes, filler.Activities[1].Modes[1])
	}
	for i, r := range q.Resources {
		for j, row := range r.Setup {
			q.Resources[i].Setup[j] = extended(row, 99)
		}
		q.Resources[i].Steps = extended(r.Steps, impl.Step{At: -3, Capacity: -4})
		q.Resources[i].Setup = extended(q.Resources[i].Setup, ints(5, 6, 7, 8))
	}
	q.Activities = extended(q.Activities, filler.Activities[3])
	q.Resources = extended(q.Resources, filler.Resources[1])
	q.Links = extended(q.Links, filler.Links[2])
	q.Stocks = extended(q.Stocks, 55)
	before := deepCopy(toTheBrim(q))
	return q, func() bool { return reflect.DeepEqual(deepCopy(toTheBrim(q)), before) }
}

func extended[T any](l []T, filler T) []T {
	whole := append(append([]T{}, l...), filler, filler)
	return whole[:len(l)]
}

// toTheBrim returns a project whose lists extend to the capacity of those of p.
func toTheBrim(p impl.Project) impl.Project {
	q := impl.Project{Deadline: p.Deadline, Links: p.Links[:cap(p.Links)], Stocks: p.Stocks[:cap(p.Stocks)]}
	for _, a := range p.Activities[:cap(p.Activities)] {
		b := impl.Activity{Name: a.Name, Family: a.Family}
		for _, m := range a.Modes[:cap(a.Modes)] {
			b.Modes = append(b.Modes, mode(m.Duration, m.Usage[:cap(m.Usage)], m.Consumption[:cap(m.Consumption)]))
		}
		q.Activities = append(q.Activities, b)
	}
	for _, r := range p.Resources[:cap(p.Resources)] {
		s := impl.Resource{Steps: r.Steps[:cap(r.Steps)]}
		for _, row := range r.Setup[:cap(r.Setup)] {
			s.Setup = append(s.Setup, row[:cap(row)])
		}
		q.Resources = append(q.Resources, s)
	}
	return q
}

// spoil overwrites all lists of a project up to their capacity, which would show in whatever shares their memory.
func spoil(p impl.Project) {
	for _, a := range p.Activities {
		for _, m := range a.Modes {
			overwrite(m.Usage, -9)
			overwrite(m.Consumption, -9)
		}
		overwrite(a.Modes, impl.Mode{})
	}
	for _, r := range p.Resources {
		for _, row := range r.Setup {
			overwrite(row, -9)
		}
		overwrite(r.Setup, nil)
		overwrite(r.Steps, impl.Step{At: -9, Capacity: -9})
	}
	overwrite(p.Activities, impl.Activity{})
	overwrite(p.Resources, impl.Resource{})
	overwrite(p.Links, impl.Link{From: -9})
	overwrite(p.Stocks, -9)
}

func TestP15ProjectsAreLeftAlone(t *testing.T) {
	for _, v := range variants() {
		p, pKept := roomy(v.p)
		q, qKept := roomy(v.p)
		impl.ProjectOk(p)
		impl.ProjectEqual(p, q)
		impl.ActivityIndex(p, "z9")
		for res, r := range p.Resources {
			impl.ResourceOk(r)
			impl.IsMachine(p, res)
			impl.SetupTime(p, res, 0, 1)
			overwrite(impl.Users(p, res), -9)
		}
		for _, n := range ints(0, 30, v.p.Deadline) {
			r, _ := impl.WithDeadline(p, n)
			checkNew(t, "WithDeadline with "+v.name, r, p)
			spoil(r)
		}
		if !pKept() || !qKept() {
			t.Errorf("a function of chapter 6 changes its argument, a project with %s", v.name)
		}
	}
}

func TestP15ProjectsKeepNoState(t *testing.T) {
	for range 2 {
		p, ok := impl.WithDeadline(full(), 7)
		want := full()
		want.Deadline = 7
		if !ok || !areSame(p, want) {
			t.Errorf("WithDeadline after its last result was changed = %+v, %v", p, ok)
		}
		spoil(p)
		users := impl.Users(full(), 0)
		same(t, "Users after its last result was changed", users, ints(0, 1, 2, 5))
		overwrite(users, -9)
	}
}
