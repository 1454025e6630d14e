package tests

import (
	"math"
	"slices"
	"testing"

	"loop.example/g00178/impl"
)

// The document's numbers, written out here so that a changed constant is seen.
const (
	mostNodes  = 8
	lastDomain = 7
	mostCopies = 4
)

func conf(copies int, domains ...int) impl.Config {
	return impl.Config{Domains: domains, Copies: copies}
}

// nodesUpTo has the numbers of that many nodes.
func nodesUpTo(size int) []int {
	list := make([]int, size)
	for n := range list {
		list[n] = n
	}
	return list
}

// nodesOf has the numbers of the bits of mask, so that every set of nodes can be counted through.
func nodesOf(mask int) []int {
	var list []int
	for n := range mostNodes {
		if mask>>n&1 == 1 {
			list = append(list, n)
		}
	}
	return list
}

func isConfig(c impl.Config) bool {
	if len(c.Domains) == 0 || len(c.Domains) > mostNodes {
		return false
	}
	if slices.Min(c.Domains) < 0 || slices.Max(c.Domains) > lastDomain {
		return false
	}
	return slices.Contains([]int{1, 2, 3, 4}, c.Copies)
}

func areNodes(c impl.Config, list []int) bool {
	if !isConfig(c) {
		return false
	}
	for i, n := range list {
		if n < 0 || n >= len(c.Domains) {
			return false
		}
		for _, earlier := range list[:i] {
			if earlier >= n {
				return false
			}
		}
	}
	return true
}

func spanIs(c impl.Config, list []int) int {
	if !areNodes(c, list) {
		return -1
	}
	span := 0
	for domain := 0; domain <= lastDomain; domain++ {
		if slices.ContainsFunc(list, func(n int) bool { return c.Domains[n] == domain }) {
			span++
		}
	}
	return span
}

func isHeld(c impl.Config, list []int) bool {
	return areNodes(c, list) && spanIs(c, list) >= c.Copies
}

func restIs(c impl.Config, set []int, list []int) []int {
	if !areNodes(c, set) || !areNodes(c, list) {
		return nil
	}
	var rest []int
	for _, n := range set {
		if !slices.Contains(list, n) {
			rest = append(rest, n)
		}
	}
	return rest
}

// isEnough does not ask for what is left over: it goes through every part of set that holds.
func isEnough(c impl.Config, set []int, list []int) bool {
	if !isHeld(c, set) || !areNodes(c, list) {
		return false
	}
	for _, n := range list {
		if !slices.Contains(set, n) {
			return false
		}
	}
	for mask := range 1 << len(set) {
		var part []int
		for i, n := range set {
			if mask>>i&1 == 1 {
				part = append(part, n)
			}
		}
		if isHeld(c, part) && !haveCommon(part, list) {
			return false
		}
	}
	return true
}

func haveCommon(a []int, b []int) bool {
	return slices.ContainsFunc(a, func(n int) bool { return slices.Contains(b, n) })
}

func checkList(t *testing.T, c impl.Config, list []int) {
	t.Helper()
	if got, want := impl.NodesOk(c, list), areNodes(c, list); got != want {
		t.Fatalf("NodesOk(%v, %v): %v, not %v", c, list, got, want)
	}
	if got, want := impl.SpanOf(c, list), spanIs(c, list); got != want {
		t.Fatalf("SpanOf(%v, %v): %d, not %d", c, list, got, want)
	}
	if got, want := impl.Holds(c, list), isHeld(c, list); got != want {
		t.Fatalf("Holds(%v, %v): %v, not %v", c, list, got, want)
	}
}

func checkPair(t *testing.T, c impl.Config, set []int, list []int) {
	t.Helper()
	if got, want := impl.Rest(c, set, list), restIs(c, set, list); !slices.Equal(got, want) {
		t.Fatalf("Rest(%v, %v, %v): %v, not %v", c, set, list, got, want)
	}
	if got, want := impl.Enough(c, set, list), isEnough(c, set, list); got != want {
		t.Fatalf("Enough(%v, %v, %v): %v, not %v", c, set, list, got, want)
	}
}

// checkRefusedNodes asks for the fixed answers: list is not NodesOk, and other is one that would be.
func checkRefusedNodes(t *testing.T, c impl.Config, list []int, other []int) {
	t.Helper()
	if impl.NodesOk(c, list) || impl.SpanOf(c, list) != -1 || impl.Holds(c, list) {
		t.Errorf("%v, %v: %v, %d, %v", c, list, impl.NodesOk(c, list), impl.SpanOf(c, list), impl.Holds(c, list))
	}
	for _, pair := range [][2][]int{{list, other}, {other, list}, {list, list}, {list, nil}, {nil, list}} {
		rest, enough := impl.Rest(c, pair[0], pair[1]), impl.Enough(c, pair[0], pair[1])
		if len(rest) != 0 || enough {
			t.Errorf("%v, %v of %v: %v, %v", c, pair[1], pair[0], rest, enough)
		}
	}
}

func checkRefusedConfig(t *testing.T, c impl.Config) {
	t.Helper()
	if impl.ConfigOk(c) {
		t.Errorf("ConfigOk(%v)", c)
	}
	all := nodesUpTo(len(c.Domains))
	for _, list := range [][]int{nil, {0}, {1}, all, all[:len(all)/2]} {
		checkRefusedNodes(t, c, list, all)
	}
}

// checkTakenConfig asks for the nodes to be known, from the first to the last.
func checkTakenConfig(t *testing.T, c impl.Config) {
	t.Helper()
	if !impl.ConfigOk(c) {
		t.Errorf("not ConfigOk(%v)", c)
	}
	size := len(c.Domains)
	for _, list := range [][]int{nil, {0}, {size - 1}, nodesUpTo(size)} {
		if !impl.NodesOk(c, list) || impl.SpanOf(c, list) < 0 {
			t.Errorf("not NodesOk(%v, %v), of %d domains", c, list, impl.SpanOf(c, list))
		}
	}
	for _, list := range [][]int{{-1}, {size}, {0, size}, nodesUpTo(size + 1)} {
		checkRefusedNodes(t, c, list, nodesUpTo(size))
	}
}

// wrongNumbers are far from what they should be, with some that are right where only the lowest bits are looked at.
func wrongNumbers() []int {
	return []int{
		math.MinInt, math.MinInt + 1, -1 << 32, -epochStep + 1, -256, -255, -9, -8, -7, -3, -2, -1,
		8, 9, 15, 16, 255, 256, 257, 1 << 16, 1 << 31, 1 << 32, 1<<32 + 1, 1 << 62, math.MaxInt - 1, math.MaxInt,
	}
}

// someConfigs has few and many nodes, of domains that are alike, that differ, and that come in no order.
func someConfigs() []impl.Config {
	var list []impl.Config
	for _, domains := range [][]int{
		{0}, {7}, {3, 3}, {0, 7}, {7, 0}, {0, 0, 1}, {2, 1, 0}, {0, 0, 1, 2}, {5, 5, 5, 5}, {4, 6, 4, 6}, {1, 2, 3, 4, 0}, {0, 1, 1, 0, 2},
		{6, 6, 6, 6, 6, 6}, {0, 1, 2, 0, 1, 2}, {7, 6, 5, 4, 3, 2, 1, 0}, {0, 1, 2, 3, 4, 5, 6, 7}, {0, 0, 0, 0, 0, 0, 0, 0},
		{7, 7, 7, 7, 7, 7, 7, 7}, {0, 0, 1, 1, 2, 2, 3, 3}, {0, 1, 2, 3, 0, 1, 2, 3}, {5, 5, 5, 5, 5, 5, 5, 1}, {3, 0, 3, 1, 3, 2, 3, 7},
	} {
		for copies := 1; copies <= mostCopies; copies++ {
			list = append(list, conf(copies, domains...))
		}
	}
	return list
}

func badConfigs() []impl.Config {
	return []impl.Config{
		{}, conf(1), conf(0, 0), conf(-1, 0), conf(5, 0, 1, 2, 3, 4), conf(math.MinInt, 0, 1), conf(math.MaxInt, 0, 1),
		conf(1, 8), conf(1, -1), conf(1, 0, 8), conf(1, 0, -1), conf(1, 8, 0), conf(1, -1, 0), conf(2, 0, 1, math.MaxInt), conf(2, math.MinInt, 0, 1),
		conf(1, 0, 1, 2, 3, 4, 5, 6, 7, 0), conf(1, make([]int, 9)...), conf(1, make([]int, 256)...), conf(1, make([]int, 264)...), conf(1, make([]int, 5000)...),
		{Domains: []int{}, Copies: 1}, conf(0), conf(0, 8), conf(5, -1), conf(-1, make([]int, 9)...),
	}
}

// badLists are such at any config.
func badLists() [][]int {
	lists := [][]int{
		{0, 0}, {7, 7}, {0, 1, 1}, {0, 0, 1}, {0, 1, 0}, {1, 0}, {2, 1, 0}, {0, 2, 1}, {0, 3, 1, 2}, {7, 6, 5, 4, 3, 2, 1, 0}, {1, 2, 0},
		{-1, 0}, {-1, 0, 1}, {0, -1}, {-2, -1}, {0, 1, -1}, {math.MinInt, 0}, {0, math.MaxInt}, {math.MinInt, math.MaxInt}, {math.MaxInt, math.MinInt},
		make([]int, 8), make([]int, 5000), nodesUpTo(9), nodesUpTo(5000), {-8, -7, -6}, {1, 1, 8}, {8, -1}, {0, 1, 2, 3, 4, 5, 6, 8}, {0, 1, 2, 3, 4, 5, 6, 7, 7},
	}
	for _, n := range wrongNumbers() {
		lists = append(lists, []int{n})
	}
	return lists
}

func TestDomainLimit(t *testing.T) {
	if impl.MaxNodes != mostNodes {
		t.Errorf("MaxNodes %d", impl.MaxNodes)
	}
}

func TestConfigNodes(t *testing.T) {
	for copies := 1; copies <= mostCopies; copies++ {
		for _, domain := range []int{0, 3, 7} {
			for size := 0; size <= mostNodes+4; size++ {
				c := conf(copies, slices.Repeat([]int{domain}, size)...)
				if size >= 1 && size <= mostNodes {
					checkTakenConfig(t, c)
				} else {
					checkRefusedConfig(t, c)
				}
			}
		}
	}
	checkRefusedConfig(t, impl.Config{})
	checkRefusedConfig(t, impl.Config{Domains: []int{}, Copies: 1})
	checkRefusedConfig(t, conf(1, make([]int, 256)...))
	checkRefusedConfig(t, conf(1, make([]int, 257)...))
	checkRefusedConfig(t, conf(1, make([]int, 1<<16+1)...))
}

// One domain at a time is another, at each node: the first and the last are among them.
func TestConfigDomains(t *testing.T) {
	for size := 1; size <= mostNodes; size++ {
		for node := range size {
			for _, good := range []int{0, 1, 2, 3, 4, 5, 6, 7} {
				domains := make([]int, size)
				domains[node] = good
				checkTakenConfig(t, conf(1, domains...))
			}
			for _, bad := range wrongNumbers() {
				domains := slices.Repeat([]int{lastDomain}, size)
				domains[node] = bad
				checkRefusedConfig(t, conf(1, domains...))
			}
		}
	}
}

func TestConfigCopies(t *testing.T) {
	for _, domains := range [][]int{{0}, {7}, {0, 1, 2, 3}, {0, 1, 2, 3, 4}, {7, 6, 5, 4, 3, 2, 1, 0}, {2, 2, 2, 2, 2, 2, 2, 2}} {
		for _, copies := range []int{1, 2, 3, 4} {
			checkTakenConfig(t, conf(copies, domains...))
		}
		for _, copies := range append(wrongNumbers(), 0, 5, 6, 7) {
			checkRefusedConfig(t, conf(copies, domains...))
		}
	}
}

// Copies may be more than there are domains, or nodes: then nothing holds.
func TestConfigCopiesBeyondDomains(t *testing.T) {
	for _, c := range []impl.Config{conf(2, 0), conf(4, 0, 1, 2), conf(3, 0, 0, 1, 1, 0, 1, 0, 1), conf(2, 5, 5, 5, 5, 5, 5, 5, 5)} {
		checkTakenConfig(t, c)
		all := nodesUpTo(len(c.Domains))
		if impl.Holds(c, all) || impl.Enough(c, all, all) || impl.Enough(c, all, nil) || len(impl.Rest(c, all, all[:1])) != len(all)-1 {
			t.Errorf("%v: %v, %v, %v", c, impl.Holds(c, all), impl.Enough(c, all, all), impl.Rest(c, all, all[:1]))
		}
	}
}

func TestConfigEvery(t *testing.T) {
	numbers := []int{math.MinInt, -1, 0, 1, 6, 7, 8, math.MaxInt}
	for _, copies := range []int{math.MinInt, -1, 0, 1, 2, 3, 4, 5, math.MaxInt} {
		for _, a := range numbers {
			for _, b := range numbers {
				for _, c := range []impl.Config{conf(copies, a), conf(copies, a, b), conf(copies, a, 3, b), conf(copies, 3, a, b, 3)} {
					if got, want := impl.ConfigOk(c), isConfig(c); got != want {
						t.Fatalf("ConfigOk(%v): %v, not %v", c, got, want)
					}
					checkList(t, c, nil)
					checkList(t, c, []int{0})
				}
			}
		}
	}
}

func TestNodesKnown(t *testing.T) {
	c := conf(2, 0, 0, 1, 2)
	for _, list := range [][]int{nil, {}, {0}, {3}, {0, 1}, {0, 3}, {1, 2, 3}, {0, 1, 2, 3}} {
		if !impl.NodesOk(c, list) {
			t.Errorf("not NodesOk %v", list)
		}
	}
	for _, list := range [][]int{{4}, {-1}, {0, 0}, {3, 3}, {1, 0}, {0, 2, 2}, {0, 2, 1}, {0, 1, 2, 3, 4}, {-1, 0, 1}, {0, 1, 2, 3, 3}} {
		checkRefusedNodes(t, c, list, []int{0, 1, 2, 3})
	}
}

// Each list of up to four numbers, from below the first node to beyond the last.
func TestNodesEvery(t *testing.T) {
	for _, c := range []impl.Config{conf(1, 0), conf(1, 2, 2), conf(2, 1, 0, 1), conf(2, 0, 0, 1, 2), conf(0, 0, 1, 2)} {
		lists := [][]int{nil}
		for size := 0; size < 4; size++ {
			var longer [][]int
			for _, list := range lists {
				for n := -1; n <= len(c.Domains); n++ {
					longer = append(longer, append(slices.Clone(list), n))
				}
			}
			for _, list := range longer {
				checkList(t, c, list)
			}
			lists = longer
		}
	}
}

func TestNodesBad(t *testing.T) {
	for _, c := range someConfigs() {
		all := nodesUpTo(len(c.Domains))
		for _, list := range badLists() {
			checkRefusedNodes(t, c, list, all)
			checkRefusedNodes(t, c, list, all[:1])
		}
		for _, n := range wrongNumbers() {
			checkRefusedNodes(t, c, append(slices.Clone(all), n), all)
			checkRefusedNodes(t, c, append([]int{n}, all...), all)
			checkRefusedNodes(t, c, append([]int{0, n}, all[1:]...), all)
		}
		for _, n := range all {
			checkRefusedNodes(t, c, append(slices.Clone(all), n), all)
		}
		checkRefusedNodes(t, c, append(slices.Clone(all), len(all)), all)
	}
}

func TestSpanKnown(t *testing.T) {
	alike, apart, mixed := conf(1, 5, 5, 5, 5, 5, 5, 5, 5), conf(1, 7, 6, 5, 4, 3, 2, 1, 0), conf(1, 0, 3, 0, 7, 3, 0)
	for _, row := range []struct {
		c    impl.Config
		list []int
		want int
	}{
		{alike, nil, 0}, {alike, []int{0}, 1}, {alike, []int{7}, 1}, {alike, []int{0, 7}, 1}, {alike, nodesUpTo(8), 1},
		{apart, nil, 0}, {apart, []int{7}, 1}, {apart, []int{0, 7}, 2}, {apart, []int{1, 3, 5, 6}, 4}, {apart, nodesUpTo(8), 8},
		{mixed, []int{0, 2}, 1}, {mixed, []int{0, 2, 5}, 1}, {mixed, []int{1, 4}, 1}, {mixed, []int{0, 1}, 2}, {mixed, []int{0, 1, 4}, 2},
		{mixed, []int{2, 3}, 2}, {mixed, []int{3, 4, 5}, 3}, {mixed, nodesUpTo(6), 3}, {mixed, []int{6}, -1}, {mixed, []int{4, 1}, -1}, {mixed, []int{-1}, -1},
		{conf(0, 0, 1), []int{0, 1}, -1}, {conf(5, 0, 1), nil, -1}, {conf(1), nil, -1}, {conf(1, 0, 8), []int{0}, -1},
	} {
		if got := impl.SpanOf(row.c, row.list); got != row.want {
			t.Errorf("SpanOf(%v, %v): %d, not %d", row.c, row.list, got, row.want)
		}
	}
}

// Just Copies domains hold, whatever the number of nodes; one domain less does not.
func TestHoldsEdge(t *testing.T) {
	for copies := 1; copies <= mostCopies; copies++ {
		apart, pairs := conf(copies, 0, 1, 2, 3, 4, 5, 6, 7), conf(copies, 0, 0, 1, 1, 2, 2, 3, 3)
		for size := 0; size <= mostNodes; size++ {
			if got := impl.Holds(apart, nodesUpTo(size)); got != (size >= copies) {
				t.Errorf("%d copies, %d nodes apart: %v", copies, size, got)
			}
			if got := impl.Holds(pairs, nodesUpTo(size)); got != ((size+1)/2 >= copies) {
				t.Errorf("%d copies, %d nodes in pairs: %v", copies, size, got)
			}
		}
		last := nodesUpTo(8)[mostNodes-copies:]
		if !impl.Holds(apart, last) || impl.Holds(apart, last[1:]) {
			t.Errorf("%d copies at the last nodes", copies)
		}
	}
}

// The -1 of SpanOf must not count as enough where Copies is as low.
func TestHoldsLowCopies(t *testing.T) {
	for _, copies := range []int{math.MinInt, -9, -2, -1, 0} {
		for _, list := range append(badLists(), nil, []int{0}, []int{0, 1}, []int{0, 1, 2}) {
			checkRefusedNodes(t, conf(copies, 0, 1, 2), list, []int{0, 1})
			checkRefusedNodes(t, conf(copies), list, nil)
		}
	}
}

func TestRestKnown(t *testing.T) {
	c := conf(2, 0, 0, 1, 2, 1, 7)
	for _, row := range []struct {
		set, list, want []int
	}{
		{nil, nil, nil}, {nil, []int{0, 1}, nil}, {[]int{1, 2}, nil, []int{1, 2}}, {[]int{1, 2}, []int{1, 2}, nil}, {[]int{1, 2}, []int{0, 1, 2, 3, 4, 5}, nil},
		{[]int{1, 2}, []int{0, 3, 5}, []int{1, 2}}, {[]int{0, 1, 2, 3}, []int{1, 3}, []int{0, 2}}, {[]int{0, 2, 5}, []int{2, 4}, []int{0, 5}},
		{[]int{0, 2, 5}, []int{0, 1}, []int{2, 5}}, {[]int{0, 2, 5}, []int{3, 5}, []int{0, 2}}, {nodesUpTo(6), []int{0}, []int{1, 2, 3, 4, 5}},
		{nodesUpTo(6), []int{5}, []int{0, 1, 2, 3, 4}}, {nodesUpTo(6), nodesUpTo(6), nil}, {[]int{5}, []int{0, 1, 2, 3, 4}, []int{5}},
		{[]int{6}, nil, nil}, {[]int{0, 1}, []int{6}, nil}, {[]int{1, 0}, []int{0}, nil}, {[]int{0, 1}, []int{-1}, nil}, {[]int{0, 1}, []int{2, 2}, nil},
		{[]int{0, 0, 1}, []int{1}, nil}, {[]int{0, 1}, []int{3, 2}, nil}, {[]int{-1, 0}, nil, nil},
	} {
		if got := impl.Rest(c, row.set, row.list); !slices.Equal(got, row.want) {
			t.Errorf("Rest(%v, %v): %v, not %v", row.set, row.list, got, row.want)
		}
	}
}

// What is left over is told by any config that is so, even where nothing can hold.
func TestRestBadConfig(t *testing.T) {
	if got := impl.Rest(conf(4, 0, 0), []int{0, 1}, []int{1}); !slices.Equal(got, []int{0}) {
		t.Errorf("of one domain, with 4 copies: %v", got)
	}
	for _, c := range badConfigs() {
		for _, pair := range [][2][]int{{nil, nil}, {{0}, nil}, {{0}, {0}}, {{0, 1}, {0}}, {{0, 1}, {1}}} {
			if got := impl.Rest(c, pair[0], pair[1]); len(got) != 0 || impl.Enough(c, pair[0], pair[1]) {
				t.Errorf("%v, %v of %v: %v", c, pair[1], pair[0], got)
			}
		}
	}
}

func TestEnoughKnown(t *testing.T) {
	c := conf(2, 0, 0, 1, 2)
	all := nodesUpTo(4)
	for _, row := range []struct {
		why       string
		set, list []int
		want      bool
	}{
		{"the rest is of one domain", all, []int{2, 3}, true}, {"the rest is of one node", all, []int{0, 1, 3}, true}, {"nothing is left over", all, all, true},
		{"the rest is the last node", all, []int{0, 1, 2}, true}, {"the rest just holds", all, []int{0, 1}, false}, {"the rest holds with one more", all, []int{3}, false},
		{"the rest just holds with two of one domain", all, []int{2}, false}, {"nothing is asked", all, nil, false},
		{"the set just holds, one is asked", []int{1, 3}, []int{3}, true}, {"the set just holds, the other is asked", []int{1, 3}, []int{1}, true},
		{"the set just holds, nothing is asked", []int{1, 3}, nil, false}, {"the set does not hold", []int{0, 1}, []int{0, 1}, false},
		{"the set is of one node", []int{2}, []int{2}, false}, {"the set is empty", nil, nil, false}, {"not within an empty set", nil, []int{0}, false},
		{"not within the set", []int{0, 2}, []int{0, 1}, false}, {"not within the set, which is asked wholly", []int{0, 2}, []int{0, 1, 2}, false},
		{"not within the set, at the end", []int{0, 2}, []int{0, 2, 3}, false}, {"beside the set", []int{0, 2}, []int{1, 3}, false},
		{"a node twice", all, []int{2, 3, 3}, false}, {"no node", all, []int{2, 3, 4}, false}, {"below 0", all, []int{-1, 2, 3}, false},
		{"descending", all, []int{3, 2}, false}, {"a set with a node twice", []int{0, 2, 2}, []int{0, 2}, false}, {"a set that descends", []int{3, 2, 1, 0}, []int{2, 3}, false},
		{"a set with no node", []int{0, 1, 2, 3, 4}, []int{0, 1, 2, 3}, false}, {"a set below 0", []int{-1, 0, 1, 2, 3}, []int{0, 1, 2, 3}, false},
	} {
		if got := impl.Enough(c, row.set, row.list); got != row.want {
			t.Errorf("%s: Enough(%v, %v) is %v", row.why, row.set, row.list, got)
		}
	}
}

// Of nodes apart, all but Copies - 1 are enough, and one less is not.
func TestEnoughEdge(t *testing.T) {
	for copies := 1; copies <= mostCopies; copies++ {
		c := conf(copies, 3, 1, 4, 0, 5, 7, 2, 6)
		for size := copies; size <= mostNodes; size++ {
			set := nodesUpTo(size)
			for asked := 0; asked <= size; asked++ {
				want := size-asked < copies
				if impl.Enough(c, set, set[:asked]) != want || impl.Enough(c, set, set[size-asked:]) != want {
					t.Errorf("%d copies, %d of %d nodes: not %v", copies, asked, size, want)
				}
			}
		}
	}
}

// smallConfigs has every config of up to four nodes, of domains that are or are not alike.
func smallConfigs() []impl.Config {
	var list []impl.Config
	domains := [][]int{nil}
	for size := 1; size <= 4; size++ {
		var longer [][]int
		for _, some := range domains {
			for _, domain := range []int{0, 1, 4, 7} {
				longer = append(longer, append(slices.Clone(some), domain))
			}
		}
		domains = longer
		for _, some := range domains {
			for copies := 1; copies <= mostCopies; copies++ {
				list = append(list, conf(copies, some...))
			}
		}
	}
	return list
}

// Promise 4 by the program's own answers: no part of set that holds lies beside what is enough, and where a list within a set that holds is not enough, one does.
func checkCommon(t *testing.T, c impl.Config) {
	t.Helper()
	for setMask := range 1 << len(c.Domains) {
		set := nodesOf(setMask)
		setHolds := impl.Holds(c, set)
		var holding []int
		for mask := range 1 << len(c.Domains) {
			if mask&^setMask == 0 && impl.Holds(c, nodesOf(mask)) {
				holding = append(holding, mask)
			}
		}
		for listMask := range 1 << len(c.Domains) {
			list := nodesOf(listMask)
			beside := slices.ContainsFunc(holding, func(mask int) bool { return mask&listMask == 0 })
			enough := impl.Enough(c, set, list)
			if enough && (beside || !setHolds || listMask&^setMask != 0) {
				t.Fatalf("%v: %v is enough of %v, of which %v hold", c, list, set, holding)
			}
			if !enough && setHolds && listMask&^setMask == 0 && !beside {
				t.Fatalf("%v: %v is not enough of %v, of which %v hold", c, list, set, holding)
			}
		}
	}
}

func TestDomainCommon(t *testing.T) {
	t.Parallel()
	for _, c := range smallConfigs() {
		checkCommon(t, c)
	}
	for _, c := range []impl.Config{conf(3, 0, 0, 1, 1, 2, 2), conf(2, 7, 6, 5, 4, 3, 2, 1, 0), conf(4, 0, 0, 1, 1, 2, 2, 3, 3), conf(3, 3, 0, 3, 1, 3, 2, 3, 7)} {
		checkCommon(t, c)
	}
}

// Two lists that are enough of one set need have nothing in common, but each has a node of whatever holds.
func TestDomainCommonOfChosen(t *testing.T) {
	c := conf(3, 0, 1, 2, 3)
	all := nodesUpTo(4)
	if !impl.Enough(c, all, []int{0, 1}) || !impl.Enough(c, all, []int{2, 3}) || impl.Enough(c, all, []int{0}) {
		t.Error("two of four domains are enough where three hold, and one is not")
	}
}

func TestDomainEverySmall(t *testing.T) {
	t.Parallel()
	for _, c := range smallConfigs() {
		for setMask := range 1 << len(c.Domains) {
			checkList(t, c, nodesOf(setMask))
			for listMask := range 1 << len(c.Domains) {
				checkPair(t, c, nodesOf(setMask), nodesOf(listMask))
			}
		}
	}
}

// Every list of every one of the configs, against some sets of it.
func TestDomainEveryList(t *testing.T) {
	t.Parallel()
	for _, c := range someConfigs() {
		all := 1<<len(c.Domains) - 1
		for listMask := range all + 1 {
			checkList(t, c, nodesOf(listMask))
			for _, setMask := range []int{0, 1, 5, 0x0f, 0x1e, 0x5a, 0x96, 0xaa, 0xf0, 0xfe, 0xff} {
				checkPair(t, c, nodesOf(setMask&all), nodesOf(listMask))
			}
		}
	}
}

func TestDomainBad(t *testing.T) {
	lists := append(badLists(), nil, []int{0}, []int{0, 1}, []int{1, 2}, nodesUpTo(4), nodesUpTo(8))
	for _, c := range append(badConfigs(), conf(1, 0), conf(2, 0, 1, 1), conf(4, 0, 1, 2, 3, 4, 5, 6, 7)) {
		for _, set := range lists {
			checkList(t, c, set)
			for _, list := range lists {
				checkPair(t, c, set, list)
			}
		}
	}
}

// A map is gone through in another order each time; the answer must be the same one each time.
func TestDomainMapOrder(t *testing.T) {
	c := conf(3, 2, 7, 2, 0, 7, 5, 5, 1)
	set, list, few := nodesUpTo(8), []int{3}, []int{1, 3, 4, 5, 7}
	for range 500 {
		if got := impl.Rest(c, set, list); !slices.Equal(got, []int{0, 1, 2, 4, 5, 6, 7}) {
			t.Fatalf("the rest was told as %v", got)
		}
		if got := impl.Rest(c, set, nil); !slices.Equal(got, set) {
			t.Fatalf("all was told as %v", got)
		}
		if impl.SpanOf(c, set) != 5 || impl.SpanOf(c, few) != 4 || !impl.Holds(c, few) || impl.Holds(c, []int{0, 2, 5, 6}) {
			t.Fatal("domains")
		}
		if !impl.Enough(c, set, few) || impl.Enough(c, set, list) || impl.Enough(c, set[1:], []int{0, 1, 3, 4, 5, 7}) || impl.Enough(c, set[:7], few) {
			t.Fatal("enough")
		}
	}
}

// numbersWithRoom lays list between other numbers, with spare room behind it; the whole is answered too.
func numbersWithRoom(list []int) ([]int, []int) {
	whole := slices.Concat([]int{-71, -72}, list, []int{-73, -74, -75, -76, -77, -78, -79, -80, -81})
	return whole[2 : 2+len(list)], whole
}

// spoilNumbers writes over all that an answer's memory holds, the spare room too.
func spoilNumbers(list []int) {
	list = list[:cap(list)]
	for i := range list {
		list[i] = -99
	}
}

// domainArguments has what is as the chapter wants it, and what is not.
func domainArguments() ([]impl.Config, [][]int) {
	configs := append(badConfigs()[:16], conf(1, 3), conf(2, 0, 0, 1, 2), conf(3, 7, 6, 5, 4, 3, 2, 1, 0), conf(2, 0, 0, 1, 1, 2, 2, 3, 3))
	lists := append(badLists()[:24], nil, []int{0}, []int{3}, []int{0, 1}, []int{0, 2, 3}, nodesUpTo(4), []int{4, 7}, nodesUpTo(8))
	return configs, lists
}

func askAllOfDomain(c impl.Config, set []int, list []int) []int {
	impl.ConfigOk(c)
	impl.NodesOk(c, list)
	impl.SpanOf(c, list)
	impl.Holds(c, list)
	impl.Enough(c, set, list)
	return impl.Rest(c, set, list)
}

// The answer is written over too: what it shares with an argument, or with the room behind one, would be seen.
func TestDomainWritesNothing(t *testing.T) {
	configs, lists := domainArguments()
	for _, c := range configs {
		for _, set := range lists {
			for _, list := range lists {
				domains, domainsWhole := numbersWithRoom(c.Domains)
				givenSet, setWhole := numbersWithRoom(set)
				givenList, listWhole := numbersWithRoom(list)
				wholes := [][]int{domainsWhole, setWhole, listWhole}
				before := [][]int{slices.Clone(domainsWhole), slices.Clone(setWhole), slices.Clone(listWhole)}
				spoilNumbers(askAllOfDomain(impl.Config{Domains: domains, Copies: c.Copies}, givenSet, givenList))
				for i := range wholes {
					if !slices.Equal(wholes[i], before[i]) {
						t.Fatalf("%v, %v, %v: %v became %v", c, set, list, before[i], wholes[i])
					}
				}
			}
		}
	}
}

func TestDomainSharesNothing(t *testing.T) {
	configs, lists := domainArguments()
	for _, c := range configs {
		for _, set := range lists {
			for _, list := range lists {
				want := restIs(c, set, list)
				one, two := impl.Rest(c, set, list), impl.Rest(c, set, list)
				spoilNumbers(one)
				if !slices.Equal(two, want) {
					t.Fatalf("two answers of Rest(%v, %v, %v) share memory", c, set, list)
				}
				if got := impl.Rest(c, set, list); !slices.Equal(got, want) {
					t.Fatalf("Rest(%v, %v, %v) keeps what it answered: %v", c, set, list, got)
				}
			}
		}
	}
}

// An answer stays as it was told, whatever is done to the arguments afterwards.
func TestDomainAnswerStays(t *testing.T) {
	domains, set, list := []int{0, 1, 2, 3}, []int{0, 1, 3}, []int{1, 2}
	got := impl.Rest(conf(2, domains...), set, list)
	all := impl.Rest(impl.Config{Domains: domains, Copies: 2}, set, nil)
	spoilNumbers(domains)
	spoilNumbers(set)
	spoilNumbers(list)
	if !slices.Equal(got, []int{0, 3}) || !slices.Equal(all, []int{0, 1, 3}) {
		t.Errorf("became %v and %v", got, all)
	}
}

// The same memory may be handed in as domains, as set and as list.
func TestDomainOneMemory(t *testing.T) {
	same := []int{0, 1, 2, 3}
	c := impl.Config{Domains: same, Copies: 2}
	if impl.SpanOf(c, same) != 4 || !impl.Enough(c, same, same) || !impl.Enough(c, same, same[:3]) || impl.Enough(c, same, same[:2]) {
		t.Error("enough")
	}
	if got := impl.Rest(c, same, same[:2]); !slices.Equal(got, []int{2, 3}) {
		t.Error("rest", got)
	}
	spoilNumbers(impl.Rest(c, same, same[2:]))
	spoilNumbers(impl.Rest(c, same, nil))
	if !slices.Equal(same, []int{0, 1, 2, 3}) {
		t.Error("became", same)
	}
}

// Nothing is kept from call to call: an answer is the same whatever was asked ahead of it.
func TestDomainAgain(t *testing.T) {
	c, other, bad := conf(2, 0, 0, 1, 2), conf(2, 1, 1, 1, 1, 1), conf(2, 0, 8)
	set := nodesUpTo(4)
	for range 3 {
		if !impl.ConfigOk(c) || impl.ConfigOk(bad) || !impl.NodesOk(other, []int{4}) || impl.NodesOk(c, []int{4}) {
			t.Error("ok")
		}
		if impl.SpanOf(other, set) != 1 || impl.SpanOf(c, set) != 3 || impl.SpanOf(bad, set) != -1 || impl.SpanOf(c, nil) != 0 {
			t.Error("span")
		}
		if !impl.Holds(c, set) || impl.Holds(other, set) || !impl.Enough(c, set, []int{2, 3}) || impl.Enough(other, set, []int{2, 3}) {
			t.Error("enough")
		}
		if got := impl.Rest(c, set, []int{2}); !slices.Equal(got, []int{0, 1, 3}) || len(impl.Rest(bad, set, nil)) != 0 {
			t.Error("rest", got)
		}
	}
}
