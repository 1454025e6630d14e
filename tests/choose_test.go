package tests

import (
	"math"
	"slices"
	"testing"

	"loop.example/g00178/impl"
)

// The document's number, written out here so that a changed constant is seen.
const mostMask = 255

// chosenIs cuts set at its place from and lays the first part behind the second: the first node of each domain counts there.
func chosenIs(c impl.Config, set []int, from int) ([]int, bool) {
	if from < 0 || !isHeld(c, set) {
		return nil, false
	}
	start := from % len(set)
	turned := slices.Concat(set[start:], set[:start])
	var firsts []int
	for i, n := range turned {
		if !slices.ContainsFunc(turned[:i], func(earlier int) bool { return c.Domains[earlier] == c.Domains[n] }) {
			firsts = append(firsts, n)
		}
	}
	chosen := slices.Clone(firsts[:c.Copies])
	slices.Sort(chosen)
	return chosen, true
}

func maskIs(list []int) int {
	for mask := 0; mask <= mostMask; mask++ {
		if slices.Equal(nodesOf(mask), list) {
			return mask
		}
	}
	return -1
}

func checkChoose(t *testing.T, c impl.Config, set []int, from int) {
	t.Helper()
	got, ok := impl.Choose(c, set, from)
	want, wantOk := chosenIs(c, set, from)
	if ok != wantOk || !slices.Equal(got, want) {
		t.Fatalf("Choose(%v, %v, %d): %v, %v, not %v, %v", c, set, from, got, ok, want, wantOk)
	}
}

func checkNotChosen(t *testing.T, c impl.Config, set []int, from int) {
	t.Helper()
	if got, ok := impl.Choose(c, set, from); ok || len(got) != 0 {
		t.Fatalf("Choose(%v, %v, %d): %v, %v", c, set, from, got, ok)
	}
}

// checkChosen is promise 5, by the answers of the program itself.
func checkChosen(t *testing.T, c impl.Config, set []int, from int) {
	t.Helper()
	got, ok := impl.Choose(c, set, from)
	if !ok {
		t.Fatalf("Choose(%v, %v, %d): nothing, though the set holds", c, set, from)
	}
	if !impl.NodesOk(c, got) || len(impl.Rest(c, got, set)) != 0 || !impl.Holds(c, got) {
		t.Fatalf("Choose(%v, %v, %d): %v does not hold or is not within the set", c, set, from, got)
	}
	if len(got) != c.Copies || impl.SpanOf(c, got) != c.Copies {
		t.Fatalf("Choose(%v, %v, %d): %v are not just so many nodes and domains", c, set, from, got)
	}
	for i := range got {
		if fewer := slices.Delete(slices.Clone(got), i, i+1); impl.Holds(c, fewer) {
			t.Fatalf("Choose(%v, %v, %d): of %v, %v would hold", c, set, from, got, fewer)
		}
	}
}

// someStarts has every place of a set of that size, those just beyond it, and some very far ones.
func someStarts(size int) []int {
	starts := []int{99, 100, 101, 255, 256, 1 << 31, 1<<31 + 1, 1 << 32, 1<<32 + 3, epochStep + 1, 1 << 62, math.MaxInt - 2, math.MaxInt - 1, math.MaxInt}
	for from := range 2*size + 2 {
		starts = append(starts, from)
	}
	return starts
}

func startsBelow() []int {
	return []int{-1, -2, -3, -4, -5, -7, -8, -9, -16, -255, -256, -1 << 31, -1 << 32, -1 << 62, math.MinInt + 8, math.MinInt + 1, math.MinInt}
}

func TestMaskNodesEvery(t *testing.T) {
	for mask := 0; mask <= mostMask; mask++ {
		if got := impl.MaskNodes(mask); !slices.Equal(got, nodesOf(mask)) {
			t.Errorf("MaskNodes(%d): %v, not %v", mask, got, nodesOf(mask))
		}
	}
}

func TestMaskNodesKnown(t *testing.T) {
	for _, row := range []struct {
		mask int
		want []int
	}{
		{0, nil}, {1, []int{0}}, {2, []int{1}}, {3, []int{0, 1}}, {13, []int{0, 2, 3}}, {127, []int{0, 1, 2, 3, 4, 5, 6}},
		{128, []int{7}}, {129, []int{0, 7}}, {170, []int{1, 3, 5, 7}}, {254, []int{1, 2, 3, 4, 5, 6, 7}}, {255, []int{0, 1, 2, 3, 4, 5, 6, 7}},
	} {
		if got := impl.MaskNodes(row.mask); !slices.Equal(got, row.want) {
			t.Errorf("MaskNodes(%d): %v, not %v", row.mask, got, row.want)
		}
	}
}

func TestMaskNodesOfNone(t *testing.T) {
	masks := []int{
		256, 257, 258, 260, 264, 272, 288, 320, 384, 511, 512, 1 << 15, 1<<16 + 1, 1<<31 - 1, 1 << 31, 1 << 32, 1<<32 + 1, 1<<32 + 255, 1 << 62, 1<<62 + 255, math.MaxInt - 255, math.MaxInt - 1, math.MaxInt,
		-1, -2, -3, -127, -128, -129, -255, -256, -257, -1 << 31, -1<<32 + 1, -1 << 32, -1<<32 + 255, -1 << 62, math.MinInt + 255, math.MinInt + 1, math.MinInt,
	}
	for _, mask := range masks {
		if got := impl.MaskNodes(mask); len(got) != 0 {
			t.Errorf("MaskNodes(%d): %v", mask, got)
		}
	}
	for mask := 256; mask < 5000; mask++ {
		if len(impl.MaskNodes(mask)) != 0 || len(impl.MaskNodes(255-mask)) != 0 {
			t.Fatalf("MaskNodes at %d or at %d", mask, 255-mask)
		}
	}
}

func TestNodesMaskEvery(t *testing.T) {
	for mask := 0; mask <= mostMask; mask++ {
		if got := impl.NodesMask(nodesOf(mask)); got != mask {
			t.Errorf("NodesMask(%v): %d, not %d", nodesOf(mask), got, mask)
		}
		if got := impl.NodesMask(impl.MaskNodes(mask)); got != mask {
			t.Errorf("the mask of the nodes of %d: %d", mask, got)
		}
	}
}

func TestNodesMaskKnown(t *testing.T) {
	for _, row := range []struct {
		list []int
		want int
	}{
		{nil, 0}, {[]int{}, 0}, {[]int{0}, 1}, {[]int{7}, 128}, {[]int{0, 7}, 129}, {[]int{0, 2, 3}, 13}, {[]int{6, 7}, 192}, {nodesUpTo(8), 255},
		{[]int{8}, -1}, {[]int{-1}, -1}, {[]int{0, 0}, -1}, {[]int{7, 7}, -1}, {[]int{2, 0}, -1}, {[]int{7, 6}, -1}, {[]int{0, 2, 2}, -1}, {[]int{0, 0, 2}, -1},
		{[]int{0, 2, 1}, -1}, {[]int{0, 3, 1, 4}, -1}, {[]int{-1, 0}, -1}, {[]int{0, -1}, -1}, {[]int{7, 8}, -1}, {[]int{0, 8}, -1}, {[]int{8, 0}, -1},
		{[]int{0, 64}, -1}, {[]int{63}, -1}, {[]int{64}, -1}, {nodesUpTo(9), -1}, {[]int{0, 1, 2, 3, 4, 5, 6, 7, 7}, -1},
	} {
		if got := impl.NodesMask(row.list); got != row.want {
			t.Errorf("NodesMask(%v): %d, not %d", row.list, got, row.want)
		}
	}
}

func TestNodesMaskOfNone(t *testing.T) {
	lists := badLists()
	for _, n := range wrongNumbers() {
		lists = append(lists, []int{0, n}, []int{n, 0}, []int{n, 7}, []int{0, n, 7}, append(nodesUpTo(8), n), append([]int{n}, nodesUpTo(8)...))
	}
	for _, list := range lists {
		if got := impl.NodesMask(list); got != -1 {
			t.Errorf("NodesMask(%v): %d", list, got)
		}
	}
}

// Each list of up to three numbers, from below 0 to beyond 7.
func TestNodesMaskEveryShort(t *testing.T) {
	for a := -2; a <= 9; a++ {
		for b := -2; b <= 9; b++ {
			for d := -2; d <= 9; d++ {
				for _, list := range [][]int{{a}, {a, b}, {a, b, d}} {
					if got, want := impl.NodesMask(list), maskIs(list); got != want {
						t.Fatalf("NodesMask(%v): %d, not %d", list, got, want)
					}
				}
			}
		}
	}
}

func TestChooseKnown(t *testing.T) {
	beside, apart, all := conf(2, 0, 0, 1, 2), conf(2, 5, 3, 5, 4, 3), []int{0, 1, 2, 3}
	for _, row := range []struct {
		why  string
		c    impl.Config
		set  []int
		from int
		want []int
	}{
		{"at the first of two beside each other", beside, all, 0, []int{0, 2}},
		{"at the second of them", beside, all, 1, []int{1, 2}},
		{"behind them", beside, all, 2, []int{2, 3}},
		{"before them, round the end", beside, all, 3, []int{0, 3}},
		{"at just how many there are", beside, all, 4, []int{0, 2}},
		{"beyond how many there are", beside, all, 7, []int{0, 3}},
		{"two rounds on", beside, all, 9, []int{1, 2}},
		{"at the greatest number", beside, all, math.MaxInt, []int{0, 3}},
		{"in a set without the first node", beside, []int{1, 2, 3}, 2, []int{1, 3}},
		{"by the place in set, not by the number of a node", beside, []int{1, 2, 3}, 1, []int{2, 3}},
		{"at just how many there are of three", beside, []int{1, 2, 3}, 3, []int{1, 2}},
		{"at the first of two apart", apart, nodesUpTo(5), 0, []int{0, 1}},
		{"between them, the second is chosen", apart, nodesUpTo(5), 1, []int{1, 2}},
		{"at the second of them", apart, nodesUpTo(5), 2, []int{2, 3}},
		{"behind them, with the others apart", apart, nodesUpTo(5), 3, []int{3, 4}},
		{"at the last, round the end", apart, nodesUpTo(5), 4, []int{0, 4}},
		{"past one of a domain that was met, round the end", conf(3, 5, 3, 5, 4, 3), nodesUpTo(5), 4, []int{0, 3, 4}},
		{"past two of a domain that was met", conf(2, 1, 1, 1, 6), all, 0, []int{0, 3}},
		{"past those of it, round the end", conf(2, 1, 6, 1, 1), all, 2, []int{1, 2}},
		{"where the last one is the only other", conf(2, 6, 1, 1, 1), all, 1, []int{0, 1}},
		{"one copy, the first", conf(1, 4, 4, 4), []int{0, 1, 2}, 0, []int{0}},
		{"one copy, the last", conf(1, 4, 4, 4), []int{0, 1, 2}, 2, []int{2}},
		{"one copy, one node", conf(1, 4, 4, 4), []int{1}, 5, []int{1}},
		{"all that there are", conf(4, 3, 2, 1, 0), all, 2, all},
		{"four of eight, round the end", conf(4, 0, 1, 2, 3, 4, 5, 6, 7), nodesUpTo(8), 6, []int{0, 1, 6, 7}},
		{"four of four pairs, at the second of one", conf(4, 0, 0, 1, 1, 2, 2, 3, 3), nodesUpTo(8), 3, []int{0, 3, 4, 6}},
		{"four of four pairs apart", conf(4, 0, 1, 2, 3, 0, 1, 2, 3), nodesUpTo(8), 6, []int{0, 1, 6, 7}},
	} {
		if got, ok := impl.Choose(row.c, row.set, row.from); !ok || !slices.Equal(got, row.want) {
			t.Errorf("%s: Choose(%v, %v, %d): %v, %v, not %v", row.why, row.c, row.set, row.from, got, ok, row.want)
		}
	}
}

func TestChooseFromBelow(t *testing.T) {
	for _, c := range someConfigs() {
		for _, from := range startsBelow() {
			checkNotChosen(t, c, nodesUpTo(len(c.Domains)), from)
			checkNotChosen(t, c, []int{0}, from)
			checkNotChosen(t, c, nil, from)
		}
	}
}

// From one place to the next that is just as many on, the answer is the same.
func TestChooseModulo(t *testing.T) {
	c := conf(3, 2, 7, 2, 0, 7, 5, 5)
	set := []int{0, 1, 2, 3, 4, 5, 6}
	for start := range set {
		want, _ := chosenIs(c, set, start)
		last := math.MaxInt - math.MaxInt%len(set)
		for _, from := range []int{start, start + 7, start + 14, start + 7*1000003, start + 7<<40, last - 7 + start} {
			if got, ok := impl.Choose(c, set, from); !ok || !slices.Equal(got, want) {
				t.Errorf("from %d: %v, %v, not %v", from, got, ok, want)
			}
		}
	}
}

// A set that just holds is chosen whole, wherever it begins; one that lacks a domain is not chosen from.
func TestChooseJustHolds(t *testing.T) {
	for copies := 1; copies <= mostCopies; copies++ {
		c := conf(copies, 3, 1, 4, 0, 5, 7, 2, 6)
		for _, set := range [][]int{nodesUpTo(copies), nodesUpTo(8)[8-copies:], {1, 3, 5, 7}, {0, 2, 4, 6}} {
			set = set[:copies]
			for _, from := range someStarts(len(set)) {
				if got, ok := impl.Choose(c, set, from); !ok || !slices.Equal(got, set) {
					t.Errorf("Choose(%v, %v, %d): %v, %v", c, set, from, got, ok)
				}
				checkNotChosen(t, c, set[1:], from)
				checkNotChosen(t, c, set[:copies-1], from)
			}
		}
	}
}

// Many nodes of too few domains do not hold, wherever it begins.
func TestChooseNotHeld(t *testing.T) {
	for _, c := range []impl.Config{conf(2, 0, 0, 0, 0, 0, 0, 0, 0), conf(3, 0, 0, 1, 1, 0, 1, 0, 1), conf(4, 0, 1, 2, 0, 1, 2, 0, 1), conf(2, 6), conf(4, 7, 6, 5)} {
		for mask := range 1 << len(c.Domains) {
			for _, from := range someStarts(len(c.Domains)) {
				checkNotChosen(t, c, nodesOf(mask), from)
			}
		}
	}
	part := conf(2, 0, 0, 1, 2)
	for _, set := range [][]int{nil, {}, {0}, {1}, {2}, {3}, {0, 1}} {
		for _, from := range someStarts(len(set)) {
			checkNotChosen(t, part, set, from)
		}
	}
}

func TestChooseBadSet(t *testing.T) {
	for _, c := range someConfigs() {
		all := nodesUpTo(len(c.Domains))
		sets := append(badLists(), append(slices.Clone(all), len(all)), append(slices.Clone(all), len(all)-1), append([]int{0}, all...), append([]int{-1}, all...))
		if len(all) > 1 {
			descending := slices.Clone(all)
			slices.Reverse(descending)
			sets = append(sets, descending, append(slices.Clone(all[1:]), 0))
		}
		for _, set := range sets {
			for _, from := range []int{0, 1, 2, len(set), len(set) + 1, math.MaxInt, -1, math.MinInt} {
				checkNotChosen(t, c, set, from)
			}
		}
	}
}

// Copies below 1 must not make every set hold.
func TestChooseBadConfig(t *testing.T) {
	for _, c := range append(badConfigs(), conf(0, 0, 1, 2), conf(-1, 0, 1, 2), conf(math.MinInt, 0, 1, 2)) {
		for _, set := range append(badLists(), nil, []int{0}, []int{1}, []int{0, 1}, []int{0, 1, 2}, nodesUpTo(len(c.Domains))) {
			for _, from := range []int{0, 1, 2, 3, 8, math.MaxInt, -1, math.MinInt} {
				checkNotChosen(t, c, set, from)
			}
		}
	}
}

// Every set of every small config, and every place to begin at.
func TestChooseEverySmall(t *testing.T) {
	for _, c := range smallConfigs() {
		for mask := range 1 << len(c.Domains) {
			set := nodesOf(mask)
			for from := -1; from <= 2*len(set)+1; from++ {
				checkChoose(t, c, set, from)
				if from >= 0 && impl.Holds(c, set) {
					checkChosen(t, c, set, from)
				}
			}
		}
	}
}

func TestChooseEverySet(t *testing.T) {
	for _, c := range someConfigs() {
		for mask := range 1 << len(c.Domains) {
			set := nodesOf(mask)
			for _, from := range someStarts(len(set)) {
				checkChoose(t, c, set, from)
			}
			for from := range set {
				if impl.Holds(c, set) {
					checkChosen(t, c, set, from)
				}
			}
		}
	}
}

// Each node of a set that holds is chosen where it begins there.
func TestChooseBegins(t *testing.T) {
	for _, c := range someConfigs() {
		for mask := range 1 << len(c.Domains) {
			set := nodesOf(mask)
			if !isHeld(c, set) {
				continue
			}
			for from, n := range set {
				if got, _ := impl.Choose(c, set, from); !slices.Contains(got, n) {
					t.Fatalf("Choose(%v, %v, %d): %v is without %d", c, set, from, got, n)
				}
			}
		}
	}
}

// The chosen ones must not be seen in the order in which a map is gone through.
func TestChooseMapOrder(t *testing.T) {
	c := conf(4, 2, 7, 2, 0, 7, 5, 5, 1)
	for range 500 {
		if got, ok := impl.Choose(c, nodesUpTo(8), 6); !ok || !slices.Equal(got, []int{0, 1, 6, 7}) {
			t.Fatalf("chosen as %v", got)
		}
		if got := impl.MaskNodes(0xd6); !slices.Equal(got, []int{1, 2, 4, 6, 7}) {
			t.Fatalf("told as %v", got)
		}
	}
}

// The answers are written over too: what they share with an argument, or with the room behind one, would be seen.
func TestChooseWritesNothing(t *testing.T) {
	configs, sets := domainArguments()
	for _, c := range configs {
		for _, set := range sets {
			for _, from := range []int{math.MinInt, -1, 0, 1, 2, 3, len(set), math.MaxInt} {
				domains, domainsWhole := numbersWithRoom(c.Domains)
				given, setWhole := numbersWithRoom(set)
				domainsBefore, setBefore := slices.Clone(domainsWhole), slices.Clone(setWhole)
				impl.NodesMask(given)
				got, _ := impl.Choose(impl.Config{Domains: domains, Copies: c.Copies}, given, from)
				spoilNumbers(got)
				if !slices.Equal(domainsWhole, domainsBefore) || !slices.Equal(setWhole, setBefore) {
					t.Fatalf("Choose(%v, %v, %d): %v and %v became %v and %v", c, set, from, domainsBefore, setBefore, domainsWhole, setWhole)
				}
			}
		}
	}
}

func TestChooseSharesNothing(t *testing.T) {
	configs, sets := domainArguments()
	for _, c := range configs {
		for _, set := range sets {
			for _, from := range []int{-1, 0, 1, 3, math.MaxInt} {
				want, _ := chosenIs(c, set, from)
				one, _ := impl.Choose(c, set, from)
				two, _ := impl.Choose(c, set, from)
				spoilNumbers(one)
				if !slices.Equal(two, want) {
					t.Fatalf("two answers of Choose(%v, %v, %d) share memory", c, set, from)
				}
				if got, _ := impl.Choose(c, set, from); !slices.Equal(got, want) {
					t.Fatalf("Choose(%v, %v, %d) keeps what it answered: %v", c, set, from, got)
				}
			}
		}
	}
}

func TestMaskNodesSharesNothing(t *testing.T) {
	for mask := -2; mask <= mostMask+2; mask++ {
		want := nodesOf(mask)
		if mask < 0 || mask > mostMask {
			want = nil
		}
		one, two := impl.MaskNodes(mask), impl.MaskNodes(mask)
		spoilNumbers(one)
		if !slices.Equal(two, want) {
			t.Fatalf("two answers of MaskNodes(%d) share memory", mask)
		}
		if got := impl.MaskNodes(mask); !slices.Equal(got, want) {
			t.Fatalf("MaskNodes(%d) keeps what it answered: %v", mask, got)
		}
	}
}

// An answer stays as it was told, whatever is done to the arguments and asked for afterwards.
func TestChooseAnswerStays(t *testing.T) {
	domains, set := []int{0, 0, 1, 2}, []int{0, 1, 2, 3}
	part, _ := impl.Choose(impl.Config{Domains: domains, Copies: 2}, set, 3)
	all, _ := impl.Choose(impl.Config{Domains: domains, Copies: 3}, set[1:], 0)
	nodes := impl.MaskNodes(0x91)
	spoilNumbers(domains)
	spoilNumbers(set)
	impl.Choose(conf(3, 0, 1, 2, 3), nodesUpTo(4), 2)
	impl.MaskNodes(0x66)
	if !slices.Equal(part, []int{0, 3}) || !slices.Equal(all, []int{1, 2, 3}) || !slices.Equal(nodes, []int{0, 4, 7}) {
		t.Errorf("became %v, %v and %v", part, all, nodes)
	}
}

// The same memory may be handed in as domains and as set.
func TestChooseOneMemory(t *testing.T) {
	same := []int{0, 1, 2, 3}
	c := impl.Config{Domains: same, Copies: 3}
	if got, ok := impl.Choose(c, same, 3); !ok || !slices.Equal(got, []int{0, 1, 3}) {
		t.Error("chosen", got, ok)
	} else {
		spoilNumbers(got)
	}
	whole, _ := impl.Choose(impl.Config{Domains: same, Copies: 4}, same, 1)
	spoilNumbers(whole)
	if !slices.Equal(same, []int{0, 1, 2, 3}) {
		t.Error("became", same)
	}
}

// Nothing is kept from call to call: an answer is the same whatever was asked ahead of it.
func TestChooseAgain(t *testing.T) {
	c, other := conf(2, 0, 0, 1, 2), conf(1, 1, 1, 1, 1, 1)
	set := nodesUpTo(4)
	for range 3 {
		if got, ok := impl.Choose(c, set, 1); !ok || !slices.Equal(got, []int{1, 2}) {
			t.Error("chosen", got, ok)
		}
		if got, ok := impl.Choose(other, set, 3); !ok || !slices.Equal(got, []int{3}) {
			t.Error("chosen of one domain", got, ok)
		}
		checkNotChosen(t, c, set[:2], 1)
		checkNotChosen(t, conf(2, 0, 8), set[:2], 1)
		if impl.NodesMask(set) != 15 || impl.NodesMask([]int{3, 2}) != -1 || impl.NodesMask(nil) != 0 {
			t.Error("mask")
		}
		if got := impl.MaskNodes(6); !slices.Equal(got, []int{1, 2}) || len(impl.MaskNodes(256)) != 0 {
			t.Error("nodes", got)
		}
	}
}
