package tests

import (
	"fmt"
	"maps"
	"math"
	"math/rand"
	"slices"
	"strings"
	"testing"

	"loop.example/g00178/impl"
)

// isMend is what MendOk must answer, by a model of the tests' own.
func isMend(c impl.Config, m impl.Mend) bool {
	if !isConfig(c) || m.Epoch < 1 || m.Epoch > lastEpoch || m.By <= m.Epoch || m.By > lastEpoch || !areNodes(c, m.Sealed) {
		return false
	}
	last := 0
	for _, e := range m.Seen {
		if !isEntry(e) || e.At/epochStep != m.Epoch || e.At%epochStep <= last || e.Wave >= m.By {
			return false
		}
		last = e.At % epochStep
	}
	for _, nodes := range m.Wrote {
		if !areNodes(c, nodes) {
			return false
		}
	}
	if m.Planned {
		return len(m.Wrote) == last
	}
	return len(m.Wrote) == 0
}

func cloneMend(m impl.Mend) impl.Mend {
	own := m
	own.Sealed = append([]int(nil), m.Sealed...)
	own.Seen = append([]impl.Entry(nil), m.Seen...)
	own.Wrote = cloneLists(m.Wrote)
	return own
}

func sameMend(a impl.Mend, b impl.Mend) bool {
	return a.By == b.By && a.Epoch == b.Epoch && a.Planned == b.Planned && slices.Equal(a.Sealed, b.Sealed) && slices.Equal(a.Seen, b.Seen) && slices.EqualFunc(a.Wrote, b.Wrote, slices.Equal[[]int])
}

// mendAsItWas is what must be answered where a change is refused.
func mendAsItWas(c impl.Config, m impl.Mend) (impl.Mend, bool) {
	if !isMend(c, m) {
		return impl.Mend{}, false
	}
	return cloneMend(m), false
}

// mendSealIs sees in a map by place, so that it has nothing of how the program finds one.
func mendSealIs(c impl.Config, m impl.Mend, node int, list []impl.Entry) (impl.Mend, bool) {
	if !isMend(c, m) || m.Planned || node < 0 || node >= len(c.Domains) {
		return mendAsItWas(c, m)
	}
	best := map[int]impl.Entry{}
	for _, e := range slices.Concat(m.Seen, list) {
		if e.At < at(m.Epoch, 1) || e.At > at(m.Epoch, lastOff) {
			continue
		}
		if old, ok := best[e.At]; !ok || e.Wave > old.Wave {
			best[e.At] = e
		}
	}
	next := impl.Mend{By: m.By, Epoch: m.Epoch}
	for n := range c.Domains {
		if n == node || slices.Contains(m.Sealed, n) {
			next.Sealed = append(next.Sealed, n)
		}
	}
	for _, place := range slices.Sorted(maps.Keys(best)) {
		next.Seen = append(next.Seen, best[place])
	}
	if !isMend(c, next) {
		return mendAsItWas(c, m)
	}
	return next, true
}

func mendPlanIs(c impl.Config, m impl.Mend, set []int) (impl.Mend, bool) {
	var list []int
	for _, n := range m.Sealed {
		if slices.Contains(set, n) {
			list = append(list, n)
		}
	}
	if !isMend(c, m) || m.Planned || !isEnough(c, set, list) {
		return mendAsItWas(c, m)
	}
	next := cloneMend(m)
	next.Planned = true
	for _, e := range m.Seen {
		for len(next.Wrote) < e.At%epochStep {
			next.Wrote = append(next.Wrote, nil)
		}
	}
	return next, true
}

func mendEntryIs(m impl.Mend, off int) (impl.Entry, bool) {
	if !m.Planned || off < 1 || off > lastOff || off > len(m.Wrote) || m.Epoch < 1 || m.Epoch > lastEpoch {
		return impl.Entry{}, false
	}
	place := at(m.Epoch, off)
	i := slices.IndexFunc(m.Seen, func(e impl.Entry) bool { return e.At == place })
	if i < 0 {
		return impl.Entry{At: place, Wave: m.By, Hole: true}, true
	}
	return impl.Entry{At: place, Wave: m.By, Hole: m.Seen[i].Hole, Data: m.Seen[i].Data}, true
}

// mendAckIs counts the nodes through, and takes each that was there or is told now.
func mendAckIs(c impl.Config, m impl.Mend, off int, node int) (impl.Mend, bool) {
	if !isMend(c, m) || off < 1 || off > len(m.Wrote) || node < 0 || node >= len(c.Domains) {
		return mendAsItWas(c, m)
	}
	next := cloneMend(m)
	next.Wrote[off-1] = nil
	for n := range c.Domains {
		if n == node || slices.Contains(m.Wrote[off-1], n) {
			next.Wrote[off-1] = append(next.Wrote[off-1], n)
		}
	}
	return next, true
}

func mendForgetIs(c impl.Config, m impl.Mend, node int) (impl.Mend, bool) {
	if !isMend(c, m) {
		return impl.Mend{}, false
	}
	next := cloneMend(m)
	for i, nodes := range m.Wrote {
		next.Wrote[i] = nil
		for _, n := range nodes {
			if n != node {
				next.Wrote[i] = append(next.Wrote[i], n)
			}
		}
	}
	return next, true
}

func readyIs(c impl.Config, m impl.Mend) bool {
	if !isMend(c, m) || !m.Planned {
		return false
	}
	held := 0
	for _, nodes := range m.Wrote {
		if isHeld(c, nodes) {
			held++
		}
	}
	return held == len(m.Wrote)
}

// mendAsk is one thing that is asked of a mend, with what must be answered.
type mendAsk struct {
	name string
	ask  func(impl.Config, impl.Mend) (impl.Mend, bool)
	want func(impl.Config, impl.Mend) (impl.Mend, bool)
}

func askMendSeal(node int, list []impl.Entry) mendAsk {
	return mendAsk{
		fmt.Sprintf("MendSeal %d with %.300s", node, fmt.Sprint(list)),
		func(c impl.Config, m impl.Mend) (impl.Mend, bool) { return impl.MendSeal(c, m, node, list) },
		func(c impl.Config, m impl.Mend) (impl.Mend, bool) { return mendSealIs(c, m, node, list) },
	}
}

func askPlan(set []int) mendAsk {
	return mendAsk{
		fmt.Sprintf("MendPlan of %.200s", fmt.Sprint(set)),
		func(c impl.Config, m impl.Mend) (impl.Mend, bool) { return impl.MendPlan(c, m, set) },
		func(c impl.Config, m impl.Mend) (impl.Mend, bool) { return mendPlanIs(c, m, set) },
	}
}

func askMendAck(off int, node int) mendAsk {
	return mendAsk{
		fmt.Sprintf("MendAck %d by %d", off, node),
		func(c impl.Config, m impl.Mend) (impl.Mend, bool) { return impl.MendAck(c, m, off, node) },
		func(c impl.Config, m impl.Mend) (impl.Mend, bool) { return mendAckIs(c, m, off, node) },
	}
}

func askMendForget(node int) mendAsk {
	return mendAsk{
		fmt.Sprintf("MendForget %d", node),
		func(c impl.Config, m impl.Mend) (impl.Mend, bool) { return impl.MendForget(c, m, node) },
		func(c impl.Config, m impl.Mend) (impl.Mend, bool) { return mendForgetIs(c, m, node) },
	}
}

func (a mendAsk) check(t *testing.T, c impl.Config, m impl.Mend) {
	t.Helper()
	want, wantOk := a.want(c, m)
	if got, ok := a.ask(c, m); ok != wantOk || !sameMend(got, want) {
		t.Fatalf("%s of %v, %v: %v, %v; want %v, %v", a.name, c, m, got, ok, want, wantOk)
	}
}

// refuses asks for m as it was, as the document has it, and not by a model.
func (a mendAsk) refuses(t *testing.T, c impl.Config, m impl.Mend) {
	t.Helper()
	if got, ok := a.ask(c, m); ok || !sameMend(got, m) {
		t.Fatalf("%s of %v, %v: %v, %v; want it as it was", a.name, c, m, got, ok)
	}
}

func (a mendAsk) refusesWholly(t *testing.T, c impl.Config, m impl.Mend) {
	t.Helper()
	if got, ok := a.ask(c, m); ok || !sameMend(got, impl.Mend{}) {
		t.Fatalf("%s of %v, %v: %v, %v; want zero", a.name, c, m, got, ok)
	}
}

// answers asks for one mend that must be answered.
func (a mendAsk) answers(t *testing.T, c impl.Config, m impl.Mend, want impl.Mend) {
	t.Helper()
	if got, ok := a.ask(c, m); !ok || !sameMend(got, want) {
		t.Fatalf("%s of %v, %v: %v, %v; want %v", a.name, c, m, got, ok, want)
	}
}

// seenOf has an entry for each letter of row, the first one of offset 1: d is data as new, w data with a Wave, h a hole; elsewhere is nothing.
func seenOf(epoch int, by int, row string) []impl.Entry {
	var list []impl.Entry
	data := someData()
	for i, letter := range row {
		e := impl.Entry{At: at(epoch, i+1)}
		if letter != 'd' {
			e.Wave = epoch + 1 + i%max(1, by-epoch-1)
		}
		e.Hole = letter == 'h'
		if letter != 'h' {
			e.Data = data[(i*3+epoch)%len(data)]
		}
		if letter != '.' {
			list = append(list, e)
		}
	}
	return list
}

// sealedMend is not Planned.
func sealedMend(epoch int, by int, row string, sealed ...int) impl.Mend {
	return impl.Mend{By: by, Epoch: epoch, Sealed: sealed, Seen: seenOf(epoch, by, row)}
}

// plannedMend has wrote at the first offsets, and no node at those behind.
func plannedMend(epoch int, by int, row string, sealed []int, wrote ...[]int) impl.Mend {
	m := sealedMend(epoch, by, row, sealed...)
	m.Planned, m.Wrote = true, cloneLists(wrote)
	for len(m.Wrote) < len(strings.TrimRight(row, ".")) {
		m.Wrote = append(m.Wrote, nil)
	}
	return m
}

// writtenMend takes what each offset was written on from lists, in turn.
func writtenMend(epoch int, by int, row string, sealed []int, lists [][]int) impl.Mend {
	m := plannedMend(epoch, by, row, sealed)
	for i := range m.Wrote {
		m.Wrote[i] = slices.Clone(lists[(i*5+epoch)%len(lists)])
	}
	return m
}

// longRow goes up to that offset, and has each letter in turn.
func longRow(size int) string {
	return strings.Repeat("d.wh", lastOff)[:size-1] + "d"
}

func mendRows() []string {
	return []string{"", "d", "w", "h", ".d", "..w", "dd", "d.d", "dwh", "d..h", ".....d", "whwhwd.wd", longRow(30), longRow(lastOff - 1), longRow(lastOff), strings.Repeat("d", lastOff), strings.Repeat(".", lastOff-1) + "h"}
}

func mendEpochs() [][2]int {
	return [][2]int{{2, 4}, {1, 3}, {1, lastEpoch}, {28, lastEpoch}, {7, 12}}
}

// someMends has mends that are right: of all steps, with nothing, little and as much as can be that was seen.
func someMends(c impl.Config) []impl.Mend {
	list := []impl.Mend{
		{Epoch: 1, By: 2}, {Epoch: lastEpoch - 1, By: lastEpoch, Sealed: []int{0}}, {Epoch: 1, By: lastEpoch, Planned: true}, {Epoch: 2, By: 3, Sealed: []int{}, Seen: []impl.Entry{}, Wrote: [][]int{}},
		sealedMend(29, 30, "d.dd", 0), plannedMend(1, 2, "dd", nil, []int{0}),
	}
	all := nodesUpTo(len(c.Domains))
	lists := append(unheldLists(c), heldLists(c)...)
	for i, row := range mendRows() {
		epochs := mendEpochs()[i%5]
		list = append(list, sealedMend(epochs[0], epochs[1], row, lists[(i*7)%len(lists)]...), plannedMend(epochs[0], epochs[1], row, all), writtenMend(epochs[0], epochs[1], row, lists[(i*3)%len(lists)], lists))
		if held := heldLists(c); len(held) > 0 {
			list = append(list, writtenMend(epochs[0], epochs[1], row, all, held))
		}
	}
	return list
}

// changedMend is m with something else.
func changedMend(m impl.Mend, change func(*impl.Mend)) impl.Mend {
	own := cloneMend(m)
	change(&own)
	return own
}

// wrongNodes has lists that are not NodesOk.
func wrongNodes(c impl.Config) [][]int {
	all := nodesUpTo(len(c.Domains))
	return [][]int{{len(all)}, {-1}, {1, 0}, {0, 0}, {0, len(all)}, {-1, 0}, append(slices.Clone(all), 0), append(slices.Clone(all), all[len(all)-1]), append(slices.Clone(all), len(all)), {math.MaxInt}, {math.MinInt}, {1 << 32}, nodesUpTo(9)}
}

// badMends has mends that are not right, each for one reason.
func badMends(c impl.Config) []impl.Mend {
	list := []impl.Mend{
		{}, {Planned: true}, {Epoch: 1}, {By: 1}, {Epoch: 1, By: 1}, {Epoch: 2, By: 1}, {Epoch: 0, By: 1}, {Epoch: -1, By: 1}, {Epoch: -2, By: -1}, {Epoch: lastEpoch, By: lastEpoch}, {Epoch: lastEpoch, By: lastEpoch + 1}, {Epoch: 1, By: lastEpoch + 1},
		{Epoch: 1, By: math.MaxInt}, {Epoch: math.MinInt, By: 3}, {Epoch: math.MinInt, By: math.MaxInt}, {Epoch: 1<<32 + 1, By: 1<<32 + 2}, {Epoch: 1, By: 1<<32 + 2}, {Epoch: 256 + 1, By: 256 + 3}, {Epoch: 1, By: 2, Planned: true, Wrote: [][]int{nil}}, {Epoch: 1, By: 2, Wrote: [][]int{nil}}, {Epoch: 1, By: 2, Wrote: [][]int{{0}}},
	}
	for _, whole := range []impl.Mend{sealedMend(2, 5, "d.wh", 0), plannedMend(2, 5, "d.wh", []int{0}, []int{0}, nil, []int{0})} {
		swapped, twice, better := reversed(whole.Seen), append(slices.Clone(whole.Seen), whole.Seen[2]), append(slices.Clone(whole.Seen), whole.Seen[2])
		better[2].Wave, better[3].Wave = 3, 4
		for _, seen := range [][]impl.Entry{swapped, twice, better} {
			list = append(list, changedMend(whole, func(m *impl.Mend) { m.Seen = seen }))
		}
		for _, nodes := range wrongNodes(c) {
			list = append(list, changedMend(whole, func(m *impl.Mend) { m.Sealed = nodes }))
		}
		for i := range whole.Seen {
			for _, wave := range []int{5, 6, lastEpoch, lastEpoch + 1, 1, 2, -1, math.MaxInt} {
				list = append(list, changedMend(whole, func(m *impl.Mend) { m.Seen[i].Wave = wave }))
			}
			for _, place := range []int{at(1, i+1), at(3, i+1), at(2, 0), at(2, 61), i + 1, -1} {
				list = append(list, changedMend(whole, func(m *impl.Mend) { m.Seen[i].At = place }))
			}
			list = append(list, changedMend(whole, func(m *impl.Mend) { m.Seen[i].Data = strings.Repeat("x", mostData+1) }), changedMend(whole, func(m *impl.Mend) { m.Seen[i].Hole, m.Seen[i].Data = true, "x" }))
		}
		list = append(list, changedMend(whole, func(m *impl.Mend) { m.Planned = !m.Planned }), changedMend(whole, func(m *impl.Mend) { m.Wrote = append(m.Wrote, nil) }), changedMend(whole, func(m *impl.Mend) { m.Wrote = append(m.Wrote, []int{0}) }))
		for i := range whole.Wrote {
			list = append(list, changedMend(whole, func(m *impl.Mend) { m.Wrote = slices.Delete(m.Wrote, i, i+1) }))
			for _, nodes := range wrongNodes(c) {
				list = append(list, changedMend(whole, func(m *impl.Mend) { m.Wrote[i] = nodes }))
			}
		}
	}
	return append(list, changedMend(plannedMend(2, 5, "d.wh", nil), func(m *impl.Mend) { m.Seen = m.Seen[:2] }), changedMend(plannedMend(2, 5, "d.wh", nil), func(m *impl.Mend) { m.Seen = nil }), changedMend(plannedMend(2, 5, "d.wh", nil), func(m *impl.Mend) { m.Wrote = nil }))
}

// mendLists has what a node may tell, of the epochs that the mends are of and of others, right and not right.
func mendLists() [][]impl.Entry {
	lists := [][]impl.Entry{nil, {}, fewEntries(), reversed(fewEntries()), badEntries(), entriesFrom(0, 130), reversed(entriesBy(0, 7, 250)), {{At: at(2, 3), Wave: 3, Hole: true}}, {{At: at(2, 3), Wave: 4}}, {{At: at(1, 1), Wave: 2, Data: "a"}, {At: at(1, 1), Wave: 2, Data: "b"}, {At: at(1, 60), Data: "c"}}}
	for _, epochs := range mendEpochs() {
		lists = append(lists, seenOf(epochs[0], epochs[1], "dwh.d"), reversed(seenOf(epochs[0], epochs[1], longRow(lastOff))), []impl.Entry{{At: at(epochs[0], 4), Data: "new"}, {At: at(epochs[1], 1)}, {At: at(epochs[0], 2), Wave: epochs[0] + 1, Hole: true}})
	}
	for _, e := range badEntries()[:12] {
		lists = append(lists, []impl.Entry{e})
	}
	return lists
}

// mendSets has sets of nodes, right and not right.
func mendSets(c impl.Config) [][]int {
	all := nodesUpTo(len(c.Domains))
	sets := append(wrongNodes(c), nil, []int{}, all, all[1:], all[:len(all)-1], all[:1])
	if held := heldLists(c); len(held) > 0 {
		sets = append(sets, held[0], held[len(held)/2])
	}
	return append(sets, unheldLists(c)[0])
}

// mendAsks has some of each kind, of which some are refused by every mend, and some only by some.
func mendAsks(c impl.Config) []mendAsk {
	var list []mendAsk
	size := len(c.Domains)
	nodes := []int{math.MinInt, -1, 0, 1, size - 1, size, size + 1, 256, 1 << 32, math.MaxInt}
	for _, told := range mendLists() {
		for _, node := range []int{-1, 0, size - 1, size} {
			list = append(list, askMendSeal(node, told))
		}
	}
	for _, node := range nodes {
		list = append(list, askMendSeal(node, nil), askMendForget(node))
	}
	for _, set := range mendSets(c) {
		list = append(list, askPlan(set))
	}
	for _, off := range append(wrongOffs(), 1, 2, 3, 4, 5, 30, 59, 60) {
		for _, node := range nodes {
			list = append(list, askMendAck(off, node))
		}
	}
	return list
}

func checkMendOk(t *testing.T, c impl.Config, m impl.Mend, want bool) {
	t.Helper()
	if impl.MendOk(c, m) != want || isMend(c, m) != want {
		t.Fatalf("MendOk(%v, %v) is not %v", c, m, want)
	}
}

func TestMendOkConfig(t *testing.T) {
	some := append(someMends(conf(1, 0, 1)), impl.Mend{Epoch: 1, By: 2}, impl.Mend{Epoch: 1, By: 2, Planned: true})
	for _, c := range badConfigs() {
		for _, m := range some {
			checkMendOk(t, c, m, false)
		}
	}
	for _, c := range someConfigs() {
		all := nodesUpTo(len(c.Domains))
		checkMendOk(t, c, impl.Mend{Epoch: 1, By: 2}, true)
		checkMendOk(t, c, sealedMend(3, 5, "dwh", all...), true)
		checkMendOk(t, c, plannedMend(3, 5, "dwh", all, all, nil, all), true)
		checkMendOk(t, c, sealedMend(3, 5, "dwh", append(all, len(all))...), false)
		checkMendOk(t, c, plannedMend(3, 5, "dwh", all, all, nil, append(all, len(all))), false)
	}
	// What is right at one config need not be so at another.
	m := plannedMend(1, 3, "d", []int{2}, []int{3})
	checkMendOk(t, conf(2, 0, 0, 1, 2), m, true)
	checkMendOk(t, conf(2, 0, 0, 1), m, false)
	checkMendOk(t, conf(2, 0, 0), m, false)
}

func TestMendOkEpochs(t *testing.T) {
	numbers := append(someWaves(), 1<<32+1, 1<<16+1, math.MaxInt-1)
	for _, c := range []impl.Config{conf(2, 0, 0, 1, 2), conf(4, 0)} {
		for _, epoch := range numbers {
			for _, by := range append(numbers, epoch, epoch+1) {
				want := epoch >= 1 && epoch < by && by <= lastEpoch
				checkMendOk(t, c, impl.Mend{Epoch: epoch, By: by}, want)
				checkMendOk(t, c, impl.Mend{Epoch: epoch, By: by, Sealed: []int{0}, Planned: true}, want)
				if want {
					checkMendOk(t, c, sealedMend(epoch, by, "d..d", 0), true)
					checkMendOk(t, c, plannedMend(epoch, by, "d..d", nil, []int{0}), true)
				}
			}
		}
	}
	for _, row := range []struct {
		epoch, by int
		want      bool
	}{
		{-1, 1, false}, {0, 1, false}, {1, 1, false}, {1, 2, true}, {1, 30, true}, {1, 31, false}, {28, 29, true}, {29, 29, false}, {29, 30, true}, {29, 31, false}, {30, 30, false}, {30, 31, false}, {31, 32, false}, {15, 14, false}, {15, 16, true},
	} {
		checkMendOk(t, conf(1, 5), impl.Mend{Epoch: row.epoch, By: row.by}, row.want)
	}
}

// Every list of nodes as Sealed, of mends of each step; they need not hold.
func TestMendOkSealed(t *testing.T) {
	for _, c := range slices.Concat(writerConfigs(), unheldConfigs()) {
		for mask := range 1 << len(c.Domains) {
			checkMendOk(t, c, sealedMend(4, 6, "", nodesOf(mask)...), true)
			checkMendOk(t, c, sealedMend(4, 6, "dw", nodesOf(mask)...), true)
			checkMendOk(t, c, plannedMend(4, 6, "dw", nodesOf(mask)), true)
		}
		for _, nodes := range slices.Concat(wrongLists(c), wrongNodes(c)) {
			want := areNodes(c, nodes)
			checkMendOk(t, c, sealedMend(4, 6, "", nodes...), want)
			checkMendOk(t, c, sealedMend(4, 6, "dw", nodes...), want)
			checkMendOk(t, c, plannedMend(4, 6, "dw", nodes), want)
		}
	}
}

// Each offset is the last one of those seen, and each is the one that is not right.
func TestMendOkSeenOffsets(t *testing.T) {
	c := conf(2, 0, 0, 1, 2)
	for size := 1; size <= lastOff; size++ {
		for _, row := range []string{strings.Repeat("d", size), longRow(size), strings.Repeat(".", size-1) + "w"} {
			for _, m := range []impl.Mend{sealedMend(3, 9, row, 1), plannedMend(3, 9, row, []int{1})} {
				checkMendOk(t, c, m, true)
				last := len(m.Seen) - 1
				checkMendOk(t, c, changedMend(m, func(m *impl.Mend) { m.Seen = append(m.Seen, m.Seen[last]) }), false)
				for i := range m.Seen {
					checkMendOk(t, c, changedMend(m, func(m *impl.Mend) { m.Seen[i].Wave = 9 }), false)
					checkMendOk(t, c, changedMend(m, func(m *impl.Mend) { m.Seen[i].At += epochStep }), false)
					checkMendOk(t, c, changedMend(m, func(m *impl.Mend) { m.Seen[i].At -= epochStep }), false)
					if i > 0 {
						checkMendOk(t, c, changedMend(m, func(m *impl.Mend) { m.Seen[i-1], m.Seen[i] = m.Seen[i], m.Seen[i-1] }), false)
						checkMendOk(t, c, changedMend(m, func(m *impl.Mend) { m.Seen[i-1].At = m.Seen[i].At }), false)
					}
				}
			}
		}
	}
}

func TestMendOkSeenEntries(t *testing.T) {
	c := conf(2, 0, 0, 1, 2)
	for _, e := range slices.Concat(badEntries(), someEntries(), fewEntries()) {
		for _, epochs := range mendEpochs() {
			m := impl.Mend{Epoch: epochs[0], By: epochs[1], Seen: []impl.Entry{e}}
			want := isEntry(e) && e.At/epochStep == epochs[0] && e.Wave < epochs[1]
			checkMendOk(t, c, m, want)
			m.Planned, m.Wrote = true, make([][]int, max(0, e.At%epochStep%100))
			checkMendOk(t, c, m, want)
		}
	}
	for _, e := range badEntries() {
		for i := range 3 {
			m := sealedMend(2, 4, "dwh")
			m.Seen[i] = e
			checkMendOk(t, c, m, false)
		}
	}
}

// Waves go up to one below By, and holes have one.
func TestMendOkWaves(t *testing.T) {
	c := conf(2, 0, 0, 1, 2)
	for epoch := 1; epoch < lastEpoch; epoch++ {
		for by := epoch + 1; by <= lastEpoch; by++ {
			for _, wave := range append([]int{-1, 0, 1, epoch - 1, epoch, epoch + 1, by - 1, by, by + 1, lastEpoch, lastEpoch + 1, math.MinInt, math.MaxInt}, 256+epoch+1, 1<<32) {
				above := wave > epoch && wave < by
				for _, off := range []int{1, 2, lastOff} {
					data, hole := impl.Entry{At: at(epoch, off), Wave: wave, Data: "x"}, impl.Entry{At: at(epoch, off), Wave: wave, Hole: true}
					checkMendOk(t, c, impl.Mend{Epoch: epoch, By: by, Seen: []impl.Entry{data}}, above || wave == 0)
					checkMendOk(t, c, impl.Mend{Epoch: epoch, By: by, Seen: []impl.Entry{hole}}, above)
					checkMendOk(t, c, impl.Mend{Epoch: epoch, By: by, Seen: []impl.Entry{hole}, Planned: true, Wrote: make([][]int, off)}, above)
				}
			}
		}
	}
}

// Wrote of a planned mend goes just up to the last offset that was seen; one that is not planned has none.
func TestMendOkWroteCounts(t *testing.T) {
	c := conf(2, 0, 0, 1, 2)
	for size := 0; size <= lastOff; size++ {
		m := sealedMend(3, 9, "", 1)
		if size > 0 {
			m = sealedMend(3, 9, longRow(size), 1)
		}
		for _, nodes := range [][]int{nil, {0}, {0, 1, 2, 3}} {
			for wrote := 0; wrote <= lastOff+2; wrote++ {
				m.Wrote = slices.Repeat([][]int{nodes}, wrote)
				m.Planned = true
				checkMendOk(t, c, m, wrote == size)
				m.Planned = false
				checkMendOk(t, c, m, wrote == 0)
			}
		}
		for _, wrote := range []int{100, 256, 256 + size, 1000, 1<<16 + size} {
			m.Planned, m.Wrote = true, make([][]int, wrote)
			checkMendOk(t, c, m, false)
		}
	}
}

// Every list of nodes at one of the offsets, and every list that is none.
func TestMendOkWroteNodes(t *testing.T) {
	for _, c := range slices.Concat(writerConfigs(), unheldConfigs()) {
		for _, row := range []string{"d", "d.h", longRow(lastOff)} {
			m := plannedMend(11, 13, row, nil)
			for _, i := range []int{0, len(row) / 2, len(row) - 1} {
				for mask := range 1 << len(c.Domains) {
					checkMendOk(t, c, changedMend(m, func(m *impl.Mend) { m.Wrote[i] = nodesOf(mask) }), true)
				}
				for _, nodes := range slices.Concat(wrongLists(c), wrongNodes(c)) {
					checkMendOk(t, c, changedMend(m, func(m *impl.Mend) { m.Wrote[i] = nodes }), areNodes(c, nodes))
				}
			}
		}
	}
}

func TestMendOkSome(t *testing.T) {
	for _, c := range writerConfigs() {
		for _, m := range someMends(c) {
			checkMendOk(t, c, m, true)
		}
		for _, m := range badMends(c) {
			checkMendOk(t, c, m, false)
		}
	}
}

func TestMendNew(t *testing.T) {
	numbers := append(someWaves(), at(1, 1), math.MaxInt-1)
	c := conf(2, 0, 0, 1, 2)
	for _, epoch := range numbers {
		for _, by := range numbers {
			m := impl.MendNew(epoch, by)
			if m.Epoch != epoch || m.By != by || !sameMend(m, impl.Mend{Epoch: epoch, By: by}) {
				t.Fatalf("MendNew(%d, %d): %v", epoch, by, m)
			}
			checkMendOk(t, c, m, epoch >= 1 && epoch < by && by <= lastEpoch)
		}
	}
}

// Whatever is asked of whatever mend: what is answered is what the document says.
func TestMendAsks(t *testing.T) {
	t.Parallel()
	for i, c := range slices.Concat(writerConfigs(), unheldConfigs()) {
		right, wrong, few := someMends(c), badMends(c), plannedMend(2, 4, "dwh", []int{0}, []int{0})
		bad := badConfigs()
		for j, a := range mendAsks(c) {
			for _, m := range right {
				a.check(t, c, m)
			}
			for k, m := range wrong {
				if (i+j+k)%3 == 0 {
					a.refusesWholly(t, c, m)
				}
			}
			for _, b := range bad {
				a.refusesWholly(t, b, few)
				a.refusesWholly(t, b, impl.Mend{Epoch: 1, By: 2})
			}
		}
	}
}

func TestMendSealKnown(t *testing.T) {
	c := conf(2, 0, 0, 1, 2)
	one, two, three := impl.Entry{At: at(2, 1), Data: "one"}, impl.Entry{At: at(2, 2), Wave: 3, Data: "two"}, impl.Entry{At: at(2, 3), Wave: 4, Hole: true}
	m := impl.Mend{Epoch: 2, By: 6}
	askMendSeal(1, nil).answers(t, c, m, impl.Mend{Epoch: 2, By: 6, Sealed: []int{1}})
	askMendSeal(3, []impl.Entry{one}).answers(t, c, m, impl.Mend{Epoch: 2, By: 6, Sealed: []int{3}, Seen: []impl.Entry{one}})
	askMendSeal(0, []impl.Entry{three, one, two}).answers(t, c, m, impl.Mend{Epoch: 2, By: 6, Sealed: []int{0}, Seen: []impl.Entry{one, two, three}})
	m = impl.Mend{Epoch: 2, By: 6, Sealed: []int{0, 2}, Seen: []impl.Entry{two}}
	for node, sealed := range [][]int{{0, 2}, {0, 1, 2}, {0, 2}, {0, 2, 3}} {
		askMendSeal(node, nil).answers(t, c, m, impl.Mend{Epoch: 2, By: 6, Sealed: sealed, Seen: []impl.Entry{two}})
		askMendSeal(node, []impl.Entry{one, three}).answers(t, c, m, impl.Mend{Epoch: 2, By: 6, Sealed: sealed, Seen: []impl.Entry{one, two, three}})
	}
	for _, row := range []struct{ told, stays impl.Entry }{
		{impl.Entry{At: at(2, 2), Data: "new"}, two}, {impl.Entry{At: at(2, 2), Wave: 3, Data: "as good"}, two}, {impl.Entry{At: at(2, 2), Wave: 3, Hole: true}, two},
		{impl.Entry{At: at(2, 2), Wave: 4, Data: "better"}, impl.Entry{At: at(2, 2), Wave: 4, Data: "better"}}, {impl.Entry{At: at(2, 2), Wave: 5, Hole: true}, impl.Entry{At: at(2, 2), Wave: 5, Hole: true}},
	} {
		askMendSeal(0, []impl.Entry{row.told}).answers(t, c, m, impl.Mend{Epoch: 2, By: 6, Sealed: []int{0, 2}, Seen: []impl.Entry{row.stays}})
	}
	for _, told := range []impl.Entry{{At: at(2, 2), Wave: 6}, {At: at(2, 2), Wave: 7, Hole: true}, {At: at(2, 4), Wave: 2}, {At: at(2, 5), Wave: -1}, {At: at(2, 60), Hole: true}, {At: at(2, 7), Data: strings.Repeat("x", mostData+1)}} {
		askMendSeal(1, []impl.Entry{told}).refuses(t, c, m)
		askMendSeal(1, []impl.Entry{one, told, three}).refuses(t, c, m)
	}
}

func TestMendSealNodes(t *testing.T) {
	for _, c := range slices.Concat(writerConfigs(), unheldConfigs()) {
		told := seenOf(5, 8, "w.d")
		for mask := range 1 << len(c.Domains) {
			m := sealedMend(5, 8, ".wd.h", nodesOf(mask)...)
			for node := range c.Domains {
				want := cloneMend(m)
				want.Sealed = nodesOf(mask | 1<<node)
				askMendSeal(node, nil).answers(t, c, m, want)
				askMendSeal(node, told).check(t, c, m)
			}
			for _, node := range append(wrongNumbers(), len(c.Domains), len(c.Domains)+1) {
				askMendSeal(node, nil).refuses(t, c, m)
				askMendSeal(node, told).refuses(t, c, m)
			}
		}
	}
}

// Of each pair of a wave that was seen and one that is told, the greater one stands; of two alike, what was seen.
func TestMendSealBetter(t *testing.T) {
	c := conf(2, 0, 0, 1, 2)
	for _, epochs := range mendEpochs() {
		epoch, by := epochs[0], epochs[1]
		for _, off := range []int{1, 2, 59, 60} {
			for old := epoch; old < by; old++ {
				for now := epoch; now <= lastEpoch+1; now++ {
					was, told := impl.Entry{At: at(epoch, off), Wave: old, Data: "was"}, impl.Entry{At: at(epoch, off), Wave: now, Data: "told"}
					if old == epoch {
						was.Wave = 0
					}
					if now == epoch {
						told.Wave = 0
					}
					m := impl.Mend{Epoch: epoch, By: by, Seen: []impl.Entry{was}}
					want := impl.Mend{Epoch: epoch, By: by, Sealed: []int{2}, Seen: []impl.Entry{was}}
					if now > old {
						want.Seen[0] = told
					}
					if now >= by {
						askMendSeal(2, []impl.Entry{told}).refuses(t, c, m)
						askMendSeal(2, []impl.Entry{was, told}).refuses(t, c, impl.Mend{Epoch: epoch, By: by})
						askMendSeal(2, []impl.Entry{told, was}).refuses(t, c, impl.Mend{Epoch: epoch, By: by})
					} else {
						askMendSeal(2, []impl.Entry{told}).answers(t, c, m, want)
						askMendSeal(2, []impl.Entry{was, told}).answers(t, c, impl.Mend{Epoch: epoch, By: by}, want)
					}
				}
			}
		}
	}
}

// Entries of other epochs are not looked at, whatever they are: only those of its own can be wrong.
func TestMendSealOtherEpochs(t *testing.T) {
	c := conf(2, 0, 0, 1, 2)
	for epoch := 1; epoch < lastEpoch; epoch++ {
		m := sealedMend(epoch, epoch+1, "d..d", 0)
		want := cloneMend(m)
		want.Sealed = []int{0, 3}
		var others []impl.Entry
		for _, e := range slices.Concat(someEntries(), badEntries()) {
			if e.At < at(epoch, 1) || e.At > at(epoch, lastOff) {
				others = append(others, e)
			}
		}
		for _, far := range []int{epoch - 1, epoch + 1, epoch + 256, lastEpoch + 1} {
			others = append(others, impl.Entry{At: at(far, 2), Wave: lastEpoch + 5, Hole: true, Data: "x"})
		}
		askMendSeal(3, others).answers(t, c, m, want)
		mine := impl.Entry{At: at(epoch, 2), Data: "mine"}
		want.Seen = slices.Insert(want.Seen, 1, mine)
		askMendSeal(3, append(slices.Clone(others), mine)).answers(t, c, m, want)
		askMendSeal(3, append([]impl.Entry{mine}, others...)).answers(t, c, m, want)
		mine.Wave = epoch + 1
		askMendSeal(3, append(slices.Clone(others), mine)).refuses(t, c, m)
		askMendSeal(3, append([]impl.Entry{mine}, others...)).refuses(t, c, m)
	}
}

// One that is not right is refused where it would be seen, and does nothing where something better was.
func TestMendSealNotEntries(t *testing.T) {
	c := conf(2, 0, 0, 1, 2)
	for _, e := range badEntries() {
		mine := e.At >= at(2, 1) && e.At <= at(2, lastOff)
		for _, m := range []impl.Mend{sealedMend(2, 5, "", 0), sealedMend(2, 5, "d.", 0), sealedMend(2, 5, "d..w", 0)} {
			for _, list := range [][]impl.Entry{{e}, append(seenOf(2, 5, "dd"), e), append([]impl.Entry{e}, seenOf(2, 5, "wh")...)} {
				askMendSeal(1, list).check(t, c, m)
				if mine {
					askMendSeal(1, list).refuses(t, c, m)
				}
			}
		}
		askMendSeal(1, []impl.Entry{e}).check(t, c, sealedMend(2, 5, "ddd", 0))
		askMendSeal(1, []impl.Entry{e}).check(t, c, sealedMend(2, 5, "ddw", 0))
	}
	// What comes is right here: none of these takes the place of what is Seen.
	m := impl.Mend{Epoch: 2, By: 5, Seen: []impl.Entry{{At: at(2, 3), Wave: 4, Data: "seen"}}}
	want := impl.Mend{Epoch: 2, By: 5, Sealed: []int{1}, Seen: m.Seen}
	for _, e := range []impl.Entry{{At: at(2, 3), Wave: -1}, {At: at(2, 3), Wave: 2}, {At: at(2, 3), Hole: true}, {At: at(2, 3), Wave: 4, Data: strings.Repeat("x", mostData+1)}, {At: at(2, 3), Wave: math.MinInt}} {
		askMendSeal(1, []impl.Entry{e}).answers(t, c, m, want)
		askMendSeal(1, []impl.Entry{e, {At: at(2, 3), Wave: 4, Data: "seen"}}).check(t, c, impl.Mend{Epoch: 2, By: 5})
	}
}

// Two, three and many of one place in one list, in every order of three.
func TestMendSealTwice(t *testing.T) {
	c := conf(2, 0, 0, 1, 2)
	a, b, d := impl.Entry{At: at(3, 7), Data: "a"}, impl.Entry{At: at(3, 7), Wave: 5, Data: "b"}, impl.Entry{At: at(3, 7), Wave: 8, Hole: true}
	for _, list := range [][]impl.Entry{{a, b, d}, {a, d, b}, {b, a, d}, {b, d, a}, {d, a, b}, {d, b, a}, {d, d, d}, {a, d, a, d}} {
		askMendSeal(0, list).answers(t, c, impl.Mend{Epoch: 3, By: 9}, impl.Mend{Epoch: 3, By: 9, Sealed: []int{0}, Seen: []impl.Entry{d}})
		askMendSeal(0, list).answers(t, c, impl.Mend{Epoch: 3, By: 9, Seen: []impl.Entry{b}}, impl.Mend{Epoch: 3, By: 9, Sealed: []int{0}, Seen: []impl.Entry{d}})
		askMendSeal(0, list).refuses(t, c, impl.Mend{Epoch: 3, By: 8})
	}
	first, second := impl.Entry{At: at(3, 7), Wave: 5, Data: "first"}, impl.Entry{At: at(3, 7), Wave: 5, Data: "second"}
	askMendSeal(0, []impl.Entry{first, second}).answers(t, c, impl.Mend{Epoch: 3, By: 9}, impl.Mend{Epoch: 3, By: 9, Sealed: []int{0}, Seen: []impl.Entry{first}})
	askMendSeal(0, []impl.Entry{second, first}).answers(t, c, impl.Mend{Epoch: 3, By: 9}, impl.Mend{Epoch: 3, By: 9, Sealed: []int{0}, Seen: []impl.Entry{second}})
	var many []impl.Entry
	for i := range 5000 {
		many = append(many, impl.Entry{At: at(3, 1+i*7%lastOff), Wave: []int{0, 4, 6, 8}[i/lastOff%4], Data: fmt.Sprint(i)})
	}
	askMendSeal(0, many).check(t, c, impl.Mend{Epoch: 3, By: 9})
	askMendSeal(0, many).check(t, c, sealedMend(3, 9, longRow(lastOff), 0, 2))
}

// All offsets, in whatever order they are told: what is seen ascends.
func TestMendSealOrders(t *testing.T) {
	c := conf(2, 0, 0, 1, 2)
	for seed := range 60 {
		drawn := rand.New(rand.NewSource(int64(seed)))
		list := seenOf(6, 12, longRow(1+drawn.Intn(lastOff)))
		want := impl.Mend{Epoch: 6, By: 12, Sealed: []int{1}, Seen: slices.Clone(list)}
		drawn.Shuffle(len(list), func(i, j int) { list[i], list[j] = list[j], list[i] })
		askMendSeal(1, list).answers(t, c, impl.Mend{Epoch: 6, By: 12}, want)
		cut := drawn.Intn(len(list) + 1)
		m, ok := impl.MendSeal(c, impl.Mend{Epoch: 6, By: 12}, 1, list[:cut])
		if !ok {
			t.Fatalf("MendSeal of %v is refused", list[:cut])
		}
		askMendSeal(1, list[cut:]).answers(t, c, m, want)
		askMendSeal(1, list).answers(t, c, m, want)
	}
}

func TestMendSealPlanned(t *testing.T) {
	for _, c := range writerConfigs() {
		for _, m := range someMends(c) {
			for _, node := range []int{-1, 0, len(c.Domains) - 1, len(c.Domains)} {
				for _, list := range [][]impl.Entry{nil, seenOf(m.Epoch, m.By, "d"), seenOf(m.Epoch, m.By, longRow(lastOff))} {
					if m.Planned {
						askMendSeal(node, list).refuses(t, c, m)
					}
				}
			}
		}
	}
}

func TestMendSealNotMend(t *testing.T) {
	for _, c := range writerConfigs() {
		for _, m := range badMends(c) {
			for _, node := range []int{-1, 0, len(c.Domains) - 1, len(c.Domains)} {
				askMendSeal(node, nil).refusesWholly(t, c, m)
				askMendSeal(node, []impl.Entry{{At: at(2, 3), Data: "x"}, {At: at(1, 1)}}).refusesWholly(t, c, m)
				askMendSeal(node, []impl.Entry{{At: at(2, 3), Wave: 1}}).refusesWholly(t, c, m)
			}
		}
	}
}

func TestMendPlanKnown(t *testing.T) {
	c := conf(2, 0, 0, 1, 2)
	for _, row := range []struct {
		set, sealed []int
		want        bool
	}{
		{[]int{0, 1, 2, 3}, []int{2, 3}, true}, {[]int{0, 1, 2, 3}, []int{0, 1, 3}, true}, {[]int{0, 1, 2, 3}, []int{0, 1}, false}, {[]int{0, 1, 2, 3}, []int{3}, false}, {[]int{0, 1, 2, 3}, nil, false}, {[]int{0, 1, 2, 3}, []int{0, 1, 2, 3}, true},
		{[]int{0, 1, 2, 3}, []int{0, 2}, false}, {[]int{0, 2}, []int{0}, true}, {[]int{0, 2}, []int{2}, true}, {[]int{0, 2}, nil, false}, {[]int{0, 1, 2}, []int{0}, false}, {[]int{0, 1, 2}, []int{2}, true}, {[]int{0, 1, 2}, []int{0, 1}, true},
		// Nodes beyond the set do not count, and do no harm.
		{[]int{0, 2}, []int{1, 3}, false}, {[]int{0, 2}, []int{0, 1, 3}, true}, {[]int{0, 1, 2}, []int{0, 3}, false}, {[]int{0, 1, 2}, []int{2, 3}, true}, {[]int{0, 1, 2}, []int{3}, false},
		// The set itself must hold, and be nodes.
		{nil, []int{0, 1, 2, 3}, false}, {[]int{0, 1}, []int{0, 1, 2, 3}, false}, {[]int{3}, []int{3}, false}, {[]int{2, 0}, []int{0, 2}, false}, {[]int{0, 0, 2}, []int{0, 2}, false}, {[]int{0, 2, 4}, []int{0, 2}, false}, {[]int{-1, 0, 2}, []int{0, 2}, false},
	} {
		for _, seen := range []string{"", "d", "..w", "d..h"} {
			m := sealedMend(2, 5, seen, row.sealed...)
			if row.want {
				askPlan(row.set).answers(t, c, m, plannedMend(2, 5, seen, row.sealed))
			} else {
				askPlan(row.set).refuses(t, c, m)
			}
		}
	}
}

// Every set and every list of sealed nodes of small configs.
func TestMendPlanEvery(t *testing.T) {
	for _, c := range []impl.Config{conf(1, 5), conf(2, 0, 0, 1, 2), conf(3, 0, 0, 1, 1, 2), conf(2, 3, 3, 3, 4), conf(4, 0, 1, 2), conf(1, 0, 1, 1), conf(3, 4, 3, 2, 1, 0)} {
		for set := range 1 << len(c.Domains) {
			for sealed := range 1 << len(c.Domains) {
				m := sealedMend(7, 9, "dw.h", nodesOf(sealed)...)
				askPlan(nodesOf(set)).check(t, c, m)
				if _, ok := impl.MendPlan(c, m, nodesOf(set)); ok != isEnough(c, nodesOf(set), nodesOf(set&sealed)) {
					t.Fatalf("MendPlan of %v where %v are sealed: %v", nodesOf(set), nodesOf(sealed), ok)
				}
			}
		}
	}
}

// Each list that is just enough: with one fewer it is refused.
func TestMendPlanJustEnough(t *testing.T) {
	c := conf(3, 0, 0, 1, 1, 2, 3)
	all := nodesUpTo(6)
	just := 0
	for sealed := range 1 << 6 {
		list := nodesOf(sealed)
		fewer := slices.ContainsFunc(list, func(n int) bool { return isEnough(c, all, nodesOf(sealed&^(1<<n))) })
		if !isEnough(c, all, list) || fewer {
			continue
		}
		just++
		askPlan(all).answers(t, c, sealedMend(3, 5, "d.w", list...), plannedMend(3, 5, "d.w", list))
		for i := range list {
			askPlan(all).refuses(t, c, sealedMend(3, 5, "d.w", slices.Delete(slices.Clone(list), i, i+1)...))
		}
	}
	if just < 3 {
		t.Errorf("only %d are just enough", just)
	}
}

// Whatever was seen last, Wrote goes up to it, with no node at any offset.
func TestMendPlanOffsets(t *testing.T) {
	for _, c := range writerConfigs() {
		all := nodesUpTo(len(c.Domains))
		for size := 0; size <= lastOff; size++ {
			rows := []string{strings.Repeat(".", size)}
			if size > 0 {
				rows = []string{strings.Repeat("d", size), longRow(size), strings.Repeat(".", size-1) + "d", strings.Repeat(".", size-1) + "h", "w" + strings.Repeat(".", size-1) + "h"}
			}
			for _, row := range rows {
				row = row[:min(len(row), lastOff)]
				m := sealedMend(1, 3, row, all...)
				got, ok := impl.MendPlan(c, m, all)
				if last := len(strings.TrimRight(row, ".")); !ok || !got.Planned || len(got.Wrote) != last || !impl.MendOk(c, got) {
					t.Fatalf("MendPlan of %q: %v, %v", row, got, ok)
				}
				for i, nodes := range got.Wrote {
					if len(nodes) != 0 {
						t.Fatalf("MendPlan of %q: the offset %d has %v", row, i+1, nodes)
					}
				}
				if !slices.Equal(got.Seen, m.Seen) || !slices.Equal(got.Sealed, all) || got.By != 3 || got.Epoch != 1 {
					t.Fatalf("MendPlan of %v: %v", m, got)
				}
			}
		}
	}
}

func TestMendPlanSets(t *testing.T) {
	for _, c := range slices.Concat(writerConfigs(), unheldConfigs()) {
		all := nodesUpTo(len(c.Domains))
		for _, row := range []string{"", "d", "d.w"} {
			m := sealedMend(4, 8, row, all...)
			for _, set := range slices.Concat(wrongLists(c), wrongNodes(c), badLists()) {
				if !isHeld(c, set) {
					askPlan(set).refuses(t, c, m)
				}
			}
			for _, set := range heldLists(c) {
				askPlan(set).answers(t, c, m, plannedMend(4, 8, row, all))
				// None of the set is sealed, though all others are.
				askPlan(set).refuses(t, c, sealedMend(4, 8, row, restIs(c, all, set)...))
			}
		}
	}
}

func TestMendPlanPlanned(t *testing.T) {
	for _, c := range writerConfigs() {
		for _, m := range someMends(c) {
			for _, set := range mendSets(c) {
				if m.Planned {
					askPlan(set).refuses(t, c, m)
				}
			}
		}
	}
}

func TestMendPlanNotMend(t *testing.T) {
	for _, c := range writerConfigs() {
		for _, m := range badMends(c) {
			for _, set := range [][]int{nil, {0}, nodesUpTo(len(c.Domains)), {-1}, {1, 0}} {
				askPlan(set).refusesWholly(t, c, m)
			}
		}
	}
	for _, c := range badConfigs() {
		for _, set := range [][]int{nil, {0}, {0, 1}} {
			askPlan(set).refusesWholly(t, c, impl.Mend{Epoch: 1, By: 2})
			askPlan(set).refusesWholly(t, c, sealedMend(1, 2, "d", 0))
		}
	}
}

func checkMendEntry(t *testing.T, m impl.Mend, off int) {
	t.Helper()
	want, wantOk := mendEntryIs(m, off)
	if got, ok := impl.MendEntry(m, off); got != want || ok != wantOk {
		t.Fatalf("MendEntry(%v, %d): %v, %v; want %v, %v", m, off, got, ok, want, wantOk)
	}
}

func checkNoMendEntry(t *testing.T, m impl.Mend, off int) {
	t.Helper()
	if got, ok := impl.MendEntry(m, off); got != (impl.Entry{}) || ok {
		t.Fatalf("MendEntry(%v, %d): %v, %v", m, off, got, ok)
	}
}

func TestMendEntryKnown(t *testing.T) {
	m := impl.Mend{Epoch: 2, By: 7, Planned: true, Wrote: [][]int{nil, {0}, nil, {1, 2}}, Seen: []impl.Entry{{At: at(2, 1), Data: "new"}, {At: at(2, 2), Wave: 5, Hole: true}, {At: at(2, 4), Wave: 6, Data: "old"}}}
	for off, want := range []impl.Entry{{At: at(2, 1), Wave: 7, Data: "new"}, {At: at(2, 2), Wave: 7, Hole: true}, {At: at(2, 3), Wave: 7, Hole: true}, {At: at(2, 4), Wave: 7, Data: "old"}} {
		if got, ok := impl.MendEntry(m, off+1); got != want || !ok || !impl.EntryOk(got) {
			t.Errorf("MendEntry at %d: %v, %v", off+1, got, ok)
		}
	}
	for _, off := range append(wrongOffs(), 5, 6, 59, 60, at(2, 1), at(2, 2)) {
		checkNoMendEntry(t, m, off)
	}
	m.Planned = false
	for _, off := range append(wrongOffs(), 1, 2, 3, 4, 5) {
		checkNoMendEntry(t, m, off)
	}
	m.Wrote = nil
	for _, off := range append(wrongOffs(), 1, 2, 3, 4, 5) {
		checkNoMendEntry(t, m, off)
	}
}

func TestMendEntrySome(t *testing.T) {
	for _, c := range writerConfigs() {
		for _, m := range someMends(c) {
			for off := 1; off <= lastOff+1; off++ {
				checkMendEntry(t, m, off)
				if _, ok := impl.MendEntry(m, off); ok != (off <= len(m.Wrote)) {
					t.Fatalf("MendEntry(%v, %d): %v", m, off, ok)
				}
			}
			for _, off := range wrongOffs() {
				checkNoMendEntry(t, m, off)
			}
		}
	}
}

// What is to be written has the Data that was seen, whatever Data that is; and it is right, as it has a Wave above its epoch.
func TestMendEntryData(t *testing.T) {
	for _, epochs := range mendEpochs() {
		for _, data := range someData() {
			for _, wave := range []int{0, epochs[0] + 1, epochs[1] - 1} {
				for _, off := range []int{1, 30, lastOff} {
					m := impl.Mend{Epoch: epochs[0], By: epochs[1], Planned: true, Seen: []impl.Entry{{At: at(epochs[0], off), Wave: wave, Data: data}}, Wrote: make([][]int, off)}
					if got, ok := impl.MendEntry(m, off); !ok || got != (impl.Entry{At: at(epochs[0], off), Wave: epochs[1], Data: data}) || !impl.EntryOk(got) {
						t.Fatalf("MendEntry(%v, %d): %v, %v", m, off, got, ok)
					}
					for other := 1; other < off; other++ {
						if got, ok := impl.MendEntry(m, other); !ok || got != (impl.Entry{At: at(epochs[0], other), Wave: epochs[1], Hole: true}) {
							t.Fatalf("MendEntry(%v, %d): %v, %v", m, other, got, ok)
						}
					}
				}
			}
		}
	}
}

// It has no config, so that it goes by the plain words in any mend: by Planned, by how many Wrote has, by the place, and by what is Seen there.
func TestMendEntryNotMend(t *testing.T) {
	for _, c := range writerConfigs() {
		for _, m := range badMends(c) {
			for _, off := range append(wrongOffs(), 1, 2, 3, 4, 5, 6, 60) {
				checkMendEntry(t, m, off)
			}
		}
	}
	many := impl.Mend{Epoch: 3, By: -4, Planned: true, Wrote: make([][]int, 1000), Seen: []impl.Entry{{At: at(4, 1), Data: "other"}, {At: at(3, 60), Wave: 99, Data: strings.Repeat("x", 99)}, {At: at(3, 2), Hole: true, Data: "both"}}}
	for _, row := range []struct {
		off  int
		want impl.Entry
	}{
		{60, impl.Entry{At: at(3, 60), Wave: -4, Data: strings.Repeat("x", 99)}}, {2, impl.Entry{At: at(3, 2), Wave: -4, Hole: true, Data: "both"}}, {1, impl.Entry{At: at(3, 1), Wave: -4, Hole: true}}, {59, impl.Entry{At: at(3, 59), Wave: -4, Hole: true}},
	} {
		if got, ok := impl.MendEntry(many, row.off); got != row.want || !ok {
			t.Errorf("MendEntry at %d: %v, %v", row.off, got, ok)
		}
	}
	for _, off := range append(wrongOffs(), 61, 62, 999, 1000) {
		checkNoMendEntry(t, many, off)
	}
	for _, epoch := range append(someWaves(), 1<<32+1) {
		m := impl.Mend{Epoch: epoch, By: 9, Planned: true, Wrote: [][]int{{-1}, {5, 5}}}
		for off := -1; off <= 4; off++ {
			checkMendEntry(t, m, off)
			if _, ok := impl.MendEntry(m, off); ok != (epoch >= 1 && epoch <= lastEpoch && off >= 1 && off <= 2) {
				t.Fatalf("MendEntry(%v, %d): %v", m, off, ok)
			}
		}
	}
}

func TestMendAckKnown(t *testing.T) {
	c := conf(2, 0, 0, 1, 2)
	m := plannedMend(3, 6, "d.w", []int{2, 3}, nil, []int{1}, []int{0, 2})
	for _, row := range []struct {
		off, node int
		nodes     []int
	}{
		{1, 0, []int{0}}, {1, 3, []int{3}}, {2, 0, []int{0, 1}}, {2, 1, []int{1}}, {2, 2, []int{1, 2}}, {3, 0, []int{0, 2}}, {3, 1, []int{0, 1, 2}}, {3, 2, []int{0, 2}}, {3, 3, []int{0, 2, 3}},
	} {
		askMendAck(row.off, row.node).answers(t, c, m, changedMend(m, func(m *impl.Mend) { m.Wrote[row.off-1] = row.nodes }))
	}
	for _, off := range append(wrongOffs(), 4, 5, 60) {
		for node := -1; node <= 5; node++ {
			askMendAck(off, node).refuses(t, c, m)
		}
	}
	for _, node := range append(wrongNumbers(), 4, 5) {
		for off := 1; off <= 3; off++ {
			askMendAck(off, node).refuses(t, c, m)
		}
	}
}

// Every list of nodes and every node, also where they hold already: nothing is done for good here.
func TestMendAckEvery(t *testing.T) {
	for _, c := range slices.Concat(writerConfigs(), unheldConfigs()) {
		for mask := range 1 << len(c.Domains) {
			m := plannedMend(9, 12, "dwh", nil, []int{0}, nodesOf(mask), nodesOf(mask))
			for node := range c.Domains {
				askMendAck(2, node).answers(t, c, m, changedMend(m, func(m *impl.Mend) { m.Wrote[1] = nodesOf(mask | 1<<node) }))
			}
			askMendAck(2, -1).refuses(t, c, m)
			askMendAck(2, len(c.Domains)).refuses(t, c, m)
		}
	}
}

func TestMendAckOffsets(t *testing.T) {
	for _, c := range writerConfigs() {
		for _, row := range mendRows() {
			m := writtenMend(6, 9, row, nil, unheldLists(c))
			last := len(m.Wrote)
			for off := 1; off <= last; off++ {
				for _, node := range []int{0, len(c.Domains) - 1} {
					askMendAck(off, node).check(t, c, m)
					if got, ok := impl.MendAck(c, m, off, node); !ok || !slices.Contains(got.Wrote[off-1], node) {
						t.Fatalf("MendAck(%v, %v, %d, %d): %v, %v", c, m, off, node, got, ok)
					}
				}
				askMendAck(off, -1).refuses(t, c, m)
				askMendAck(off, len(c.Domains)).refuses(t, c, m)
			}
			for _, off := range append(wrongOffs(), last+1, last+2) {
				for _, node := range []int{-1, 0, len(c.Domains) - 1, len(c.Domains)} {
					askMendAck(off, node).refuses(t, c, m)
				}
			}
			sealed := sealedMend(6, 9, row, 0)
			for _, off := range append(wrongOffs(), 1, 2, last, last+1) {
				askMendAck(off, 0).refuses(t, c, sealed)
				askMendAck(off, -1).refuses(t, c, sealed)
			}
		}
	}
}

func TestMendAckNotMend(t *testing.T) {
	for _, c := range writerConfigs() {
		for _, m := range badMends(c) {
			for _, off := range []int{-1, 0, 1, 2, len(m.Wrote), len(m.Wrote) + 1} {
				for _, node := range []int{-1, 0, len(c.Domains) - 1, len(c.Domains)} {
					askMendAck(off, node).refusesWholly(t, c, m)
				}
			}
		}
	}
	for _, c := range badConfigs() {
		for off := range 3 {
			askMendAck(off, 0).refusesWholly(t, c, plannedMend(1, 2, "d", nil))
			askMendAck(off, -1).refusesWholly(t, c, impl.Mend{Epoch: 1, By: 2})
		}
	}
}

func TestMendForgetKnown(t *testing.T) {
	c := conf(2, 0, 0, 1, 2)
	m := plannedMend(3, 6, "d.wd", []int{0, 2, 3}, []int{0, 1, 2, 3}, nil, []int{1}, []int{0, 3})
	for _, row := range []struct {
		node                int
		first, third, forth []int
	}{
		{0, []int{1, 2, 3}, []int{1}, []int{3}}, {1, []int{0, 2, 3}, nil, []int{0, 3}}, {2, []int{0, 1, 3}, []int{1}, []int{0, 3}}, {3, []int{0, 1, 2}, []int{1}, []int{0}},
	} {
		want := changedMend(m, func(m *impl.Mend) { m.Wrote = [][]int{row.first, nil, row.third, row.forth} })
		askMendForget(row.node).answers(t, c, m, want)
		askMendForget(row.node).answers(t, c, want, want)
	}
	for _, node := range append(wrongNumbers(), 4, 5, 6, 7) {
		askMendForget(node).answers(t, c, m, m)
	}
}

// Every list of nodes and every node: it goes from each offset, and Sealed keeps it.
func TestMendForgetEvery(t *testing.T) {
	for _, c := range slices.Concat(writerConfigs(), unheldConfigs()) {
		for mask := range 1 << len(c.Domains) {
			nodes := nodesOf(mask)
			m := plannedMend(9, 12, "dwhd.d", nodes, nodes, []int{0}, nodes, nil, nodes, nodes)
			for node := range mostNodes {
				rest := nodesOf(mask &^ (1 << node))
				want := changedMend(m, func(m *impl.Mend) {
					m.Wrote = [][]int{rest, {0}, rest, nil, rest, rest}
					if node == 0 {
						m.Wrote[1] = nil
					}
				})
				askMendForget(node).answers(t, c, m, want)
			}
			for _, node := range wrongNumbers() {
				askMendForget(node).answers(t, c, m, m)
			}
			sealed := sealedMend(9, 12, "dw", nodes...)
			for _, node := range append(wrongNumbers(), nodesUpTo(mostNodes)...) {
				askMendForget(node).answers(t, c, sealed, sealed)
			}
		}
	}
}

func TestMendForgetAll(t *testing.T) {
	for _, c := range writerConfigs() {
		for _, m := range someMends(c) {
			want := changedMend(m, func(m *impl.Mend) { m.Wrote = make([][]int, len(m.Wrote)) })
			for node := range c.Domains {
				next, ok := impl.MendForget(c, m, node)
				if !ok || !impl.MendOk(c, next) {
					t.Fatalf("MendForget(%v, %v, %d): %v, %v", c, m, node, next, ok)
				}
				m = next
			}
			if !sameMend(m, want) {
				t.Fatalf("all are forgotten, and there is %v", m)
			}
		}
	}
}

func TestMendForgetNotMend(t *testing.T) {
	for _, c := range writerConfigs() {
		for _, m := range badMends(c) {
			for _, node := range []int{math.MinInt, -1, 0, 1, len(c.Domains) - 1, len(c.Domains), math.MaxInt} {
				askMendForget(node).refusesWholly(t, c, m)
			}
		}
	}
	for _, c := range badConfigs() {
		for node := -1; node <= 2; node++ {
			askMendForget(node).refusesWholly(t, c, impl.Mend{Epoch: 1, By: 2})
			askMendForget(node).refusesWholly(t, c, plannedMend(1, 2, "d", nil, []int{0}))
		}
	}
}

func checkReady(t *testing.T, c impl.Config, m impl.Mend, want bool) {
	t.Helper()
	if got := impl.MendReady(c, m); got != want || readyIs(c, m) != want {
		t.Fatalf("MendReady(%v, %v): %v, not %v", c, m, got, want)
	}
}

func TestReadyKnown(t *testing.T) {
	c := conf(2, 0, 0, 1, 2)
	checkReady(t, c, impl.Mend{Epoch: 1, By: 2}, false)
	checkReady(t, c, impl.Mend{Epoch: 1, By: 2, Sealed: []int{0, 1, 2, 3}}, false)
	checkReady(t, c, impl.Mend{Epoch: 1, By: 2, Planned: true}, true)
	checkReady(t, c, impl.Mend{Epoch: 1, By: 2, Planned: true, Sealed: []int{2}, Wrote: [][]int{}}, true)
	held := []int{0, 2}
	for _, row := range []struct {
		wrote [][]int
		want  bool
	}{
		{[][]int{held, held, held}, true}, {[][]int{{0, 1, 2, 3}, {2, 3}, {1, 3}}, true}, {[][]int{nil, held, held}, false}, {[][]int{held, nil, held}, false}, {[][]int{held, held, nil}, false},
		{[][]int{{0, 1}, held, held}, false}, {[][]int{held, {0, 1}, held}, false}, {[][]int{held, held, {0, 1}}, false}, {[][]int{held, {3}, held}, false}, {[][]int{nil, nil, nil}, false}, {[][]int{{0}, {1}, {2}}, false},
		{[][]int{held, held, {2, 0}}, false}, {[][]int{held, held, {0, 2, 2}}, false}, {[][]int{held, held, {0, 2, 4}}, false}, {[][]int{held, held}, false}, {[][]int{held, held, held, held}, false}, {nil, false},
	} {
		m := plannedMend(2, 5, "d.w", nil)
		m.Wrote = row.wrote
		checkReady(t, c, m, row.want)
		m.Planned = false
		checkReady(t, c, m, false)
	}
	checkReady(t, conf(3, 0, 0, 1, 2), plannedMend(2, 5, "d", nil, []int{0, 2}), false)
	checkReady(t, conf(3, 0, 0, 1, 2), plannedMend(2, 5, "d", nil, []int{0, 1, 2}), false)
	checkReady(t, conf(3, 0, 0, 1, 2), plannedMend(2, 5, "d", nil, []int{0, 2, 3}), true)
}

// All offsets are held but one, each of them in turn; and every list at that one.
func TestReadyOffsets(t *testing.T) {
	for _, c := range writerConfigs() {
		held, unheld := heldLists(c), unheldLists(c)
		for _, row := range []string{"d", ".w", "dwh", longRow(lastOff)} {
			m := writtenMend(5, 8, row, nil, held)
			checkReady(t, c, m, true)
			for i := range m.Wrote {
				checkReady(t, c, changedMend(m, func(m *impl.Mend) { m.Wrote[i] = unheld[i%len(unheld)] }), false)
				checkReady(t, c, changedMend(m, func(m *impl.Mend) { m.Wrote[i] = nil }), false)
				checkReady(t, c, changedMend(m, func(m *impl.Mend) { m.Wrote[i] = held[i%len(held)] }), true)
			}
			for mask := range 1 << len(c.Domains) {
				checkReady(t, c, changedMend(m, func(m *impl.Mend) { m.Wrote[len(m.Wrote)-1] = nodesOf(mask) }), isHeld(c, nodesOf(mask)))
			}
		}
	}
	for _, c := range unheldConfigs() {
		for mask := range 1 << len(c.Domains) {
			checkReady(t, c, plannedMend(5, 8, "d", nil, nodesOf(mask)), false)
		}
		checkReady(t, c, plannedMend(5, 8, "", nil), true)
	}
}

func TestReadySome(t *testing.T) {
	for _, c := range writerConfigs() {
		for _, m := range someMends(c) {
			checkReady(t, c, m, readyIs(c, m))
		}
		for _, m := range badMends(c) {
			checkReady(t, c, m, false)
		}
		// Nothing but what makes it no mend is wrong with these: all that they wrote is held.
		ready := writtenMend(2, 5, "d.w", nodesUpTo(len(c.Domains)), heldLists(c))
		checkReady(t, c, ready, true)
		for _, change := range []func(*impl.Mend){
			func(m *impl.Mend) { m.By = 2 }, func(m *impl.Mend) { m.By = lastEpoch + 1 }, func(m *impl.Mend) { m.Epoch = 3 }, func(m *impl.Mend) { m.Epoch = 0 }, func(m *impl.Mend) { m.Sealed = []int{-1} }, func(m *impl.Mend) { m.Seen = m.Seen[:1] }, func(m *impl.Mend) { m.Seen = nil },
			func(m *impl.Mend) { m.Seen[0].Wave = 5 }, func(m *impl.Mend) { m.Seen[0].At = m.Seen[1].At }, func(m *impl.Mend) { m.Wrote = m.Wrote[1:] }, func(m *impl.Mend) { m.Wrote = append(m.Wrote, m.Wrote[0]) }, func(m *impl.Mend) { m.Planned = false },
		} {
			checkReady(t, c, changedMend(ready, change), false)
		}
	}
	for _, c := range badConfigs() {
		checkReady(t, c, impl.Mend{Epoch: 1, By: 2, Planned: true}, false)
		checkReady(t, c, plannedMend(1, 2, "d", nil, []int{0, 1}), false)
		checkReady(t, c, plannedMend(1, 2, "d", nil, nil), false)
	}
}

// drawnTold is what a node may tell of an epoch that is mended: seldom what is not right.
func drawnTold(drawn *rand.Rand, m impl.Mend) []impl.Entry {
	var list []impl.Entry
	for range drawn.Intn(6) {
		e := impl.Entry{At: at(m.Epoch, 1+drawn.Intn(9)), Data: string(rune('a' + drawn.Intn(26)))}
		if drawn.Intn(2) == 0 {
			e.Wave = m.Epoch + 1 + drawn.Intn(max(1, m.By-m.Epoch-1))
			e.Hole = drawn.Intn(2) == 0
		}
		if e.Hole {
			e.Data = ""
		}
		switch drawn.Intn(24) {
		case 0:
			e.At += epochStep
		case 1:
			e.Wave = m.By + drawn.Intn(2)
		case 2:
			e.At += 51
		}
		list = append(list, e)
	}
	return list
}

func drawnMendAsk(drawn *rand.Rand, c impl.Config, m impl.Mend) mendAsk {
	size, nodes := len(m.Wrote), len(c.Domains)
	switch k := drawn.Intn(20); {
	case !m.Planned && k < 12 || k < 1:
		return askMendSeal(drawn.Intn(nodes+2)-1, drawnTold(drawn, m))
	case !m.Planned && k < 15 || k < 2:
		return askPlan(nodesOf(drawn.Intn(1 << nodes)))
	case k < 14:
		return askMendAck(drawn.Intn(size+1), drawn.Intn(nodes))
	case k < 17:
		return askMendAck(drawn.Intn(size+3)-1, drawn.Intn(nodes+2)-1)
	case k < 18:
		return askMendForget(drawn.Intn(nodes+2) - 1)
	}
	return askMendAck(size, drawn.Intn(nodes))
}

// checkSeenStays asks that what was seen is there, or something of its place with a greater wave.
func checkSeenStays(t *testing.T, name string, before impl.Mend, after impl.Mend) {
	t.Helper()
	if after.By != before.By || after.Epoch != before.Epoch || before.Planned && !after.Planned {
		t.Fatalf("%s: %v became %v", name, before, after)
	}
	for _, e := range before.Seen {
		i := slices.IndexFunc(after.Seen, func(now impl.Entry) bool { return now.At == e.At })
		if i < 0 || after.Seen[i] != e && after.Seen[i].Wave <= e.Wave {
			t.Fatalf("%s: %v was seen, and there is %v", name, e, after.Seen)
		}
	}
	for _, n := range before.Sealed {
		if !slices.Contains(after.Sealed, n) {
			t.Fatalf("%s: %d was sealed, and there is %v", name, n, after.Sealed)
		}
	}
	if before.Planned && (!slices.Equal(before.Seen, after.Seen) || !slices.Equal(before.Sealed, after.Sealed) || len(before.Wrote) != len(after.Wrote)) {
		t.Fatalf("%s: it was planned, and %v became %v", name, before, after)
	}
}

// checkMendEntries is promise 9: each offset up to the last that was seen has its entry, and no other has.
func checkMendEntries(t *testing.T, m impl.Mend) {
	t.Helper()
	last := 0
	seen := map[int]impl.Entry{}
	for _, e := range m.Seen {
		seen[e.At%epochStep] = e
		last = max(last, e.At%epochStep)
	}
	for off := -1; off <= lastOff+2; off++ {
		got, ok := impl.MendEntry(m, off)
		if want := m.Planned && off >= 1 && off <= last; ok != want {
			t.Fatalf("MendEntry(%v, %d): %v", m, off, ok)
		}
		if !ok {
			continue
		}
		was, is := seen[off]
		if got.At != at(m.Epoch, off) || got.Wave != m.By || got.Data != was.Data || got.Hole != (was.Hole || !is) || !impl.EntryOk(got) {
			t.Fatalf("MendEntry(%v, %d): %v, where %v was seen", m, off, got, was)
		}
	}
}

// checkMendForgotten asks that a node that was forgotten is in no Wrote.
func checkMendForgotten(t *testing.T, name string, m impl.Mend) {
	t.Helper()
	node := 0
	if _, err := fmt.Sscanf(name, "MendForget %d", &node); err != nil {
		return
	}
	for i, nodes := range m.Wrote {
		if slices.Contains(nodes, node) {
			t.Fatalf("%s: the offset %d has it: %v", name, i+1, m)
		}
	}
}

func TestMendDrawnRows(t *testing.T) {
	t.Parallel()
	planned, ready := 0, 0
	for seed := range 250 {
		drawn := rand.New(rand.NewSource(int64(seed)))
		c := writerConfigs()[seed%len(writerConfigs())]
		epoch := 1 + drawn.Intn(lastEpoch-1)
		m := impl.MendNew(epoch, epoch+1+drawn.Intn(lastEpoch-epoch))
		for range 100 {
			a := drawnMendAsk(drawn, c, m)
			a.check(t, c, m)
			before := cloneMend(m)
			next, ok := a.ask(c, m)
			if !ok && !sameMend(next, before) || !sameMend(m, before) {
				t.Fatalf("%s is refused, and turns %v into %v", a.name, before, next)
			}
			if !impl.MendOk(c, next) {
				t.Fatalf("%s answers what is not right: %v", a.name, next)
			}
			checkSeenStays(t, a.name, before, next)
			checkMendForgotten(t, a.name, next)
			checkMendEntries(t, next)
			held := !slices.ContainsFunc(next.Wrote, func(nodes []int) bool { return spanIs(c, nodes) < c.Copies })
			checkReady(t, c, next, next.Planned && held)
			m = next
			if impl.MendReady(c, m) {
				ready++
			}
		}
		if m.Planned {
			planned++
		}
	}
	if planned < 100 || ready < 300 {
		t.Errorf("only %d were planned, and %d times it was ready", planned, ready)
	}
}

// A mend from its beginning to its end, of what lies on the nodes: what lies on one of them is written with its data.
func TestMendWhole(t *testing.T) {
	c := conf(2, 0, 0, 1, 2)
	all := nodesUpTo(4)
	for seed := range 100 {
		drawn := rand.New(rand.NewSource(int64(900 + seed)))
		m := impl.MendNew(4, 7)
		best := map[int]impl.Entry{}
		for node := range all {
			var list []impl.Entry
			for off := 1; off <= 20; off++ {
				e := impl.Entry{At: at(4, off), Wave: []int{0, 5, 6}[drawn.Intn(3)]}
				e.Data = fmt.Sprint(off, "of", e.Wave)
				if drawn.Intn(4) > 0 {
					continue
				}
				list = append(list, e)
				if old, ok := best[off]; !ok || e.Wave > old.Wave {
					best[off] = e
				}
			}
			m, _ = impl.MendSeal(c, m, node, list)
		}
		m, ok := impl.MendPlan(c, m, all)
		if !ok {
			t.Fatalf("it is not planned: %v", m)
		}
		for off := 1; off <= len(m.Wrote); off++ {
			checkReady(t, c, m, false)
			if got, _ := impl.MendEntry(m, off); got.Data != best[off].Data || got.Hole != (best[off].At == 0) {
				t.Fatalf("at %d stands %v, and there was %v", off, got, best[off])
			}
			m, _ = impl.MendAck(c, m, off, 1)
			m, _ = impl.MendAck(c, m, off, 2+off%2)
		}
		checkReady(t, c, m, true)
		lost, _ := impl.MendForget(c, m, 1)
		checkReady(t, c, lost, len(m.Wrote) == 0)
	}
}

// laidMend has each list of a mend between others, with spare room behind it.
type laidMend struct {
	given impl.Mend
	seen  []impl.Entry
	lists [][]int
	wrote [][]int
}

func layMend(m impl.Mend) laidMend {
	l := laidMend{given: m}
	l.given.Seen, l.seen = entriesWithRoom(m.Seen)
	sealed, whole := numbersWithRoom(m.Sealed)
	l.given.Sealed = sealed
	l.lists = append(l.lists, whole)
	side := slices.Repeat([][]int{{-5}}, 70)
	l.wrote = slices.Concat(side[:2], m.Wrote, side)
	for i, nodes := range m.Wrote {
		own, whole := numbersWithRoom(nodes)
		l.wrote[2+i] = own
		l.lists = append(l.lists, whole)
	}
	l.given.Wrote = l.wrote[2 : 2+len(m.Wrote)]
	return l
}

func (l laidMend) clone() laidMend {
	return laidMend{cloneMend(l.given), slices.Clone(l.seen), cloneLists(l.lists), cloneLists(l.wrote)}
}

func (l laidMend) is(other laidMend) bool {
	return sameMend(l.given, other.given) && slices.Equal(l.seen, other.seen) && slices.EqualFunc(l.lists, other.lists, slices.Equal[[]int]) && slices.EqualFunc(l.wrote, other.wrote, slices.Equal[[]int])
}

// spoilMend writes over all that an answer's memory holds, the spare room too.
func spoilMend(m impl.Mend) {
	spoilNumbers(m.Sealed)
	spoilEntries(m.Seen)
	wrote := m.Wrote[:cap(m.Wrote)]
	for i := range wrote {
		spoilNumbers(wrote[i])
		wrote[i] = []int{-99}
	}
}

func fewMends(c impl.Config) []impl.Mend {
	all := nodesUpTo(len(c.Domains))
	lists := slices.Concat(heldLists(c), unheldLists(c))
	var list []impl.Mend
	for i, row := range []string{"", "d", "d.wh", ".....w", longRow(lastOff)} {
		list = append(list, sealedMend(2, 5, row, lists[i%len(lists)]...), sealedMend(2, 5, row, all...), plannedMend(2, 5, row, all), writtenMend(2, 5, row, all, lists))
	}
	return list
}

// fewMendAsks has what is done and what is refused, of each kind.
func fewMendAsks(c impl.Config) []mendAsk {
	last := len(c.Domains) - 1
	list := []mendAsk{
		askMendForget(-1), askMendForget(0), askMendForget(last), askMendForget(last + 1), askPlan(nil), askPlan(nodesUpTo(last + 1)), askPlan(heldLists(c)[0]), askPlan([]int{-1}), askPlan(nodesUpTo(9)),
		askMendSeal(0, nil), askMendSeal(last, nil), askMendSeal(-1, nil), askMendSeal(last+1, seenOf(2, 5, "dwd")), askMendSeal(last, seenOf(2, 5, ".wdh.d")), askMendSeal(0, []impl.Entry{{At: at(2, 1), Wave: 4, Data: "better"}, {At: at(3, 1)}, {At: at(2, 60)}}), askMendSeal(0, []impl.Entry{{At: at(2, 9)}, {At: at(2, 1), Wave: 5}}),
	}
	for _, off := range []int{math.MinInt, -1, 0, 1, 2, 4, 6, 59, 60, 61, math.MaxInt} {
		list = append(list, askMendAck(off, 0), askMendAck(off, last), askMendAck(off, last+1), askMendAck(off, -1))
	}
	return list
}

// The answers are written over too: what they share with an argument, or with the room behind one, would be seen.
func TestMendWritesNothing(t *testing.T) {
	for _, c := range writerConfigs() {
		asks := fewMendAsks(c)
		for _, m := range slices.Concat(fewMends(c), badMends(c)) {
			domains, domainsWhole := numbersWithRoom(c.Domains)
			laid := layMend(m)
			laid.lists = append(laid.lists, domainsWhole)
			before := laid.clone()
			own := impl.Config{Domains: domains, Copies: c.Copies}
			for _, a := range asks {
				got, _ := a.ask(own, laid.given)
				spoilMend(got)
				if !laid.is(before) {
					t.Fatalf("%s of %v wrote into it", a.name, m)
				}
			}
			impl.MendOk(own, laid.given)
			impl.MendReady(own, laid.given)
			for off := range 4 {
				impl.MendEntry(laid.given, off)
			}
			if !laid.is(before) {
				t.Fatalf("MendOk, MendReady or MendEntry of %v wrote into it", m)
			}
		}
	}
}

// What a node told and the set are arguments too.
func TestMendWritesNothingIntoLists(t *testing.T) {
	for _, c := range writerConfigs() {
		for _, m := range fewMends(c) {
			for _, told := range mendLists() {
				given, whole := entriesWithRoom(told)
				before := slices.Clone(whole)
				want, wantOk := mendSealIs(c, m, 0, told)
				got, ok := impl.MendSeal(c, m, 0, given)
				if !slices.Equal(whole, before) {
					t.Fatalf("MendSeal wrote into %v", told)
				}
				spoilEntries(given)
				if ok != wantOk || !sameMend(got, want) {
					t.Fatalf("MendSeal with %v became %v", told, got)
				}
				copy(whole, before)
				spoilMend(got)
				if !slices.Equal(whole, before) {
					t.Fatalf("MendSeal answers memory of %v", told)
				}
			}
			for _, set := range mendSets(c) {
				given, whole := numbersWithRoom(set)
				before := slices.Clone(whole)
				want, wantOk := mendPlanIs(c, m, set)
				got, ok := impl.MendPlan(c, m, given)
				if !slices.Equal(whole, before) {
					t.Fatalf("MendPlan wrote into %v", set)
				}
				spoilNumbers(given)
				if ok != wantOk || !sameMend(got, want) {
					t.Fatalf("MendPlan of %v became %v", set, got)
				}
			}
		}
	}
}

// checkMendListsApart writes a number of its own over each list of an answer, with its spare room: none may be written over by another.
func checkMendListsApart(t *testing.T, name string, got impl.Mend) {
	t.Helper()
	lists := append([][]int{got.Sealed}, got.Wrote...)
	for i, list := range lists {
		for j := range list[:cap(list)] {
			list[:cap(list)][j] = -100 - i
		}
	}
	for i, list := range lists {
		if slices.ContainsFunc(list[:cap(list)], func(n int) bool { return n != -100-i }) {
			t.Fatalf("%s: two lists share memory: %v", name, lists)
		}
	}
}

// The standing answer is looked at ahead of a third call: that one would write over what is kept.
func TestMendSharesNothing(t *testing.T) {
	for _, c := range writerConfigs() {
		asks := fewMendAsks(c)
		for _, m := range slices.Concat(fewMends(c), badMends(c)) {
			for _, a := range asks {
				want, _ := a.want(c, m)
				one, _ := a.ask(c, m)
				two, _ := a.ask(c, m)
				spoilMend(one)
				if !sameMend(two, want) {
					t.Fatalf("two answers of %s of %v share memory", a.name, m)
				}
				checkMendListsApart(t, a.name, two)
				a.check(t, c, m)
			}
		}
	}
}

// Refused too: the answer is the mend as it was, and yet not its memory.
func TestMendRefusedSharesNothing(t *testing.T) {
	for _, c := range writerConfigs() {
		refused := 0
		for _, a := range fewMendAsks(c) {
			for _, m := range fewMends(c) {
				own := cloneMend(m)
				got, ok := a.ask(c, own)
				if ok {
					continue
				}
				refused++
				spoilMend(own)
				if !sameMend(got, m) {
					t.Fatalf("%s of %v: became %v", a.name, m, got)
				}
				checkMendListsApart(t, a.name, got)
				spoilMend(got)
				a.refuses(t, c, m)
			}
		}
		if refused < 200 {
			t.Errorf("only %d were refused", refused)
		}
	}
}

// An answer stays as it was told, whatever is done to the argument afterwards.
func TestMendAnswerStays(t *testing.T) {
	for _, c := range writerConfigs() {
		other := writtenMend(5, 8, "dwhd", []int{0}, heldLists(c))
		asks := fewMendAsks(c)
		for _, m := range fewMends(c) {
			for _, a := range asks {
				want, _ := a.want(c, m)
				own, ownConfig := cloneMend(m), impl.Config{Domains: slices.Clone(c.Domains), Copies: c.Copies}
				got, _ := a.ask(ownConfig, own)
				spoilMend(own)
				spoilNumbers(ownConfig.Domains)
				a.ask(c, other)
				if !sameMend(got, want) {
					t.Fatalf("%s of %v: became %v", a.name, m, got)
				}
			}
		}
	}
}

// A row of answers: each is made of the one ahead, and none is turned by what comes after it.
func TestMendRowStays(t *testing.T) {
	c := conf(2, 0, 0, 1, 2)
	row := []impl.Mend{impl.MendNew(2, 5)}
	var told []impl.Mend
	for _, a := range []mendAsk{
		askMendSeal(2, seenOf(2, 5, "d.w")), askMendSeal(0, seenOf(2, 5, ".dd.w")), askMendSeal(0, nil), askMendForget(2), askMendSeal(3, seenOf(2, 5, "whw.d.d")), askPlan([]int{0, 1, 2, 3}),
		askMendAck(7, 3), askMendAck(1, 3), askMendAck(1, 0), askMendAck(7, 1), askMendForget(3), askMendAck(7, 0), askMendAck(2, 2), askMendAck(1, 1), askMendForget(0), askMendForget(1),
	} {
		last := row[len(row)-1]
		told = append(told, cloneMend(last))
		next, ok := a.ask(c, last)
		if !ok {
			t.Fatalf("%s of %v is refused", a.name, last)
		}
		row = append(row, next)
		for i, m := range told {
			if !sameMend(row[i], m) {
				t.Fatalf("%s turned an earlier answer: %v became %v", a.name, m, row[i])
			}
		}
	}
}

// One memory may be the domains, the set, Sealed, and Wrote of every offset; and what is told may be what was seen.
func TestMendOneMemory(t *testing.T) {
	for _, row := range []string{"", "d", "d.wh", longRow(lastOff)} {
		for _, planned := range []bool{false, true} {
			same := []int{0, 1, 2, 3}
			c := impl.Config{Domains: same, Copies: 2}
			m := sealedMend(2, 5, row)
			m.Sealed, m.Planned = same, planned
			for i := 0; planned && i < len(row); i++ {
				m.Wrote = append(m.Wrote, same[:1+i%4])
			}
			seen := slices.Clone(m.Seen)
			for _, a := range append(fewMendAsks(c), askPlan(same), askPlan(same[1:]), askMendSeal(0, m.Seen), askMendSeal(1, m.Seen[:len(m.Seen)/2])) {
				want, wantOk := a.want(c, m)
				got, ok := a.ask(c, m)
				if ok != wantOk || !sameMend(got, want) {
					t.Fatalf("%s of one memory: %v, %v", a.name, got, ok)
				}
				checkMendListsApart(t, a.name, got)
				spoilMend(got)
				if !slices.Equal(same, []int{0, 1, 2, 3}) || !slices.Equal(m.Seen, seen) {
					t.Fatalf("%s wrote into it: %v, %v", a.name, same, m.Seen)
				}
			}
		}
	}
	// What is told may lie in the room behind what was seen.
	c := conf(2, 0, 0, 1, 2)
	all := append(seenOf(2, 5, "d.w..d"), seenOf(2, 5, "wd.h")...)
	for cut := range len(all) {
		whole := slices.Clone(all)
		m := impl.Mend{Epoch: 2, By: 5, Seen: whole[:min(cut, 3)]}
		want, wantOk := mendSealIs(c, m, 1, all[cut:])
		got, ok := impl.MendSeal(c, m, 1, whole[cut:])
		if ok != wantOk || !sameMend(got, want) || !slices.Equal(whole, all) {
			t.Fatalf("MendSeal of what lies behind: %v, %v", got, ok)
		}
		spoilMend(got)
		if !slices.Equal(whole, all) {
			t.Fatalf("MendSeal answers what lies behind")
		}
	}
}

// Nothing is kept from call to call: an answer is the same whatever was asked ahead of it.
func TestMendAgain(t *testing.T) {
	c, other := conf(2, 0, 0, 1, 2), conf(1, 5)
	some, few := writtenMend(2, 5, "d.wh", []int{0, 2}, heldLists(c)), sealedMend(2, 4, "dw", 0)
	asks := mendAsks(c)
	for range 3 {
		for _, a := range asks {
			a.check(t, c, some)
			a.check(t, c, few)
			a.check(t, c, impl.Mend{})
			a.check(t, other, few)
		}
		for off := range 6 {
			checkMendEntry(t, some, off)
			checkNoMendEntry(t, few, off)
		}
		checkReady(t, c, some, true)
		checkReady(t, c, few, false)
	}
}
