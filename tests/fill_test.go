package tests

import (
	"fmt"
	"maps"
	"math"
	"math/rand"
	"slices"
	"strconv"
	"testing"

	"loop.example/g00178/impl"
)

// isLost is what LostOk must answer.
func isLost(c impl.Config, lost []int) bool {
	return areNodes(c, lost) && spanIs(c, lost) < c.Copies
}

// unionIs is what Union must answer, by a map of places: it has nothing of how lists are merged.
func unionIs(list []impl.Store) []impl.Entry {
	best := map[int]impl.Entry{}
	for _, s := range list {
		if !isStore(s) {
			return nil
		}
		for _, e := range s.Kept {
			if old, ok := best[e.At]; !ok || e.Wave > old.Wave {
				best[e.At] = e
			}
		}
	}
	var union []impl.Entry
	for _, place := range slices.Sorted(maps.Keys(best)) {
		union = append(union, best[place])
	}
	return union
}

func storeWith(kept ...impl.Entry) impl.Store {
	return impl.Store{Kept: kept}
}

func cloneStores(list []impl.Store) []impl.Store {
	var own []impl.Store
	for _, s := range list {
		own = append(own, cloneStore(s))
	}
	return own
}

// shown keeps what a failure tells short: stores may have hundreds of entries.
func shown(what any) string {
	return fmt.Sprintf("%.600s", fmt.Sprint(what))
}

func unionAnswers(t *testing.T, list []impl.Store, want []impl.Entry) {
	t.Helper()
	if got := impl.Union(list); !slices.Equal(got, want) {
		t.Fatalf("Union of %s: %s; want %s", shown(list), shown(got), shown(want))
	}
}

func checkUnion(t *testing.T, list []impl.Store) {
	t.Helper()
	unionAnswers(t, list, unionIs(list))
}

// unionIsJust asks for what the document has, and not for what the model says; that one must say the same.
func unionIsJust(t *testing.T, list []impl.Store, want ...impl.Entry) {
	t.Helper()
	unionAnswers(t, list, want)
	checkUnion(t, list)
}

// fillAsk is one call of Fill, with all that it is given.
type fillAsk struct {
	config impl.Config
	stores []impl.Store
	lost   []int
	node   int
	upto   int
}

func (f fillAsk) ask() (impl.Store, bool) {
	return impl.Fill(f.config, f.stores, f.lost, f.node, f.upto)
}

func (f fillAsk) String() string {
	return fmt.Sprintf("Fill of %s, %d stores %s, lost %s, node %d, upto %d", shown(f.config), len(f.stores), shown(f.stores), shown(f.lost), f.node, f.upto)
}

func (f fillAsk) others() []impl.Store {
	var list []impl.Store
	for node, s := range f.stores {
		if !slices.Contains(f.lost, node) {
			list = append(list, s)
		}
	}
	return list
}

// want is what must be answered, by a model of the tests' own.
func (f fillAsk) want() (impl.Store, bool) {
	if !isConfig(f.config) || len(f.stores) != len(f.config.Domains) || !isLost(f.config, f.lost) || !slices.Contains(f.lost, f.node) {
		return impl.Store{}, false
	}
	others := f.others()
	if slices.ContainsFunc(others, func(s impl.Store) bool { return !isStore(s) }) {
		return impl.Store{}, false
	}
	s := impl.Store{Kept: unionIs(others), Seal: f.upto}
	if !isStore(s) {
		return impl.Store{}, false
	}
	return s, true
}

func (f fillAsk) check(t *testing.T) {
	t.Helper()
	want, wantOk := f.want()
	if got, ok := f.ask(); ok != wantOk || !sameStore(got, want) {
		t.Fatalf("%v: %s, %v; want %s, %v", f, shown(got), ok, shown(want), wantOk)
	}
}

// The two below are as the document has it, and not by the model; that one must say the same.

func (f fillAsk) refused(t *testing.T) {
	t.Helper()
	if got, ok := f.ask(); ok || !sameStore(got, impl.Store{}) {
		t.Fatalf("%v: %s, %v; want zero and false", f, shown(got), ok)
	}
	f.check(t)
}

func (f fillAsk) answers(t *testing.T, want impl.Store) {
	t.Helper()
	if got, ok := f.ask(); !ok || !sameStore(got, want) {
		t.Fatalf("%v: %s, %v; want %s", f, shown(got), ok, shown(want))
	}
	f.check(t)
}

// with is the call with something else.
func (f fillAsk) with(change func(*fillAsk)) fillAsk {
	f.stores, f.lost = slices.Clone(f.stores), slices.Clone(f.lost)
	change(&f)
	return f
}

func (f fillAsk) of(c impl.Config) fillAsk {
	return f.with(func(f *fillAsk) { f.config = c })
}

func (f fillAsk) store(node int, s impl.Store) fillAsk {
	return f.with(func(f *fillAsk) { f.stores[node] = s })
}

func (f fillAsk) losing(node int, lost ...int) fillAsk {
	return f.with(func(f *fillAsk) { f.node, f.lost = node, lost })
}

func (f fillAsk) upTo(upto int) fillAsk {
	return f.with(func(f *fillAsk) { f.upto = upto })
}

// fiveAsk has lost the two nodes of the first domain; each of the others has something that no other has, and e1.1 differs.
func fiveAsk() fillAsk {
	first := at(1, 1)
	return fillAsk{
		config: conf(2, 0, 1, 0, 2, 3),
		stores: []impl.Store{
			{},
			{Kept: []impl.Entry{{At: first, Data: "a"}, {At: at(1, 2), Data: "b"}}, Late: []impl.Entry{{At: at(2, 9), Data: "late"}}, Seal: 3},
			{},
			{Kept: []impl.Entry{{At: first, Wave: 3, Data: "a"}, {At: at(2, 1), Wave: 3, Hole: true}}},
			{Kept: []impl.Entry{{At: first, Wave: 2, Data: "a"}, {At: at(2, 1), Wave: 3, Data: "as good"}, {At: at(3, 60), Data: "c"}}, Seal: 9},
		},
		lost: []int{0, 2},
		node: 2,
		upto: 4,
	}
}

// fiveFilled is what fiveAsk must answer.
func fiveFilled() impl.Store {
	return impl.Store{Kept: []impl.Entry{{At: at(1, 1), Wave: 3, Data: "a"}, {At: at(1, 2), Data: "b"}, {At: at(2, 1), Wave: 3, Hole: true}, {At: at(3, 60), Data: "c"}}, Seal: 4}
}

func checkLost(t *testing.T, c impl.Config, lost []int, want bool) {
	t.Helper()
	if impl.LostOk(c, lost) != want || isLost(c, lost) != want {
		t.Fatalf("LostOk(%s, %s) is not %v", shown(c), shown(lost), want)
	}
}

func TestLostKnown(t *testing.T) {
	c := conf(2, 0, 0, 1, 2)
	for _, lost := range [][]int{nil, {}, {0}, {1}, {2}, {3}, {0, 1}} {
		checkLost(t, c, lost, true)
	}
	for _, lost := range [][]int{{0, 2}, {0, 3}, {1, 2}, {1, 3}, {2, 3}, {0, 1, 2}, {0, 1, 3}, {1, 2, 3}, {0, 1, 2, 3}} {
		checkLost(t, c, lost, false)
	}
	for _, lost := range [][]int{{1, 0}, {0, 0}, {1, 1}, {-1}, {-1, 0}, {4}, {0, 4}, {0, 1, 1}, {0, 1, 0}} {
		checkLost(t, c, lost, false)
	}
}

// Just Copies domains are too many, whatever the number of nodes; one domain less is not.
func TestLostEdge(t *testing.T) {
	for copies := 1; copies <= mostCopies; copies++ {
		apart, pairs, alike := conf(copies, 0, 1, 2, 3, 4, 5, 6, 7), conf(copies, 0, 0, 1, 1, 2, 2, 3, 3), conf(copies, 5, 5, 5, 5, 5, 5, 5, 5)
		for size := 0; size <= mostNodes; size++ {
			checkLost(t, apart, nodesUpTo(size), size < copies)
			checkLost(t, pairs, nodesUpTo(size), (size+1)/2 < copies)
			checkLost(t, alike, nodesUpTo(size), size == 0 || copies > 1)
		}
		last := nodesUpTo(mostNodes)[mostNodes-copies:]
		checkLost(t, apart, last, false)
		checkLost(t, apart, last[1:], true)
	}
}

// Where there are fewer domains than Copies nothing holds: all nodes may be lost.
func TestLostAll(t *testing.T) {
	for _, c := range append(unheldConfigs(), conf(4, 0), conf(3, 7, 0, 7, 0, 7, 0, 7, 0), conf(4, 0, 1, 2, 0, 1, 2, 0, 1)) {
		for mask := range 1 << len(c.Domains) {
			checkLost(t, c, nodesOf(mask), true)
		}
		for _, lost := range wrongNodes(c) {
			checkLost(t, c, lost, false)
		}
	}
}

func TestLostBadConfig(t *testing.T) {
	for _, c := range badConfigs() {
		for _, lost := range slices.Concat([][]int{nil, {}, {0}, {1}, {0, 1}, nodesUpTo(len(c.Domains))}, badLists()) {
			checkLost(t, c, lost, false)
		}
	}
}

// A list that is not of nodes does not hold, and is yet not one that may be lost.
func TestLostBadLists(t *testing.T) {
	for _, c := range append(someConfigs(), unheldConfigs()...) {
		for _, lost := range slices.Concat(badLists(), wrongNodes(c)) {
			if !areNodes(c, lost) {
				checkLost(t, c, lost, false)
			}
		}
		checkLost(t, c, nil, true)
		checkLost(t, c, []int{}, true)
	}
	checkLost(t, conf(2, 0, 1), nodesUpTo(70000), false)
	checkLost(t, conf(2, 0, 0), make([]int, 70000), false)
}

func TestLostEvery(t *testing.T) {
	for _, c := range append(someConfigs(), smallConfigs()...) {
		for mask := range 1 << len(c.Domains) {
			lost := nodesOf(mask)
			checkLost(t, c, lost, isLost(c, lost))
			if impl.LostOk(c, lost) == impl.Holds(c, lost) {
				t.Fatalf("%v: %v may be lost, and holds, or neither", c, lost)
			}
		}
	}
	for _, c := range []impl.Config{conf(1, 0, 1), conf(2, 0, 0, 1), conf(2, 0, 1, 2), conf(3, 0, 1, 2)} {
		for _, list := range rowsOfWaves(3, []int{-1, 0, 1, 2, 3}) {
			checkLost(t, c, list, isLost(c, list))
			checkLost(t, c, list[:2], isLost(c, list[:2]))
		}
	}
}

func TestUnionNone(t *testing.T) {
	unionIsJust(t, nil)
	unionIsJust(t, []impl.Store{})
	unionIsJust(t, make([]impl.Store, 0, 9))
}

func TestUnionOne(t *testing.T) {
	for _, s := range someStores() {
		unionIsJust(t, []impl.Store{s}, s.Kept...)
		unionIsJust(t, []impl.Store{s, s}, s.Kept...)
		unionIsJust(t, []impl.Store{{}, s}, s.Kept...)
		unionIsJust(t, []impl.Store{s, {}}, s.Kept...)
		unionIsJust(t, []impl.Store{{}, {}, {Seal: 5}, s, {Late: entriesFrom(9, 3)}}, s.Kept...)
	}
}

// One store that is not right takes all away, wherever it stands, also where what is wrong is only Late or Seal.
func TestUnionBadStore(t *testing.T) {
	right := []impl.Store{storeWith(entriesFrom(0, 5)...), {}, {Kept: entriesBy(3, 2, 4), Late: entriesFrom(0, 3), Seal: 2}, storeWith(entriesFrom(70, 3)...)}
	for _, bad := range badStores() {
		unionIsJust(t, []impl.Store{bad})
		unionIsJust(t, []impl.Store{bad, bad})
		for i := range len(right) + 1 {
			unionIsJust(t, slices.Insert(slices.Clone(right), i, bad))
		}
		for i := range right {
			list := slices.Clone(right)
			list[i] = bad
			unionIsJust(t, list)
		}
		unionIsJust(t, append(make([]impl.Store, 7), bad))
		unionIsJust(t, append([]impl.Store{bad}, make([]impl.Store, 7)...))
	}
	unionIsJust(t, right, slices.Concat(entriesFrom(0, 6), entriesBy(7, 2, 2), entriesFrom(70, 3))...)
}

func TestUnionNothingKept(t *testing.T) {
	for size := range 12 {
		unionIsJust(t, make([]impl.Store, size))
		var sealed, late []impl.Store
		for i := range size {
			sealed = append(sealed, impl.Store{Seal: i * 2})
			late = append(late, impl.Store{Late: entriesFrom(i, 1+i)})
		}
		unionIsJust(t, sealed)
		unionIsJust(t, late)
	}
}

// What is Late does not last: it is not told, not even where it is better or of another place.
func TestUnionLate(t *testing.T) {
	place := at(3, 7)
	old, mended := impl.Entry{At: place, Data: "old"}, impl.Entry{At: place, Wave: 9, Data: "mended"}
	with := func(kept []impl.Entry, late ...impl.Entry) impl.Store { return impl.Store{Kept: kept, Late: late} }
	unionIsJust(t, []impl.Store{with([]impl.Entry{old}, mended)}, old)
	unionIsJust(t, []impl.Store{with([]impl.Entry{old}), with(nil, mended)}, old)
	unionIsJust(t, []impl.Store{with(nil, mended), with([]impl.Entry{old})}, old)
	unionIsJust(t, []impl.Store{with(nil, mended), with(nil, old)})
	unionIsJust(t, []impl.Store{with([]impl.Entry{old}, nthEntry(0), nthEntry(1799)), with(nil, nthEntry(5))}, old)
	full := with(entriesFrom(0, mostKept), entriesFrom(mostKept, mostLate)...)
	unionIsJust(t, []impl.Store{full, with(nil, entriesFrom(900, mostLate)...)}, full.Kept...)
}

// ordersOf has every order of so many.
func ordersOf(size int) [][]int {
	if size == 0 {
		return [][]int{nil}
	}
	var orders [][]int
	for _, shorter := range ordersOf(size - 1) {
		for i := range size {
			orders = append(orders, slices.Insert(slices.Clone(shorter), i, size-1))
		}
	}
	return orders
}

func inOrder(list []impl.Store, order []int) []impl.Store {
	var turned []impl.Store
	for _, i := range order {
		turned = append(turned, list[i])
	}
	return turned
}

// The places of the stores lie before, behind and between each other; the answer ascends, whatever their order.
func TestUnionPlaces(t *testing.T) {
	whole := entriesFrom(50, 20)
	var parts [5][]impl.Entry
	for i, e := range whole {
		parts[i*i%5] = append(parts[i*i%5], e)
	}
	rows := [][]impl.Store{
		{storeWith(whole[:4]...), storeWith(whole[4:5]...), storeWith(), storeWith(whole[5:12]...), storeWith(whole[12:]...)},
		{storeWith(parts[0]...), storeWith(parts[1]...), storeWith(parts[2]...), storeWith(parts[3]...), storeWith(parts[4]...)},
		{storeWith(whole[0], whole[19]), storeWith(whole[1:10]...), storeWith(whole[10:19]...)},
		{storeWith(whole...), storeWith(whole[3]), storeWith(whole[0:7]...), storeWith(whole[15:]...)},
	}
	for _, row := range rows {
		for _, order := range ordersOf(len(row)) {
			unionIsJust(t, inOrder(row, order), whole...)
		}
	}
	// An offset that is greater does not make up for an epoch that is less.
	early, late := impl.Entry{At: at(1, 60), Data: "e"}, impl.Entry{At: at(2, 1), Data: "l"}
	unionIsJust(t, []impl.Store{storeWith(late), storeWith(early)}, early, late)
	unionIsJust(t, []impl.Store{storeWith(early), storeWith(late)}, early, late)
	unionIsJust(t, []impl.Store{storeWith(nthEntry(1799)), storeWith(nthEntry(0))}, nthEntry(0), nthEntry(1799))
}

// The first of those with the greatest wave is told; Data tells which one it is.
func TestUnionWaves(t *testing.T) {
	for size := 1; size <= 6; size++ {
		for _, row := range rowsOfWaves(size, []int{0, 5, 6, 30}) {
			var list []impl.Store
			for i, wave := range row {
				list = append(list, storeWith(impl.Entry{At: at(4, 9), Wave: wave, Data: strconv.Itoa(i)}))
			}
			best := slices.Index(row, slices.Max(row))
			unionIsJust(t, list, list[best].Kept...)
		}
	}
}

// Some stores do not have the place at all: -1 stands for that.
func TestUnionWavesBetween(t *testing.T) {
	before, behind := impl.Entry{At: at(4, 8), Data: "before"}, impl.Entry{At: at(4, 10), Data: "behind"}
	for _, row := range rowsOfWaves(5, []int{-1, 0, 7, 8}) {
		var list []impl.Store
		for i, wave := range row {
			s := storeWith(before, behind)
			if wave >= 0 {
				s.Kept = []impl.Entry{before, {At: at(4, 9), Wave: wave, Data: strconv.Itoa(i)}, behind}
			}
			list = append(list, s)
		}
		best := slices.Index(row, slices.Max(row))
		unionIsJust(t, list, list[best].Kept...)
	}
}

// The waves of several places, the best of each of which lies in another store.
func TestUnionWavesApart(t *testing.T) {
	for size := 1; size <= mostNodes; size++ {
		for shift := range size {
			var list []impl.Store
			var want []impl.Entry
			for i := range size {
				var kept []impl.Entry
				for off := 1; off <= size; off++ {
					e := impl.Entry{At: at(2, off), Wave: 3 + (i+off+shift)%size, Data: fmt.Sprint(i, off)}
					kept = append(kept, e)
				}
				list = append(list, storeWith(kept...))
			}
			for off := 1; off <= size; off++ {
				best := slices.IndexFunc(list, func(s impl.Store) bool { return s.Kept[off-1].Wave == 2+size })
				want = append(want, list[best].Kept[off-1])
			}
			unionIsJust(t, list, want...)
		}
	}
}

// Of those that are as good the first one is told, a Hole or not, whatever its Data.
func TestUnionFirst(t *testing.T) {
	place := at(7, 3)
	alike := []impl.Entry{{At: place, Wave: 9, Data: "z"}, {At: place, Wave: 9, Hole: true}, {At: place, Wave: 9, Data: "a"}, {At: place, Wave: 9}}
	for _, order := range ordersOf(len(alike)) {
		var list []impl.Store
		for _, i := range order {
			list = append(list, storeWith(alike[i]))
		}
		unionIsJust(t, list, alike[order[0]])
		worse := storeWith(impl.Entry{At: place, Wave: 8, Data: "worse"})
		fresh := storeWith(impl.Entry{At: place, Data: "new"})
		for i := range len(list) + 1 {
			unionIsJust(t, slices.Insert(slices.Clone(list), i, worse, fresh, impl.Store{}), alike[order[0]])
			better := impl.Entry{At: place, Wave: 10, Hole: true}
			unionIsJust(t, slices.Insert(slices.Clone(list), i, storeWith(better)), better)
		}
	}
	one, two := impl.Entry{At: place, Data: "one"}, impl.Entry{At: place, Data: "two"}
	unionIsJust(t, []impl.Store{storeWith(one), storeWith(two)}, one)
	unionIsJust(t, []impl.Store{storeWith(two), storeWith(one)}, two)
	unionIsJust(t, []impl.Store{storeWith(one), storeWith(two), storeWith(impl.Entry{At: place, Wave: 8, Data: "one"})}, impl.Entry{At: place, Wave: 8, Data: "one"})
}

// A Seal says nothing of what is told: also what it would refuse is.
func TestUnionSeal(t *testing.T) {
	list := []impl.Store{{Kept: entriesFrom(0, 9), Seal: 30}, {Kept: entriesFrom(5, 9), Seal: 1}, {Kept: entriesFrom(1700, 2)}}
	unionIsJust(t, list, append(entriesFrom(0, 14), entriesFrom(1700, 2)...)...)
}

// spread deals the entries of the first places out to so many stores in turn, so that no two have one place.
func spread(stores int, size int) []impl.Store {
	var list []impl.Store
	for i := range stores {
		list = append(list, storeWith(entriesBy(i, stores, size)...))
	}
	return list
}

func TestUnionLimits(t *testing.T) {
	unionIsJust(t, spread(8, mostKept), entriesFrom(0, 8*mostKept)...)
	// Every place there is.
	unionIsJust(t, spread(9, mostKept), entriesFrom(0, lastEpoch*lastOff)...)
	var rows []impl.Store
	for i := range 9 {
		rows = append(rows, impl.Store{Kept: entriesFrom(mostKept*i, mostKept), Late: entriesFrom(i, mostLate), Seal: i})
	}
	unionIsJust(t, rows, entriesFrom(0, lastEpoch*lastOff)...)
	slices.Reverse(rows)
	unionIsJust(t, rows, entriesFrom(0, lastEpoch*lastOff)...)
	full := storeWith(entriesBy(3, 7, mostKept)...)
	for stores := 1; stores <= 20; stores++ {
		unionIsJust(t, slices.Repeat([]impl.Store{full}, stores), full.Kept...)
	}
	over := storeWith(entriesFrom(0, mostKept+1)...)
	for i := range rows {
		unionIsJust(t, slices.Insert(slices.Clone(rows), i, over))
	}
}

// Any number of stores is merged, also a very great one.
func TestUnionMany(t *testing.T) {
	for stores := range 70 {
		var list []impl.Store
		for i := range stores {
			list = append(list, storeWith(nthEntry((i*31)%70)))
		}
		checkUnion(t, list)
	}
	many := make([]impl.Store, 70000)
	for i := range many {
		many[i] = storeWith(impl.Entry{At: at(1+i%29, 1+i/29%60), Wave: i % 2 * 30, Data: strconv.Itoa(i)})
	}
	checkUnion(t, many)
	many[len(many)-1].Seal = -1
	unionIsJust(t, many)
	full := slices.Repeat(spread(9, mostKept), 300)
	unionIsJust(t, full, entriesFrom(0, lastEpoch*lastOff)...)
}

// Every way in which three stores can have two places, in one of three waves each.
func TestUnionEverySmall(t *testing.T) {
	for _, row := range rowsOfWaves(6, []int{-1, 0, 4, 5}) {
		list := make([]impl.Store, 3)
		for i, wave := range row {
			if wave >= 0 {
				list[i/2].Kept = append(list[i/2].Kept, impl.Entry{At: at(3, 59+i%2), Wave: wave, Data: strconv.Itoa(i)})
			}
		}
		checkUnion(t, list)
	}
}

// drawnStore is right: of few places, so that several stores have the same ones.
func drawnStore(drawn *rand.Rand) impl.Store {
	best := map[int]impl.Entry{}
	for range drawn.Intn(20) {
		if e := drawnEntry(drawn); isEntry(e) {
			best[e.At] = e
		}
	}
	s := impl.Store{Seal: drawn.Intn(lastEpoch + 1)}
	for _, place := range slices.Sorted(maps.Keys(best)) {
		s.Kept = append(s.Kept, best[place])
	}
	for range drawn.Intn(4) {
		if e := drawnEntry(drawn); isEntry(e) {
			s.Late = append(s.Late, e)
		}
	}
	return s
}

func drawnStores(drawn *rand.Rand, size int) []impl.Store {
	list := make([]impl.Store, size)
	for i := range list {
		list[i] = drawnStore(drawn)
	}
	return list
}

// checkMerged is promise 11 of a list, without a model: all that is kept is there or a better one, in order, and nothing else.
func checkMerged(t *testing.T, list []impl.Store, got []impl.Entry) {
	t.Helper()
	from := map[int]int{}
	for i, e := range got {
		if i > 0 && got[i-1].At >= e.At {
			t.Fatalf("%v does not ascend", got)
		}
		from[e.At] = slices.IndexFunc(list, func(s impl.Store) bool { return slices.Contains(s.Kept, e) })
		if from[e.At] < 0 {
			t.Fatalf("%v is kept by none of %v", e, list)
		}
	}
	for i, s := range list {
		for _, e := range s.Kept {
			at := slices.IndexFunc(got, func(g impl.Entry) bool { return g.At == e.At })
			if at < 0 || got[at].Wave < e.Wave {
				t.Fatalf("%v is lost in %v", e, got)
			}
			if got[at].Wave == e.Wave && from[e.At] > i {
				t.Fatalf("%v stands ahead of %v, which is told", e, got[at])
			}
		}
	}
}

func TestUnionDrawn(t *testing.T) {
	t.Parallel()
	drawn := rand.New(rand.NewSource(11))
	for range 6000 {
		list := drawnStores(drawn, drawn.Intn(mostNodes+3))
		checkUnion(t, list)
		checkMerged(t, list, impl.Union(list))
		if len(list) > 0 && drawn.Intn(5) == 0 {
			bad := badStores()[drawn.Intn(40)]
			list[drawn.Intn(len(list))] = bad
			unionIsJust(t, list)
		}
	}
}

// Merged in parts and then together it is the same: Union of what Union told.
func TestUnionOfUnions(t *testing.T) {
	drawn := rand.New(rand.NewSource(12))
	for range 2000 {
		list := drawnStores(drawn, 2+drawn.Intn(7))
		cut := drawn.Intn(len(list) + 1)
		unionAnswers(t, []impl.Store{storeWith(impl.Union(list[:cut])...), storeWith(impl.Union(list[cut:])...)}, unionIs(list))
	}
}

func TestFillKnown(t *testing.T) {
	f := fiveAsk()
	f.answers(t, fiveFilled())
	f.losing(0, 0, 2).answers(t, fiveFilled())
	f.losing(0, 0).answers(t, fiveFilled())
	f.losing(1, 1).answers(t, impl.Store{Kept: append([]impl.Entry{{At: at(1, 1), Wave: 3, Data: "a"}}, fiveFilled().Kept[2:]...), Seal: 4})
	f.losing(3, 3).answers(t, impl.Store{Kept: []impl.Entry{{At: at(1, 1), Wave: 2, Data: "a"}, {At: at(1, 2), Data: "b"}, {At: at(2, 1), Wave: 3, Data: "as good"}, {At: at(3, 60), Data: "c"}}, Seal: 4})
	f.losing(4, 4).answers(t, impl.Store{Kept: fiveFilled().Kept[:3], Seal: 4})
	f.with(func(f *fillAsk) { f.stores = make([]impl.Store, 5) }).answers(t, impl.Store{Seal: 4})
}

func TestFillBadConfig(t *testing.T) {
	for _, c := range badConfigs() {
		f := fillAsk{config: c, stores: make([]impl.Store, len(c.Domains)), lost: []int{0}}
		f.refused(t)
		f.losing(0).refused(t)
		f.with(func(f *fillAsk) { f.stores = nil }).refused(t)
		f.with(func(f *fillAsk) { f.stores = make([]impl.Store, 3) }).refused(t)
		fiveAsk().of(c).refused(t)
	}
	// Each of these is only a little beside the config that is right.
	f := fiveAsk()
	for _, copies := range []int{math.MinInt, -1, 0, 5, 6, math.MaxInt} {
		f.of(conf(copies, f.config.Domains...)).refused(t)
	}
	for node := range f.config.Domains {
		for _, domain := range []int{-1, 8, math.MinInt, math.MaxInt} {
			c := conf(2, slices.Clone(f.config.Domains)...)
			c.Domains[node] = domain
			f.of(c).refused(t)
		}
	}
	nine := conf(2, 0, 1, 0, 2, 3, 0, 1, 2, 3)
	f.of(nine).with(func(f *fillAsk) { f.stores = append(f.stores, make([]impl.Store, 4)...) }).refused(t)
	eight := conf(2, nine.Domains[:8]...)
	f.of(eight).with(func(f *fillAsk) { f.stores = append(f.stores, make([]impl.Store, 3)...) }).answers(t, fiveFilled())
}

// Fewer or more stores than nodes: those of lost count too.
func TestFillStoreCount(t *testing.T) {
	f := fiveAsk()
	for size := range 12 {
		g := f.with(func(f *fillAsk) { f.stores = append(f.stores, make([]impl.Store, 9)...)[:size] })
		if size == 5 {
			g.answers(t, fiveFilled())
		} else {
			g.refused(t)
		}
	}
	f.with(func(f *fillAsk) { f.stores = make([]impl.Store, 70000) }).refused(t)
	f.with(func(f *fillAsk) { f.stores = slices.Delete(f.stores, 0, 1) }).refused(t)
	f.with(func(f *fillAsk) { f.stores = f.others() }).refused(t)
	for _, c := range someConfigs() {
		for _, lost := range fewLost(c) {
			for size := range 10 {
				fillAsk{c, make([]impl.Store, size), lost, lost[0], 0}.check(t)
				if size != len(c.Domains) {
					fillAsk{c, make([]impl.Store, size), lost, lost[0], 0}.refused(t)
				}
			}
		}
	}
}

// fewLost has lists of nodes that may be lost, none of them empty: one, and as many as can be.
func fewLost(c impl.Config) [][]int {
	var lists [][]int
	most := 0
	for mask := 1; mask < 1<<len(c.Domains); mask++ {
		if isLost(c, nodesOf(mask)) && len(nodesOf(mask)) > most {
			most = len(nodesOf(mask))
			lists = append(lists, nodesOf(mask))
		}
	}
	return lists
}

// Neither lists that are not of nodes nor lists that hold may be lost, whoever is to be filled.
func TestFillLost(t *testing.T) {
	for _, c := range someConfigs() {
		f := fillAsk{config: c, stores: spread(len(c.Domains), 3), upto: 2}
		for _, lost := range slices.Concat(badLists(), wrongNodes(c), heldLists(c)) {
			for _, node := range slices.Concat(lost[:min(8, len(lost))], []int{0, len(c.Domains) - 1}) {
				if !isLost(c, lost) {
					f.losing(node, lost...).refused(t)
				}
			}
		}
		f.losing(0).refused(t)
	}
	f := fiveAsk()
	for _, lost := range [][]int{{2, 0}, {0, 0}, {2, 2}, {0, 2, 2}, {-1, 0, 2}, {-1, 2}, {0, 2, 5}, {2, 5}, {0, 2, 8}, {0, 1, 2}, {1, 2}, {2, 3}, {2, 4}, {0, 2, 4}, {0, 1, 2, 3, 4}} {
		f.losing(2, lost...).refused(t)
	}
	f.losing(2, nodesUpTo(70000)...).refused(t)
}

// With Copies 1 whatever is lost holds: nothing can be filled.
func TestFillOneCopy(t *testing.T) {
	for _, c := range someConfigs() {
		if c.Copies != 1 {
			continue
		}
		for mask := range 1 << len(c.Domains) {
			for node := range c.Domains {
				fillAsk{c, spread(len(c.Domains), 2), nodesOf(mask), node, 0}.refused(t)
			}
		}
	}
}

// Where there are fewer domains than Copies all may be lost: then there is nothing to fill with.
func TestFillAllLost(t *testing.T) {
	for _, c := range unheldConfigs() {
		all := nodesUpTo(len(c.Domains))
		for node := range c.Domains {
			fillAsk{c, spread(len(all), 3), all, node, 7}.answers(t, impl.Store{Seal: 7})
			fillAsk{c, slices.Repeat([]impl.Store{{Seal: -1}}, len(all)), all, node, 30}.answers(t, impl.Store{Seal: 30})
			fillAsk{c, spread(len(all), 3), all, node, 31}.refused(t)
			fillAsk{c, spread(len(all), 3), all, node, -1}.refused(t)
		}
	}
}

func TestFillNode(t *testing.T) {
	f := fiveAsk()
	for _, node := range append(wrongNumbers(), 1, 3, 4, 5, 6, 7) {
		f.losing(node, 0, 2).refused(t)
		f.losing(node).refused(t)
		if node != 1 {
			f.losing(node, 1).refused(t)
		}
	}
	f.losing(0, 2).refused(t)
	f.losing(2, 0).refused(t)
	f.losing(2, 0, 2).answers(t, fiveFilled())
	for _, c := range someConfigs() {
		for _, lost := range fewLost(c) {
			for node := -1; node <= mostNodes; node++ {
				g := fillAsk{c, spread(len(c.Domains), 3), lost, node, 3}
				if slices.Contains(lost, node) {
					g.check(t)
					if _, ok := g.ask(); !ok {
						t.Fatalf("%v is refused", g)
					}
				} else {
					g.refused(t)
				}
			}
		}
	}
}

// Each way in which a store of the others is not right, at each of them.
func TestFillBadOther(t *testing.T) {
	f := fiveAsk()
	for _, bad := range badStores() {
		for _, node := range []int{1, 3, 4} {
			f.store(node, bad).refused(t)
			f.store(node, bad).store(0, bad).refused(t)
			f.store(node, bad).losing(0, 0).refused(t)
		}
		f.store(0, bad).losing(2, 2).refused(t)
		f.store(2, bad).losing(0, 0).refused(t)
		f.store(1, bad).store(3, bad).store(4, bad).refused(t)
	}
}

// What a node of lost has does not count, right or not.
func TestFillBadLost(t *testing.T) {
	f := fiveAsk()
	for _, s := range slices.Concat(badStores(), someStores()) {
		for _, node := range f.lost {
			f.store(0, s).losing(node, 0, 2).answers(t, fiveFilled())
			f.store(2, s).losing(node, 0, 2).answers(t, fiveFilled())
			f.store(0, s).store(2, s).losing(node, 0, 2).answers(t, fiveFilled())
		}
		f.store(1, s).losing(1, 1).answers(t, impl.Store{Kept: append([]impl.Entry{{At: at(1, 1), Wave: 3, Data: "a"}}, fiveFilled().Kept[2:]...), Seal: 4})
	}
	better := storeWith(impl.Entry{At: at(1, 1), Wave: 30, Data: "better"}, impl.Entry{At: at(30, 60), Data: "more"})
	f.store(0, better).answers(t, fiveFilled())
	f.store(2, better).answers(t, fiveFilled())
}

// Seal is just upto, whatever the seals of the others are.
func TestFillUpto(t *testing.T) {
	f := fiveAsk()
	for _, upto := range append(wrongNumbers(), 31, 32, 33, 60, 64, 128, 287, 1<<32+5, -31, -30) {
		f.upTo(upto).check(t)
		if upto < 0 || upto > lastEpoch {
			f.upTo(upto).refused(t)
		}
	}
	for upto := 0; upto <= lastEpoch; upto++ {
		want := fiveFilled()
		want.Seal = upto
		f.upTo(upto).answers(t, want)
		for _, seal := range []int{0, 1, upto, lastEpoch} {
			s := f.stores[3]
			s.Seal = seal
			f.store(3, s).upTo(upto).answers(t, want)
		}
	}
}

// Each store alone is right, and together they may be too much: one place above MaxKept is.
func TestFillTooMany(t *testing.T) {
	f := fiveAsk()
	for _, row := range []struct {
		one, two, three []impl.Entry
		places          int
	}{
		{entriesFrom(0, mostKept), nil, nil, 200},
		{nil, nil, entriesFrom(0, mostKept), 200},
		{entriesFrom(0, 100), entriesFrom(100, 100), nil, 200},
		{entriesFrom(0, 100), entriesFrom(100, 101), nil, 201},
		{entriesFrom(0, 100), nil, entriesFrom(99, 101), 200},
		{entriesFrom(0, 100), nil, entriesFrom(100, 101), 201},
		{entriesFrom(0, mostKept), entriesFrom(0, mostKept), entriesFrom(0, mostKept), 200},
		{entriesFrom(0, mostKept), entriesFrom(1, mostKept), nil, 201},
		{entriesFrom(1, mostKept), nil, entriesFrom(0, mostKept), 201},
		{entriesFrom(0, mostKept), []impl.Entry{nthEntry(mostKept)}, nil, 201},
		{entriesFrom(0, mostKept), nil, []impl.Entry{nthEntry(mostKept - 1)}, 200},
		{entriesFrom(0, mostKept), nil, []impl.Entry{nthEntry(1799)}, 201},
		{entriesBy(0, 3, 66), entriesBy(1, 3, 67), entriesBy(2, 3, 67), 200},
		{entriesBy(0, 3, 67), entriesBy(1, 3, 67), entriesBy(2, 3, 67), 201},
		{entriesFrom(0, mostKept), entriesFrom(200, mostKept), entriesFrom(400, mostKept), 600},
		{entriesFrom(0, 56), entriesFrom(56, mostKept), nil, 256},
		{entriesFrom(0, 57), entriesFrom(57, mostKept), nil, 257},
	} {
		g := f.store(1, storeWith(row.one...)).store(3, storeWith(row.two...)).store(4, storeWith(row.three...))
		if n := len(unionIs(g.others())); n != row.places {
			t.Fatalf("%d places, not %d", n, row.places)
		}
		for _, lost := range [][]int{{0, 2}, {0}} {
			if row.places > mostKept {
				g.losing(0, lost...).refused(t)
			} else {
				g.losing(0, lost...).answers(t, impl.Store{Kept: impl.Union(g.others()), Seal: 4})
			}
		}
	}
	// What is Late, or of those that are lost, is not counted.
	g := f.store(1, impl.Store{Kept: entriesFrom(0, mostKept), Late: entriesFrom(mostKept, mostLate)}).store(0, storeWith(entriesFrom(500, 9)...))
	g = g.store(3, impl.Store{Late: entriesFrom(900, 3)}).store(4, impl.Store{})
	g.answers(t, impl.Store{Kept: entriesFrom(0, mostKept), Seal: 4})
}

// Several reasons together are refused as one is: each part of them is asked for.
func TestFillTogether(t *testing.T) {
	wrongs := []func(*fillAsk){
		func(f *fillAsk) { f.config.Copies = 5 },
		func(f *fillAsk) { f.stores = append(f.stores, impl.Store{}) },
		func(f *fillAsk) { f.lost = []int{0, 1, 2} },
		func(f *fillAsk) { f.node = 3 },
		func(f *fillAsk) { f.stores[1] = impl.Store{Seal: -1} },
		func(f *fillAsk) { f.upto = lastEpoch + 1 },
		func(f *fillAsk) { f.stores[3], f.stores[4] = spread(2, mostKept)[0], spread(2, mostKept)[1] },
		func(f *fillAsk) { f.config.Domains = append(slices.Clone(f.config.Domains), 9) },
		func(f *fillAsk) { f.stores = f.stores[:len(f.stores)-1] },
		func(f *fillAsk) { f.lost = []int{2, 0} },
		func(f *fillAsk) { f.node = -1 },
		func(f *fillAsk) { f.upto = -1 },
	}
	for mask := range 1 << len(wrongs) {
		// One store more and one less are as many as there were.
		if mask>>1&1 == 1 && mask>>8&1 == 1 {
			continue
		}
		f := fiveAsk().with(func(f *fillAsk) {
			for i, wrong := range wrongs {
				if mask>>i&1 == 1 {
					wrong(f)
				}
			}
		})
		if mask == 0 {
			f.answers(t, fiveFilled())
		} else {
			f.refused(t)
		}
	}
	fillAsk{}.refused(t)
	fillAsk{node: -1, upto: -1}.refused(t)
	fillAsk{lost: []int{0}, stores: make([]impl.Store, 1)}.refused(t)
}

// checkFilled is promise 11 of one answer, without a model.
func checkFilled(t *testing.T, f fillAsk, got impl.Store) {
	t.Helper()
	if len(got.Late) != 0 || got.Seal != f.upto || !impl.StoreOk(got) {
		t.Fatalf("%v: %v", f, got)
	}
	checkMerged(t, f.others(), got.Kept)
	if !slices.Equal(got.Kept, impl.Union(f.others())) {
		t.Fatalf("%v: %v is not their union", f, got)
	}
}

// Every list that may be lost, of many configs, and every node: whoever of lost is filled has the same.
func TestFillEvery(t *testing.T) {
	t.Parallel()
	drawn := rand.New(rand.NewSource(13))
	filled := 0
	for _, c := range someConfigs() {
		for mask := range 1 << len(c.Domains) {
			f := fillAsk{c, drawnStores(drawn, len(c.Domains)), nodesOf(mask), 0, drawn.Intn(lastEpoch + 1)}
			for f.node = range c.Domains {
				f.check(t)
				got, ok := f.ask()
				if ok != (isLost(c, f.lost) && slices.Contains(f.lost, f.node)) {
					t.Fatalf("%v: %v", f, ok)
				}
				if ok {
					filled++
					checkFilled(t, f, got)
				}
			}
		}
	}
	if filled < 5000 {
		t.Errorf("only %d were filled", filled)
	}
}

// What those of lost have is drawn anew each time: the answer hangs on none of it, nor on who is filled.
func TestFillWhoever(t *testing.T) {
	t.Parallel()
	drawn := rand.New(rand.NewSource(14))
	bad := badStores()
	for range 3000 {
		c := someConfigs()[drawn.Intn(88)]
		lists := fewLost(c)
		if len(lists) == 0 {
			continue
		}
		f := fillAsk{config: c, stores: drawnStores(drawn, len(c.Domains)), lost: lists[drawn.Intn(len(lists))], upto: drawn.Intn(lastEpoch + 1)}
		f.node = f.lost[0]
		want, ok := f.ask()
		if !ok {
			t.Fatalf("%v is refused", f)
		}
		for _, node := range f.lost {
			for _, other := range f.lost {
				f.stores[other] = drawnStore(drawn)
				if drawn.Intn(2) == 0 {
					f.stores[other] = bad[drawn.Intn(len(bad))]
				}
			}
			f.losing(node, f.lost...).answers(t, want)
		}
	}
}

// What lies on nodes that hold is there, whichever nodes these are: one of them is not lost.
func TestFillHeld(t *testing.T) {
	for _, c := range registerConfigs() {
		e := impl.Entry{At: at(2, 3), Data: "held"}
		for _, held := range heldLists(c) {
			stores := make([]impl.Store, len(c.Domains))
			for _, node := range held {
				stores[node] = storeWith(e)
			}
			for _, lost := range unheldLists(c) {
				for _, node := range lost {
					fillAsk{c, stores, lost, node, 5}.answers(t, impl.Store{Kept: []impl.Entry{e}, Seal: 5})
				}
			}
		}
	}
}

// One node behind the other loses all and is filled: what lay on nodes that hold is never lost.
func TestFillRows(t *testing.T) {
	t.Parallel()
	for seed := range 60 {
		drawn := rand.New(rand.NewSource(int64(seed)))
		c := []impl.Config{conf(2, 0, 0, 1, 2), conf(4, 7, 6, 5, 4, 3, 2, 1, 0), conf(3, 0, 0, 1, 1, 2), conf(2, 0, 1)}[seed%4]
		f := fillAsk{config: c, stores: make([]impl.Store, len(c.Domains))}
		laid := map[int]impl.Entry{}
		for range 80 {
			epoch := 1 + drawn.Intn(5)
			e := impl.Entry{At: at(epoch, 1+drawn.Intn(12)), Wave: drawn.Intn(2) * (epoch + 1 + drawn.Intn(5)), Data: strconv.Itoa(drawn.Intn(1000))}
			nodes, _ := impl.Choose(c, nodesUpTo(len(c.Domains)), drawn.Intn(9))
			for _, node := range nodes {
				f.stores[node] = syncedWith(f.stores[node], e)
			}
			if laid[e.At].Wave <= e.Wave {
				laid[e.At] = e
			}
			lists := fewLost(c)
			f.lost = lists[drawn.Intn(len(lists))]
			for _, node := range f.lost {
				f.stores[node] = impl.Store{}
			}
			for len(f.lost) > 0 {
				f.node = f.lost[drawn.Intn(len(f.lost))]
				f.check(t)
				f.stores[f.node], _ = f.ask()
				f.lost = slices.DeleteFunc(slices.Clone(f.lost), func(n int) bool { return n == f.node })
			}
			checkStillLaid(t, f.stores, laid)
		}
	}
}

func syncedWith(s impl.Store, e impl.Entry) impl.Store {
	s, _ = impl.StorePut(s, e)
	s, _ = impl.StoreSync(s)
	return s
}

// checkStillLaid asks for the wave of each place, and for no other place.
func checkStillLaid(t *testing.T, stores []impl.Store, laid map[int]impl.Entry) {
	t.Helper()
	union := impl.Union(stores)
	for place, e := range laid {
		i := slices.IndexFunc(union, func(u impl.Entry) bool { return u.At == place })
		if i < 0 || union[i].Wave != e.Wave {
			t.Fatalf("%v is lost in %v", e, union)
		}
	}
	if len(union) != len(laid) {
		t.Fatalf("%d places, not %d", len(union), len(laid))
	}
}

// The filled node refuses what is new for epochs up to upto, as the others do that were sealed.
func TestFillSeals(t *testing.T) {
	f := fiveAsk()
	for upto := 0; upto <= lastEpoch; upto++ {
		got, ok := f.upTo(upto).ask()
		if !ok {
			t.Fatalf("up to %d is refused", upto)
		}
		checkSealed(t, got)
		for epoch := upto + 1; epoch <= lastEpoch; epoch++ {
			if _, ok := impl.StorePut(got, impl.Entry{At: at(epoch, 1), Data: "new"}); !ok {
				t.Fatalf("up to %d: epoch %d is refused", upto, epoch)
			}
		}
	}
}

// storesWithRoom lays the stores, and the lists of each, between others, with spare room behind; the wholes are answered too.
func storesWithRoom(list []impl.Store) ([]impl.Store, []impl.Store, [][]impl.Entry) {
	side := slices.Repeat([]impl.Store{{Kept: entriesFrom(3, 2), Seal: 77}}, 9)
	whole := slices.Concat(side[:2], list, side)
	given := whole[2 : 2+len(list)]
	var wholes [][]impl.Entry
	for i, s := range given {
		kept, keptWhole := entriesWithRoom(s.Kept)
		late, lateWhole := entriesWithRoom(s.Late)
		given[i] = impl.Store{Kept: kept, Late: late, Seal: s.Seal}
		wholes = append(wholes, keptWhole, lateWhole)
	}
	return given, whole, wholes
}

// laidFill has each list of a call between others, with spare room behind it.
type laidFill struct {
	given   fillAsk
	stores  []impl.Store
	entries [][]impl.Entry
	lists   [][]int
}

func layFill(f fillAsk) laidFill {
	l := laidFill{given: f, lists: make([][]int, 2)}
	l.given.stores, l.stores, l.entries = storesWithRoom(f.stores)
	l.given.config.Domains, l.lists[0] = numbersWithRoom(f.config.Domains)
	l.given.lost, l.lists[1] = numbersWithRoom(f.lost)
	return l
}

func (l laidFill) clone() laidFill {
	own := laidFill{given: l.given, stores: cloneStores(l.stores), lists: cloneLists(l.lists)}
	for _, list := range l.entries {
		own.entries = append(own.entries, slices.Clone(list))
	}
	return own
}

func (l laidFill) is(other laidFill) bool {
	return slices.EqualFunc(l.stores, other.stores, sameStore) && slices.EqualFunc(l.entries, other.entries, slices.Equal[[]impl.Entry]) && slices.EqualFunc(l.lists, other.lists, slices.Equal[[]int])
}

// spoil writes over all that was given.
func (l laidFill) spoil() {
	for _, list := range l.entries {
		spoilEntries(list)
	}
	for _, list := range l.lists {
		spoilNumbers(list)
	}
	for i := range l.stores {
		l.stores[i] = impl.Store{Seal: -99}
	}
}

// fewFills has calls that answer, of one store and of several, and one that is refused for each reason.
func fewFills() []fillAsk {
	f := fiveAsk()
	list := []fillAsk{f, f.losing(0, 0, 2), f.losing(0, 0), f.losing(1, 1), f.losing(3, 3), f.losing(4, 4)}
	one := fillAsk{conf(2, 0, 0, 1), []impl.Store{{}, {}, storeWith(entriesFrom(0, 7)...)}, []int{0, 1}, 1, 0}
	list = append(list, one, one.store(2, storeWith(entriesFrom(0, mostKept)...)), one.store(2, impl.Store{}), one.store(0, f.stores[1]), one.store(1, impl.Store{Seal: -1}))
	list = append(list, fillAsk{conf(4, 0, 1, 2, 3, 4, 5, 6, 7), spread(8, 25), []int{1, 4, 6}, 4, 30}, fillAsk{conf(2, 1), spread(1, 3), []int{0}, 0, 1})
	list = append(list, fillAsk{conf(2, 0, 1), []impl.Store{storeWith(entriesFrom(5, 3)...), {}}, []int{1}, 1, 1})
	return append(list,
		f.of(conf(5, 0, 1, 0, 2, 3)), f.of(impl.Config{}), f.with(func(f *fillAsk) { f.stores = f.stores[:4] }), f.with(func(f *fillAsk) { f.stores = append(f.stores, impl.Store{}) }),
		f.losing(2, 2, 0), f.losing(2, 1, 2), f.losing(2, 0, 1, 2, 3, 4), f.losing(1, 0, 2), f.losing(-1, 0, 2), f.losing(0), f.store(1, impl.Store{Seal: 31}), f.store(4, storeWith(entriesFrom(0, 201)...)),
		f.upTo(-1), f.upTo(31), f.store(1, storeWith(entriesFrom(0, mostKept)...)).store(3, storeWith(entriesFrom(1, mostKept)...)), fillAsk{},
	)
}

func TestFillFew(t *testing.T) {
	count := 0
	for _, f := range fewFills() {
		f.check(t)
		if _, ok := f.ask(); ok {
			count++
		}
	}
	if count < 10 || len(fewFills())-count < 10 {
		t.Errorf("%d of %d answer", count, len(fewFills()))
	}
}

// The answers are written over too: what they share with an argument, or with the room behind one, would be seen.
func TestFillWritesNothing(t *testing.T) {
	for _, f := range fewFills() {
		laid := layFill(f)
		before := laid.clone()
		look := func(name string) {
			t.Helper()
			if !laid.is(before) {
				t.Fatalf("%s wrote into what it was given, or answers it: %v", name, f)
			}
		}
		want, wantOk := f.want()
		got, ok := laid.given.ask()
		look("Fill")
		if ok != wantOk || !sameStore(got, want) {
			t.Fatalf("%v: %v, %v", f, got, ok)
		}
		spoilStore(got)
		look("Fill")
		union := impl.Union(laid.given.stores)
		look("Union")
		if !slices.Equal(union, unionIs(f.stores)) {
			t.Fatalf("Union of %v: %v", f.stores, union)
		}
		spoilEntries(union)
		look("Union")
		impl.LostOk(laid.given.config, laid.given.lost)
		look("LostOk")
	}
}

// fewUnions has lists of one and of several stores, with nothing in some, and with one that is not right.
func fewUnions() [][]impl.Store {
	lists := [][]impl.Store{nil, {{}}, {{}, {}}, {storeWith(entriesFrom(0, 3)...)}, {{Seal: -1}}, {storeWith(entriesFrom(0, 3)...), {Seal: 31}}, {storeWith(entriesFrom(0, 3)...), {}}, {{}, storeWith(entriesFrom(0, 3)...)}, spread(3, 5), spread(8, mostKept), someStores()}
	for _, f := range fewFills() {
		lists = append(lists, f.stores, f.others())
	}
	return lists
}

func TestUnionWritesNothing(t *testing.T) {
	for _, list := range fewUnions() {
		laid := layFill(fillAsk{stores: list})
		before := laid.clone()
		got := impl.Union(laid.given.stores)
		if !laid.is(before) || !slices.Equal(got, unionIs(list)) {
			t.Fatalf("Union of %s wrote into it, or is %s", shown(list), shown(got))
		}
		spoilEntries(got)
		if !laid.is(before) {
			t.Fatalf("Union of %s answers what it was given", shown(list))
		}
		stays := impl.Union(laid.given.stores)
		laid.spoil()
		if !slices.Equal(stays, unionIs(list)) {
			t.Fatalf("Union of %s became %s", shown(list), shown(stays))
		}
	}
}

// The standing answer is looked at ahead of a third call: that one would write over what is kept.
func TestUnionSharesNothing(t *testing.T) {
	for _, list := range fewUnions() {
		one, two := impl.Union(list), impl.Union(list)
		spoilEntries(one)
		if !slices.Equal(two, unionIs(list)) {
			t.Fatalf("two answers of Union of %s share memory", shown(list))
		}
		checkUnion(t, list)
	}
}

func TestFillSharesNothing(t *testing.T) {
	for _, f := range fewFills() {
		want, _ := f.want()
		one, _ := f.ask()
		two, _ := f.ask()
		union := impl.Union(f.others())
		spoilStore(one)
		spoilEntries(union)
		if !sameStore(two, want) {
			t.Fatalf("two answers of %v share memory", f)
		}
		late := slices.Clone(two.Late)
		spoilEntries(two.Kept)
		if !slices.Equal(two.Late, late) {
			t.Fatalf("%v: the two lists share memory", f)
		}
		two, _ = f.ask()
		kept := slices.Clone(two.Kept)
		spoilEntries(two.Late)
		if !slices.Equal(two.Kept, kept) {
			t.Fatalf("%v: the two lists share memory", f)
		}
		f.check(t)
	}
}

// An answer stays as it was told, whatever is done to the arguments afterwards; where it is refused too.
func TestFillAnswerStays(t *testing.T) {
	for _, f := range fewFills() {
		want, wantOk := f.want()
		laid := layFill(f)
		got, ok := laid.given.ask()
		laid.spoil()
		fiveAsk().ask()
		if ok != wantOk || !sameStore(got, want) {
			t.Fatalf("%v became %v", f, got)
		}
	}
}

// Two nodes are filled by one store, and go their own ways.
func TestFillForked(t *testing.T) {
	f := fillAsk{conf(2, 0, 0, 1), []impl.Store{{}, {}, storeWith(entriesFrom(0, 7)...)}, []int{0, 1}, 0, 0}
	one, _ := f.ask()
	two, _ := f.losing(1, 0, 1).ask()
	one = syncedWith(one, impl.Entry{At: at(3, 1), Data: "one"})
	two = syncedWith(two, impl.Entry{At: at(3, 1), Data: "two"})
	if one.Kept[7].Data != "one" || two.Kept[7].Data != "two" || len(f.stores[2].Kept) != 7 {
		t.Errorf("%v, %v", one, two)
	}
	f.answers(t, storeWith(entriesFrom(0, 7)...))
}

// One memory may be the domains and the nodes that are lost, and the entries of every store.
func TestFillOneMemory(t *testing.T) {
	same, all := []int{0, 1, 2, 3}, entriesFrom(58, 12)
	for _, cut := range [][6]int{{0, 12, 0, 12, 0, 12}, {0, 4, 4, 8, 8, 12}, {8, 12, 4, 8, 0, 4}, {0, 7, 5, 12, 2, 9}, {0, 0, 0, 12, 12, 12}} {
		own := slices.Clone(all)
		stores := []impl.Store{{}, {Kept: own[cut[0]:cut[1]], Late: own}, {Kept: own[cut[2]:cut[3]]}, {Kept: own[cut[4]:cut[5]]}}
		for size := range same {
			f := fillAsk{impl.Config{Domains: same, Copies: 3}, stores, same[:size], 0, 3}
			want, wantOk := f.want()
			got, ok := f.ask()
			if ok != wantOk || !sameStore(got, want) {
				t.Fatalf("%v of one memory: %v, %v", f, got, ok)
			}
			spoilStore(got)
			spoilEntries(impl.Union(stores))
			if !slices.Equal(own, all) || !slices.Equal(same, []int{0, 1, 2, 3}) {
				t.Fatalf("%v wrote into it", f)
			}
		}
	}
}

// Nothing is kept from call to call: an answer is the same whatever was asked ahead of it.
func TestFillAgain(t *testing.T) {
	fills, unions := fewFills(), fewUnions()
	for seed := range 3 {
		drawn := rand.New(rand.NewSource(int64(seed)))
		for _, i := range drawn.Perm(len(fills)) {
			fills[i].check(t)
			checkUnion(t, unions[drawn.Intn(len(unions))])
			checkLost(t, fills[i].config, fills[i].lost, isLost(fills[i].config, fills[i].lost))
		}
	}
}
