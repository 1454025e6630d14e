package tests

import (
	"math"
	"math/rand"
	"reflect"
	"slices"
	"strconv"
	"strings"
	"testing"

	"loop.example/g00178/impl"
)

// The document's numbers, written out here so that changed constants are seen.
const (
	mostWriters = 4
	mostSent    = 120
)

// isWorld is what WorldOk must answer, by a model of the tests' own.
func isWorld(w impl.World) bool {
	c := w.Config
	if !isConfig(c) || len(w.Stores) != len(c.Domains) || !areNodes(c, w.Lost) || !isRegister(c, w.Register) || isHeld(c, w.Lost) && !w.Torn {
		return false
	}
	for node, s := range w.Stores {
		if !isStore(s) || slices.Contains(w.Lost, node) && (len(s.Kept) > 0 || len(s.Late) > 0 || s.Seal != 0) {
			return false
		}
	}
	return areWriters(w) && areMends(w) && areSent(w) && len(w.Readers) == 2 && isReader(w.Readers[0]) && isReader(w.Readers[1])
}

func areWriters(w impl.World) bool {
	last := 0
	for _, x := range w.Writers {
		if !isWriter(w.Config, x) || x.Epoch <= last || x.Epoch > len(w.Register.Eras) {
			return false
		}
		last = x.Epoch
	}
	return len(w.Writers) <= mostWriters
}

func areMends(w impl.World) bool {
	if len(w.Mends) == 0 {
		return true
	}
	m := w.Mends[0]
	return len(w.Mends) == 1 && isMend(w.Config, m) && m.By == len(w.Register.Eras) && m.Epoch == firstOpenIs(w.Register)
}

func areSent(w impl.World) bool {
	last := 0
	for _, s := range w.Sent {
		epoch, off := s.At/epochStep, s.At%epochStep
		if s.At <= last || epoch < 1 || epoch > len(w.Register.Eras) || off < 1 || off > lastOff || len(s.Data) > mostData {
			return false
		}
		last = s.At
	}
	return len(w.Sent) <= mostSent
}

// sureOfIs is what SureOf must answer.
func sureOfIs(w impl.World, epoch int) int {
	at := slices.IndexFunc(w.Writers, func(x impl.Writer) bool { return x.Epoch == epoch })
	if at < 0 {
		return 0
	}
	return sureIs(w.Writers[at])
}

// holdersAre is what HoldersOf must answer.
func holdersAre(w impl.World, place int) []int {
	var nodes []int
	if !isWorld(w) {
		return nodes
	}
	for node, s := range w.Stores {
		if slices.ContainsFunc(s.Kept, func(e impl.Entry) bool { return e.At == place }) {
			nodes = append(nodes, node)
		}
	}
	return nodes
}

// deepCopy goes into all lists; one that is nil stays so.
func deepCopy[T any](x T) T {
	var own T
	copyInto(reflect.ValueOf(&own).Elem(), reflect.ValueOf(&x).Elem())
	return own
}

func copyInto(to reflect.Value, from reflect.Value) {
	switch {
	case from.Kind() == reflect.Struct:
		for i := range from.NumField() {
			copyInto(to.Field(i), from.Field(i))
		}
	case from.Kind() == reflect.Slice && !from.IsNil():
		to.Set(reflect.MakeSlice(from.Type(), from.Len(), from.Len()))
		for i := range from.Len() {
			copyInto(to.Index(i), from.Index(i))
		}
	default:
		to.Set(from)
	}
}

func sameConfig(a impl.Config, b impl.Config) bool {
	return a.Copies == b.Copies && slices.Equal(a.Domains, b.Domains)
}

func sameWorld(a impl.World, b impl.World) bool {
	return sameConfig(a.Config, b.Config) && slices.EqualFunc(a.Stores, b.Stores, sameStore) && slices.Equal(a.Lost, b.Lost) && sameRegister(a.Register, b.Register) &&
		slices.EqualFunc(a.Writers, b.Writers, sameWriter) && slices.EqualFunc(a.Mends, b.Mends, sameMend) && slices.EqualFunc(a.Readers, b.Readers, sameReader) && slices.Equal(a.Sent, b.Sent) && a.Torn == b.Torn
}

// changedWorld is w with something else.
func changedWorld(w impl.World, change func(*impl.World)) impl.World {
	own := deepCopy(w)
	change(&own)
	return own
}

// emptyWorld is what WorldNew must answer, of a config that is right.
func emptyWorld(c impl.Config) impl.World {
	return deepCopy(impl.World{Config: c, Stores: make([]impl.Store, len(c.Domains)), Readers: []impl.Reader{{Epoch: 1, Off: 1}, {Epoch: 1, Off: 1}}})
}

// fiveWorld is right, and has some of everything: the two nodes of the first domain are lost, two epochs are closed, and the last one of three mends the first of them.
func fiveWorld() impl.World {
	c := conf(2, 0, 1, 0, 2, 3)
	return deepCopy(impl.World{
		Config: c,
		Stores: []impl.Store{
			{},
			{Kept: []impl.Entry{{At: at(1, 1), Data: "a"}, {At: at(1, 2), Data: "b"}, {At: at(3, 1), Data: "c"}}, Late: []impl.Entry{{At: at(4, 1), Data: "late"}, {At: at(1, 1), Wave: 5, Data: "late too"}}, Seal: 2},
			{},
			{Kept: []impl.Entry{{At: at(1, 1), Wave: 2, Data: "a"}, {At: at(3, 1), Data: "c"}, {At: at(5, 60), Data: "far"}}},
			{Kept: []impl.Entry{{At: at(1, 2), Wave: 3, Hole: true}, {At: at(3, 1), Data: "c"}, {At: at(3, 3), Data: "d"}}, Seal: 4},
		},
		Lost:     []int{0, 2},
		Register: impl.Register{Eras: []impl.Era{closedEra(2, 1, 3, 4), closedEra(0, 0, 1), openEra(1, 3, 4), openEra(0, 1, 2, 3, 4), openEra(1, 4)}, Trim: at(1, 1)},
		Writers:  []impl.Writer{writerOf(c, 3, "ddodo"), writerOf(c, 4, "o"), writerOf(c, 5, "")},
		Mends:    []impl.Mend{sealedMend(3, 5, "d.w", 4)},
		Readers:  []impl.Reader{readerAt(1, 1, 0), readerAt(3, 2, 4)},
		Sent:     []impl.Sent{{At: at(1, 1), Data: "a", Sure: true}, {At: at(1, 2), Data: "b"}, {At: at(3, 1), Data: "c", Sure: true}, {At: at(3, 3), Data: "d"}, {At: at(4, 1)}},
	})
}

// mostWorld has of everything as much as there can be.
func mostWorld() impl.World {
	c := conf(4, 0, 1, 2, 3, 4, 5, 6, 7)
	w := impl.World{Config: c, Register: registerOf(c, lastEpoch, 27, at(30, 60)), Readers: []impl.Reader{readerAt(31, 61, mostOut), readerAt(31, 61, mostOut)}, Torn: true}
	for node := range c.Domains {
		w.Stores = append(w.Stores, impl.Store{Kept: entriesBy(node, 9, mostKept), Late: entriesFrom(node, mostLate), Seal: lastEpoch})
	}
	for epoch := 27; epoch <= lastEpoch; epoch++ {
		w.Writers = append(w.Writers, writerOf(c, epoch, doneRow(lastOff, 1, 12, 23, 34, 45, 60)))
	}
	w.Mends = []impl.Mend{writtenMend(28, lastEpoch, longRow(lastOff), nodesUpTo(8), heldLists(c))}
	w.Sent = sentUpTo(lastEpoch, mostSent)
	return w
}

// sentUpTo has so many, the last one at the last offset of that epoch.
func sentUpTo(epoch int, size int) []impl.Sent {
	var list []impl.Sent
	for n := epoch*lastOff - size; n < epoch*lastOff; n++ {
		list = append(list, impl.Sent{At: nthEntry(n).At, Data: strings.Repeat("s", mostData-n%3), Sure: n%2 == 0})
	}
	return list
}

// worldOf is right: of so many epochs, so many of them closed; with some of everything that there can be.
func worldOf(c impl.Config, size int, closed int) impl.World {
	w := impl.World{Config: c, Stores: spread(len(c.Domains), 7), Register: registerOf(c, size, closed, 0), Readers: []impl.Reader{readerAt(1, 1, 0), readerAt(1+size, 2, 5)}}
	for epoch := max(1, size-3); epoch <= size; epoch++ {
		w.Writers = append(w.Writers, writerOf(c, epoch, []string{"", "do", "ddo", "oooooo"}[epoch%4]))
	}
	if size-closed >= 2 {
		w.Mends = []impl.Mend{sealedMend(closed+1, size, "d.dd", 0)}
	}
	for epoch := 1; epoch <= size; epoch++ {
		w.Sent = append(w.Sent, impl.Sent{At: at(epoch, 1), Data: strconv.Itoa(epoch), Sure: epoch%2 == 0}, impl.Sent{At: at(epoch, lastOff), Data: "last"})
	}
	return deepCopy(w)
}

// someWorlds has worlds that are right.
func someWorlds() []impl.World {
	list := []impl.World{fiveWorld(), mostWorld()}
	for _, c := range registerConfigs() {
		list = append(list, emptyWorld(c), worldOf(c, 0, 0), worldOf(c, 1, 0), worldOf(c, 2, 0), worldOf(c, 2, 1), worldOf(c, 5, 2), worldOf(c, lastEpoch, 0), worldOf(c, lastEpoch, 29))
	}
	for _, c := range unheldConfigs() {
		list = append(list, emptyWorld(c), worldOf(c, 0, 0), changedWorld(emptyWorld(c), func(w *impl.World) { w.Lost = nodesUpTo(len(c.Domains)) }))
	}
	return append(list, changedWorld(fiveWorld(), func(w *impl.World) { w.Torn = true }), changedWorld(fiveWorld(), func(w *impl.World) { w.Mends = nil }), changedWorld(fiveWorld(), func(w *impl.World) { w.Mends[0] = plannedMend(3, 5, "d.w", []int{1, 4}, []int{1}, nil, []int{1, 3}) }))
}

// worldBreak makes a world wrong that is right, as fiveWorld is. Those of different parts do not touch each other.
type worldBreak struct {
	part   string
	name   string
	change func(*impl.World)
}

// worldBreaks has one for each condition of the chapter, and both sides of some.
func worldBreaks() []worldBreak {
	return []worldBreak{
		{"config", "copies", func(w *impl.World) { w.Config.Copies = 5 }},
		{"config", "domain", func(w *impl.World) { w.Config.Domains[4] = 8 }},
		{"stores", "one less", func(w *impl.World) { w.Stores = w.Stores[:4] }},
		{"stores", "one more", func(w *impl.World) { w.Stores = append(w.Stores, impl.Store{}) }},
		{"stores", "order", func(w *impl.World) { w.Stores[3].Kept = reversed(w.Stores[3].Kept) }},
		{"stores", "seal", func(w *impl.World) { w.Stores[4].Seal = lastEpoch + 1 }},
		{"lost", "descends", func(w *impl.World) { w.Lost = []int{2, 0} }},
		{"lost", "twice", func(w *impl.World) { w.Lost = []int{0, 0} }},
		{"lost", "below", func(w *impl.World) { w.Lost = []int{-1, 0} }},
		{"lost", "beyond", func(w *impl.World) { w.Lost = []int{0, 5} }},
		{"lost", "kept", func(w *impl.World) { w.Stores[0].Kept = entriesFrom(0, 1) }},
		{"lost", "late", func(w *impl.World) { w.Stores[2].Late = entriesFrom(0, 1) }},
		{"lost", "sealed", func(w *impl.World) { w.Stores[2].Seal = 1 }},
		{"lost", "not torn", func(w *impl.World) { w.Lost, w.Stores[1] = []int{0, 1, 2}, impl.Store{} }},
		{"register", "last", func(w *impl.World) { w.Register.Eras[1].Last = lastOff + 1 }},
		{"register", "order", func(w *impl.World) { w.Register.Eras[3].Closed = true }},
		{"register", "trim", func(w *impl.World) { w.Register.Trim = at(6, 1) }},
		{"writers", "too many", func(w *impl.World) {
			w.Writers = []impl.Writer{{Epoch: 1}, {Epoch: 2}, {Epoch: 3}, {Epoch: 4}, {Epoch: 5}}
		}},
		{"writers", "descend", func(w *impl.World) { slices.Reverse(w.Writers) }},
		{"writers", "twice", func(w *impl.World) { w.Writers[0].Epoch = 4 }},
		{"writers", "one", func(w *impl.World) { w.Writers[1].Words[0].Done = true }},
		{"writers", "beyond", func(w *impl.World) { w.Writers[2].Epoch = 6 }},
		{"mends", "two", func(w *impl.World) { w.Mends = append(w.Mends, w.Mends[0]) }},
		{"mends", "one", func(w *impl.World) { w.Mends[0].Sealed = []int{5} }},
		{"mends", "by", func(w *impl.World) { w.Mends[0].By = 6 }},
		{"mends", "later", func(w *impl.World) { w.Mends[0] = impl.MendNew(4, 5) }},
		{"mends", "elder", func(w *impl.World) { w.Mends[0] = impl.MendNew(2, 5) }},
		{"readers", "one", func(w *impl.World) { w.Readers = w.Readers[:1] }},
		{"readers", "three", func(w *impl.World) { w.Readers = append(w.Readers, impl.ReaderNew()) }},
		{"readers", "off", func(w *impl.World) { w.Readers[1].Off = 0 }},
		{"sent", "too much", func(w *impl.World) { w.Sent = sentUpTo(5, mostSent+1) }},
		{"sent", "descends", func(w *impl.World) { w.Sent[0], w.Sent[1] = w.Sent[1], w.Sent[0] }},
		{"sent", "twice", func(w *impl.World) { w.Sent[1].At = w.Sent[2].At }},
		{"sent", "nowhere", func(w *impl.World) { w.Sent[0].At = at(1, 0) }},
		{"sent", "beyond", func(w *impl.World) { w.Sent[4].At = at(6, 1) }},
		{"sent", "data", func(w *impl.World) { w.Sent[2].Data = strings.Repeat("x", mostData+1) }},
	}
}

func badWorlds() []impl.World {
	list := []impl.World{{}, {Readers: []impl.Reader{impl.ReaderNew(), impl.ReaderNew()}}, {Config: conf(1, 0)}}
	for _, wrong := range worldBreaks() {
		list = append(list, changedWorld(fiveWorld(), wrong.change))
	}
	return list
}

func checkWorldOk(t *testing.T, w impl.World, want bool) {
	t.Helper()
	if impl.WorldOk(w) != want || isWorld(w) != want {
		t.Fatalf("WorldOk(%s) is not %v, but %v; the model says %v", shown(w), want, impl.WorldOk(w), isWorld(w))
	}
}

// checkWithWorld asks for one change of fiveWorld alone.
func checkWithWorld(t *testing.T, want bool, change func(*impl.World)) {
	t.Helper()
	checkWorldOk(t, changedWorld(fiveWorld(), change), want)
}

func TestWorldLimits(t *testing.T) {
	if impl.MaxWriters != mostWriters || impl.MaxSent != mostSent {
		t.Errorf("MaxWriters is %d, MaxSent %d", impl.MaxWriters, impl.MaxSent)
	}
}

func TestWorldOkKnown(t *testing.T) {
	checkWorldOk(t, impl.World{}, false)
	checkWorldOk(t, impl.World{Torn: true}, false)
	for _, w := range someWorlds() {
		checkWorldOk(t, w, true)
	}
	for _, w := range badWorlds() {
		checkWorldOk(t, w, false)
	}
}

func TestWorldOkEachAlone(t *testing.T) {
	for _, wrong := range worldBreaks() {
		if w := changedWorld(fiveWorld(), wrong.change); impl.WorldOk(w) || isWorld(w) {
			t.Errorf("%s: %v is taken", wrong.name, w)
		}
	}
}

// Several conditions that are broken at once are no better than one.
func TestWorldOkTogether(t *testing.T) {
	breaks := worldBreaks()
	for i, one := range breaks {
		for _, two := range breaks[i+1:] {
			if one.part != two.part {
				checkWithWorld(t, false, func(w *impl.World) { one.change(w); two.change(w) })
			}
		}
	}
	drawn := rand.New(rand.NewSource(1))
	for range 2000 {
		w, parts := fiveWorld(), map[string]bool{}
		for _, i := range drawn.Perm(len(breaks))[:1+drawn.Intn(12)] {
			if !parts[breaks[i].part] {
				breaks[i].change(&w)
			}
			parts[breaks[i].part] = true
		}
		checkWorldOk(t, w, false)
	}
}

// worldOfStores is a new world, in which the nodes have these.
func worldOfStores(c impl.Config, stores []impl.Store) impl.World {
	w := emptyWorld(c)
	w.Stores = cloneStores(stores)
	return w
}

func TestWorldOkConfig(t *testing.T) {
	for _, c := range append(someConfigs(), smallConfigs()...) {
		checkWorldOk(t, emptyWorld(c), true)
	}
	for _, c := range badConfigs() {
		checkWorldOk(t, emptyWorld(c), false)
		checkWithWorld(t, false, func(w *impl.World) { w.Config = c })
		checkWorldOk(t, changedWorld(emptyWorld(c), func(w *impl.World) { w.Stores = nil }), false)
	}
	for _, copies := range []int{math.MinInt, -1, 0, 1, 2, 3, 4, 5, 6, 1<<32 + 2, math.MaxInt} {
		checkWorldOk(t, emptyWorld(conf(copies, 0, 1, 2, 3, 4)), copies >= 1 && copies <= mostCopies)
	}
	for node := range 5 {
		for _, domain := range []int{math.MinInt, -1, 0, 7, 8, 1 << 32, math.MaxInt} {
			w := emptyWorld(conf(2, 0, 1, 0, 2, 3))
			w.Config.Domains[node] = domain
			checkWorldOk(t, w, domain == 0 || domain == lastDomain)
		}
	}
	for size := range 12 {
		checkWorldOk(t, emptyWorld(conf(2, make([]int, size)...)), size >= 1 && size <= mostNodes)
	}
}

// What is there is asked by the config: with other Copies or domains the same world need not be right.
func TestWorldOkOtherConfig(t *testing.T) {
	for _, copies := range []int{1, 3, 4} {
		checkWithWorld(t, false, func(w *impl.World) { w.Config.Copies = copies })
	}
	checkWithWorld(t, false, func(w *impl.World) { w.Config.Domains[2], w.Writers = 4, nil })
	checkWithWorld(t, true, func(w *impl.World) { w.Config.Domains[2], w.Writers, w.Torn = 4, nil, true })
	checkWithWorld(t, false, func(w *impl.World) { w.Config.Domains[4] = 1 })
}

func TestWorldOkStoreCount(t *testing.T) {
	for size := range 12 {
		checkWithWorld(t, size == 5, func(w *impl.World) { w.Stores = append(w.Stores, make([]impl.Store, 9)...)[:size] })
		for nodes := 1; nodes <= mostNodes; nodes++ {
			c := conf(2, nodesUpTo(nodes)...)
			checkWorldOk(t, worldOfStores(c, make([]impl.Store, size)), size == nodes)
			// Those that are lost are counted too.
			w := worldOfStores(c, make([]impl.Store, size))
			w.Lost, w.Torn = nodesUpTo(nodes), true
			checkWorldOk(t, w, size == nodes)
			w.Lost = []int{nodes - 1}
			checkWorldOk(t, w, size == nodes)
		}
	}
	checkWithWorld(t, false, func(w *impl.World) { w.Stores = make([]impl.Store, 70000) })
	checkWithWorld(t, false, func(w *impl.World) { w.Stores = []impl.Store{} })
}

// Each way in which a store is not right, at the first, a middle and the last node.
func TestWorldOkBadStore(t *testing.T) {
	for _, bad := range badStores() {
		for node := range 5 {
			checkWithWorld(t, false, func(w *impl.World) { w.Stores[node] = bad })
			w := emptyWorld(conf(2, 0, 1, 0, 2, 3))
			w.Stores[node] = bad
			checkWorldOk(t, w, false)
		}
		w := emptyWorld(conf(1, 3))
		w.Stores[0] = bad
		checkWorldOk(t, w, false)
	}
	for _, s := range someStores() {
		for node := range 5 {
			lost := node == 0 || node == 2
			checkWithWorld(t, !lost || sameStore(s, impl.Store{}), func(w *impl.World) { w.Stores[node] = s })
			w := emptyWorld(conf(2, 0, 1, 0, 2, 3))
			w.Stores[node] = s
			checkWorldOk(t, w, true)
		}
	}
	full := impl.Store{Kept: entriesFrom(0, mostKept), Late: entriesFrom(0, mostLate), Seal: lastEpoch}
	for node := range mostNodes {
		w := worldOfStores(conf(4, 0, 1, 2, 3, 4, 5, 6, 7), slices.Repeat([]impl.Store{full}, mostNodes))
		checkWorldOk(t, w, true)
		checkWorldOk(t, changedWorld(w, func(w *impl.World) { w.Stores[node].Kept = entriesFrom(0, mostKept+1) }), false)
		checkWorldOk(t, changedWorld(w, func(w *impl.World) { w.Stores[node].Late = entriesFrom(0, mostLate+1) }), false)
		checkWorldOk(t, changedWorld(w, func(w *impl.World) { w.Stores[node].Seal++ }), false)
	}
}

// Lists that are not of nodes are refused in a torn world too.
func TestWorldOkLostNodes(t *testing.T) {
	for _, c := range append(someConfigs(), unheldConfigs()...) {
		for _, lost := range slices.Concat(badLists(), wrongNodes(c)) {
			for _, torn := range []bool{false, true} {
				w := emptyWorld(c)
				w.Lost, w.Torn = lost, torn
				checkWorldOk(t, w, areNodes(c, lost) && (torn || !isHeld(c, lost)))
			}
		}
	}
	for _, lost := range [][]int{{2, 0}, {0, 0}, {2, 2}, {0, 2, 2}, {-1}, {-1, 0}, {-1, 0, 2}, {5}, {0, 5}, {0, 2, 5}, {0, 2, 8}, {0, -1}, {0, 2, 1}, {math.MinInt, 0}, {0, math.MaxInt}, {0, 1 << 32}, nodesUpTo(70000), make([]int, 70000)} {
		checkWithWorld(t, false, func(w *impl.World) { w.Lost = lost })
		checkWithWorld(t, false, func(w *impl.World) { w.Lost, w.Torn = lost, true })
	}
	for _, lost := range [][]int{nil, {}, {0}, {2}, {0, 2}} {
		checkWithWorld(t, true, func(w *impl.World) { w.Lost = lost })
	}
}

// A node that is lost has nothing at all: neither what lasts, nor what came, nor a seal.
func TestWorldOkLostStore(t *testing.T) {
	c := conf(3, 0, 1, 0, 1, 2, 3)
	some := []impl.Store{storeWith(nthEntry(0)), storeWith(nthEntry(1799)), {Late: entriesFrom(0, 1)}, {Late: entriesFrom(0, mostLate)}, {Seal: 1}, {Seal: lastEpoch}, {Kept: entriesFrom(0, mostKept)}, {Kept: entriesFrom(0, 2), Late: entriesFrom(0, 2), Seal: 2}}
	for mask := range 1 << len(c.Domains) {
		for node := range c.Domains {
			for _, s := range some {
				w := emptyWorld(c)
				w.Lost, w.Torn, w.Stores[node] = nodesOf(mask), true, s
				checkWorldOk(t, w, mask>>node&1 == 0)
				w.Torn = false
				checkWorldOk(t, w, mask>>node&1 == 0 && !isHeld(c, w.Lost))
			}
		}
	}
	// An empty list is no list, whatever room it has.
	for _, empty := range []impl.Store{{Kept: []impl.Entry{}}, {Late: []impl.Entry{}}, {Kept: entriesFrom(0, 3)[:0], Late: entriesFrom(0, 3)[:0]}} {
		checkWithWorld(t, true, func(w *impl.World) { w.Stores[0], w.Stores[2] = empty, empty })
	}
}

// Where those that are lost hold, a world is torn; it may be so where they do not, too.
func TestWorldOkTorn(t *testing.T) {
	for _, c := range slices.Concat(someConfigs(), smallConfigs(), unheldConfigs()) {
		for mask := range 1 << len(c.Domains) {
			w := emptyWorld(c)
			w.Lost = nodesOf(mask)
			checkWorldOk(t, w, !isHeld(c, w.Lost))
			w.Torn = true
			checkWorldOk(t, w, true)
		}
	}
	for copies := 1; copies <= mostCopies; copies++ {
		w := emptyWorld(conf(copies, 0, 1, 2, 3, 4, 5, 6, 7))
		w.Lost = nodesUpTo(copies)
		checkWorldOk(t, w, false)
		w.Lost = nodesUpTo(copies - 1)
		checkWorldOk(t, w, true)
		w = emptyWorld(conf(copies, 0, 0, 1, 1, 2, 2, 3, 3))
		w.Lost = nodesUpTo(2*copies - 1)
		checkWorldOk(t, w, false)
		w.Lost = nodesUpTo(2*copies - 2)
		checkWorldOk(t, w, true)
	}
	checkWithWorld(t, true, func(w *impl.World) { w.Torn = true })
	checkWithWorld(t, false, func(w *impl.World) { w.Lost, w.Stores[1] = []int{0, 1}, impl.Store{} })
	checkWithWorld(t, true, func(w *impl.World) { w.Lost, w.Stores[1], w.Torn = []int{0, 1}, impl.Store{}, true })
	checkWithWorld(t, true, func(w *impl.World) { w.Lost, w.Stores, w.Torn = nodesUpTo(5), make([]impl.Store, 5), true })
	checkWithWorld(t, false, func(w *impl.World) { w.Lost, w.Stores = nodesUpTo(5), make([]impl.Store, 5) })
}

func TestWorldOkRegister(t *testing.T) {
	for _, c := range registerConfigs() {
		w := emptyWorld(c)
		for _, w.Register = range someRegisters(c) {
			checkWorldOk(t, w, true)
		}
		for _, w.Register = range badRegisters(c) {
			checkWorldOk(t, w, false)
		}
	}
	for _, bad := range badRegisters(fiveWorld().Config) {
		checkWithWorld(t, false, func(w *impl.World) { w.Register = bad })
	}
	for _, c := range unheldConfigs() {
		w := emptyWorld(c)
		w.Register.Eras = []impl.Era{openEra(nodesUpTo(len(c.Domains))...)}
		checkWorldOk(t, w, false)
	}
}

// The register may be right, and yet not one that the others can be of.
func TestWorldOkOtherRegister(t *testing.T) {
	checkWithWorld(t, false, func(w *impl.World) { w.Register = impl.Register{} })
	checkWithWorld(t, false, func(w *impl.World) { w.Register.Eras = w.Register.Eras[:4] })
	checkWithWorld(t, false, func(w *impl.World) { w.Register.Eras = append(w.Register.Eras, openEra(1, 4)) })
	checkWithWorld(t, false, func(w *impl.World) { w.Register.Eras[2].Closed = true })
	checkWithWorld(t, false, func(w *impl.World) { w.Register.Eras[1].Closed = false })
	checkWithWorld(t, true, func(w *impl.World) { w.Register.Eras, w.Mends = append(w.Register.Eras, openEra(1, 4)), nil })
	checkWithWorld(t, true, func(w *impl.World) { w.Register.Eras[2].Closed, w.Mends = true, nil })
	checkWithWorld(t, true, func(w *impl.World) { w.Register.Trim = at(5, 60) })
}

// writersOf is right, of these epochs.
func writersOf(c impl.Config, epochs ...int) []impl.Writer {
	var list []impl.Writer
	for i, epoch := range epochs {
		list = append(list, writerOf(c, epoch, []string{"do", "", "ddo", "oooooo", "d"}[i%5]))
	}
	return list
}

func TestWorldOkWriterCount(t *testing.T) {
	for _, c := range registerConfigs() {
		for size := range mostWriters + 3 {
			w := worldOfMend(c, lastEpoch, 3)
			w.Writers = writersOf(c, nodesUpTo(size + 1)[1:]...)
			checkWorldOk(t, w, size <= mostWriters)
			w.Writers = writersOf(c, nodesUpTo(lastEpoch + 1)[lastEpoch+1-size:]...)
			checkWorldOk(t, w, size <= mostWriters)
		}
	}
	checkWithWorld(t, true, func(w *impl.World) { w.Writers = nil })
	checkWithWorld(t, true, func(w *impl.World) { w.Writers = []impl.Writer{} })
	checkWithWorld(t, true, func(w *impl.World) { w.Writers = writersOf(w.Config, 1, 2, 3, 4) })
	checkWithWorld(t, false, func(w *impl.World) { w.Writers = writersOf(w.Config, 1, 2, 3, 4, 5) })
	checkWithWorld(t, false, func(w *impl.World) { w.Writers = make([]impl.Writer, 70000) })
}

// Every row of up to four epochs: just those that ascend, and are there, are right.
func TestWorldOkWriterOrder(t *testing.T) {
	c := conf(1, 5)
	for size := range mostWriters + 1 {
		for _, row := range rowsOfWaves(size, []int{0, 1, 2, 3, 4}) {
			w := emptyWorld(c)
			w.Register = registerOf(c, 3, 1, 0)
			w.Writers = writersOf(c, row...)
			right := true
			for i, epoch := range row {
				right = right && epoch >= 1 && epoch <= 3 && (i == 0 || row[i-1] < epoch)
			}
			checkWorldOk(t, w, right)
		}
	}
	for _, row := range [][]int{{5, 4, 3}, {3, 5, 4}, {4, 3, 5}, {3, 3, 5}, {3, 5, 5}, {3, 4, 3}, {5, 5}, {1, 2, 4, 4}, {1, 3, 2, 4}, {4, 3, 2, 1}} {
		checkWithWorld(t, false, func(w *impl.World) { w.Writers = writersOf(w.Config, row...) })
	}
}

// Each way in which a writer is not right, as the first, a middle and the last one.
func TestWorldOkBadWriter(t *testing.T) {
	t.Parallel()
	for _, c := range writerConfigs() {
		w := emptyWorld(c)
		w.Register = registerOf(c, lastEpoch, 3, 0)
		for _, bad := range badWriters(c) {
			w.Writers = []impl.Writer{bad}
			checkWorldOk(t, w, false)
			for i, row := range [][]int{{3, 4, 5, 6}, {2, 3, 4, 5}, {1, 2, 3, 4}, {0, 1, 2, 3}} {
				w.Writers = writersOf(c, row...)
				w.Writers[i] = bad
				checkWorldOk(t, w, false)
			}
		}
		for _, right := range someWriters(c) {
			w.Writers = []impl.Writer{right}
			checkWorldOk(t, w, true)
		}
	}
}

// A writer may be of any epoch that is there, one that is Closed too.
func TestWorldOkWriterEpoch(t *testing.T) {
	for _, c := range registerConfigs() {
		for _, size := range []int{0, 1, 2, 5, lastEpoch} {
			w := emptyWorld(c)
			w.Register = registerOf(c, size, size/2, 0)
			for _, epoch := range append(wrongNumbers(), 0, 1, 2, 3, 4, 5, 6, 29, 30, 31, size, size+1) {
				w.Writers = []impl.Writer{{Epoch: epoch, Words: []impl.Word{openWord("x")}}}
				checkWorldOk(t, w, epoch >= 1 && epoch <= size)
				w.Writers[0].Words = nil
				checkWorldOk(t, w, epoch >= 1 && epoch <= size)
			}
		}
	}
}

// worldOfMend is a new world, in which the last one of so many epochs is behind so many that are closed.
func worldOfMend(c impl.Config, size int, closed int, mends ...impl.Mend) impl.World {
	w := emptyWorld(c)
	w.Register = registerOf(c, size, closed, 0)
	w.Mends = mends
	return w
}

// By is the last epoch, and Epoch the first that is open: neither an elder nor a later one.
func TestWorldOkMendEpochs(t *testing.T) {
	for _, c := range registerConfigs() {
		for _, size := range []int{0, 1, 2, 3, 6, lastEpoch} {
			for closed := range max(size, 1) {
				w := worldOfMend(c, size, closed)
				checkWorldOk(t, w, true)
				for epoch := -1; epoch <= size+2; epoch++ {
					for by := max(-1, size-3); by <= size+2; by++ {
						w.Mends = []impl.Mend{impl.MendNew(epoch, by)}
						checkWorldOk(t, w, epoch == closed+1 && by == size && size-closed >= 2)
					}
				}
			}
		}
	}
	for _, wrong := range wrongNumbers() {
		checkWithWorld(t, false, func(w *impl.World) { w.Mends[0].By = wrong })
		checkWithWorld(t, false, func(w *impl.World) { w.Mends[0].Epoch = wrong })
	}
}

// Where no epoch is open but the last one, or none at all, there is nothing to mend.
func TestWorldOkNothingToMend(t *testing.T) {
	c := conf(2, 0, 0, 1, 2)
	for epoch := -1; epoch <= 3; epoch++ {
		for by := -1; by <= 4; by++ {
			checkWorldOk(t, worldOfMend(c, 0, 0, impl.MendNew(epoch, by)), false)
			checkWorldOk(t, worldOfMend(c, 1, 0, impl.MendNew(epoch, by)), false)
			checkWorldOk(t, worldOfMend(c, 3, 2, impl.MendNew(epoch, by)), false)
			checkWorldOk(t, worldOfMend(c, 3, 1, impl.MendNew(epoch, by)), epoch == 2 && by == 3)
		}
	}
	checkWorldOk(t, worldOfMend(c, 0, 0, impl.Mend{}), false)
	for epoch := 28; epoch <= 31; epoch++ {
		checkWorldOk(t, worldOfMend(c, lastEpoch, 29, impl.MendNew(epoch, 30)), false)
		checkWorldOk(t, worldOfMend(c, lastEpoch, 29, impl.MendNew(epoch, 31)), false)
		checkWorldOk(t, worldOfMend(c, lastEpoch, 28, impl.MendNew(epoch, 30)), epoch == 29)
	}
}

func TestWorldOkMendCount(t *testing.T) {
	one := fiveWorld().Mends[0]
	checkWithWorld(t, true, func(w *impl.World) { w.Mends = nil })
	checkWithWorld(t, true, func(w *impl.World) { w.Mends = []impl.Mend{} })
	checkWithWorld(t, true, func(w *impl.World) { w.Mends = []impl.Mend{one} })
	for _, size := range []int{2, 3, 4, 256, 257, 70000} {
		checkWithWorld(t, false, func(w *impl.World) { w.Mends = slices.Repeat([]impl.Mend{one}, size) })
		checkWithWorld(t, false, func(w *impl.World) { w.Mends = make([]impl.Mend, size) })
	}
	checkWithWorld(t, false, func(w *impl.World) { w.Mends = []impl.Mend{one, impl.MendNew(4, 5)} })
	checkWithWorld(t, false, func(w *impl.World) { w.Mends = []impl.Mend{impl.MendNew(2, 5), one} })
	checkWithWorld(t, false, func(w *impl.World) { w.Mends = []impl.Mend{one, {}} })
}

// Each way in which a mend is not right; those that are right are asked at the register of which they are.
func TestWorldOkBadMend(t *testing.T) {
	for _, c := range registerConfigs() {
		for _, bad := range badMends(c) {
			checkWorldOk(t, worldOfMend(c, 5, 1, bad), false)
			checkWorldOk(t, worldOfMend(c, 5, 1, impl.MendNew(2, 5), bad), false)
		}
		for _, m := range someMends(c) {
			checkWorldOk(t, worldOfMend(c, m.By, m.Epoch-1, m), true)
			if m.By < lastEpoch {
				checkWorldOk(t, worldOfMend(c, m.By+1, m.Epoch-1, m), false)
			}
			if m.By-m.Epoch > 1 {
				checkWorldOk(t, worldOfMend(c, m.By, m.Epoch, m), false)
				checkWorldOk(t, worldOfMend(c, m.By-1, m.Epoch-1, m), false)
			}
			if m.Epoch > 1 {
				checkWorldOk(t, worldOfMend(c, m.By, m.Epoch-2, m), false)
			}
		}
	}
}

func TestWorldOkReaderCount(t *testing.T) {
	for size := range 7 {
		checkWithWorld(t, size == 2, func(w *impl.World) { w.Readers = slices.Repeat([]impl.Reader{impl.ReaderNew()}, size) })
		for _, c := range registerConfigs() {
			w := emptyWorld(c)
			w.Readers = slices.Repeat([]impl.Reader{readerAt(4, 4, 4)}, size)
			checkWorldOk(t, w, size == 2)
		}
	}
	for _, size := range []int{256, 258, 70000} {
		checkWithWorld(t, false, func(w *impl.World) { w.Readers = slices.Repeat([]impl.Reader{impl.ReaderNew()}, size) })
	}
}

// Each way in which a reader is not right, as the first and as the second one. A right one may be anywhere, also where no epoch is.
func TestWorldOkBadReader(t *testing.T) {
	for at := range 2 {
		for _, bad := range badReaders() {
			checkWithWorld(t, false, func(w *impl.World) { w.Readers[at] = bad })
			w := emptyWorld(conf(1, 0))
			w.Readers[at] = bad
			checkWorldOk(t, w, false)
			w.Readers = []impl.Reader{impl.ReaderNew(), impl.ReaderNew(), bad}
			checkWorldOk(t, w, false)
			w.Readers = []impl.Reader{bad, bad}
			checkWorldOk(t, w, false)
		}
		for _, right := range someReaders() {
			checkWithWorld(t, true, func(w *impl.World) { w.Readers[at] = right })
			w := emptyWorld(conf(1, 0))
			w.Readers[at] = right
			checkWorldOk(t, w, true)
		}
	}
}

// worldOfSent is a new world of so many epochs, to which this was sent.
func worldOfSent(size int, list ...impl.Sent) impl.World {
	w := emptyWorld(conf(2, 0, 0, 1, 2))
	w.Register = registerOf(w.Config, size, size/2, 0)
	w.Sent = list
	return w
}

func TestWorldOkSentCount(t *testing.T) {
	for size := range mostSent + 10 {
		checkWorldOk(t, worldOfSent(lastEpoch, sentUpTo(lastEpoch, size)...), size <= mostSent)
		checkWorldOk(t, worldOfSent(3, sentUpTo(3, size)...), size <= mostSent)
	}
	for _, size := range []int{240, 256, 376, 1800} {
		checkWorldOk(t, worldOfSent(lastEpoch, sentUpTo(lastEpoch, size)...), false)
	}
	checkWithWorld(t, true, func(w *impl.World) { w.Sent = nil })
	checkWithWorld(t, true, func(w *impl.World) { w.Sent = []impl.Sent{} })
	checkWithWorld(t, false, func(w *impl.World) { w.Sent = make([]impl.Sent, 70000) })
}

func TestWorldOkSentOrder(t *testing.T) {
	places := []int{at(1, 60), at(2, 1), at(2, 2), at(3, 1)}
	for size := range 5 {
		for _, row := range rowsOfWaves(size, places) {
			var list []impl.Sent
			for _, place := range row {
				list = append(list, impl.Sent{At: place, Data: "x"})
			}
			right := true
			for i := 1; i < size; i++ {
				right = right && row[i-1] < row[i]
			}
			checkWorldOk(t, worldOfSent(3, list...), right)
		}
	}
	full := sentUpTo(lastEpoch, mostSent)
	for i := 1; i < mostSent; i++ {
		swapped, twice := slices.Clone(full), slices.Clone(full)
		swapped[i-1], swapped[i] = swapped[i], swapped[i-1]
		checkWorldOk(t, worldOfSent(lastEpoch, swapped...), false)
		twice[i].At = twice[i-1].At
		checkWorldOk(t, worldOfSent(lastEpoch, twice...), false)
	}
	checkWorldOk(t, worldOfSent(lastEpoch, full[0], full[119], full[1]), false)
}

// What is no place, and a place of an epoch that is not there; alone, and at each end of others.
func TestWorldOkSentPlace(t *testing.T) {
	for _, size := range []int{0, 1, 2, 5, 29, lastEpoch} {
		some := sentUpTo(max(size, 1), 3)[:min(size, 1)*3]
		for _, place := range notPlaces() {
			bad := impl.Sent{At: place, Data: "x"}
			checkWorldOk(t, worldOfSent(size, bad), false)
			checkWorldOk(t, worldOfSent(size, append([]impl.Sent{bad}, some...)...), false)
			checkWorldOk(t, worldOfSent(size, append(slices.Clone(some), bad)...), false)
		}
		for epoch := 0; epoch <= lastEpoch+2; epoch++ {
			for _, off := range []int{-1, 0, 1, 2, 59, 60, 61, 62} {
				right := epoch >= 1 && epoch <= size && off >= 1 && off <= lastOff
				checkWorldOk(t, worldOfSent(size, impl.Sent{At: at(epoch, off)}), right)
			}
			if epoch > size {
				checkWorldOk(t, worldOfSent(size, append(slices.Clone(some), impl.Sent{At: at(epoch, 1)})...), false)
			}
		}
	}
}

func TestWorldOkSentData(t *testing.T) {
	for _, sure := range []bool{false, true} {
		for _, data := range someData() {
			checkWorldOk(t, worldOfSent(1, impl.Sent{At: at(1, 5), Data: data, Sure: sure}), len(data) <= mostData)
		}
		for size := range mostData + 20 {
			for i := range fiveWorld().Sent {
				checkWithWorld(t, size <= mostData, func(w *impl.World) { w.Sent[i].Data, w.Sent[i].Sure = strings.Repeat("x", size), sure })
			}
		}
		for _, data := range tooMuchData() {
			checkWithWorld(t, false, func(w *impl.World) { w.Sent[4].Data, w.Sent[4].Sure = data, sure })
			checkWithWorld(t, false, func(w *impl.World) { w.Sent[0].Data, w.Sent[0].Sure = data, sure })
		}
	}
	// Bytes are counted, and not letters.
	checkWorldOk(t, worldOfSent(1, impl.Sent{At: at(1, 5), Data: strings.Repeat("\u00e4", 20)}), true)
	checkWorldOk(t, worldOfSent(1, impl.Sent{At: at(1, 5), Data: strings.Repeat("\u00e4", 21)}), false)
}

// mostWorld is at all limits at once; one more of anything is too much.
func TestWorldOkMost(t *testing.T) {
	w := mostWorld()
	checkWorldOk(t, w, true)
	for _, more := range []func(*impl.World){
		func(w *impl.World) { w.Config.Domains = append(w.Config.Domains, 0) },
		func(w *impl.World) {
			w.Config.Domains, w.Stores = append(w.Config.Domains, 0), append(w.Stores, impl.Store{})
		},
		func(w *impl.World) { w.Config.Copies++ },
		func(w *impl.World) { w.Stores = append(w.Stores, impl.Store{}) },
		func(w *impl.World) { w.Stores[7].Kept = append(w.Stores[7].Kept, nthEntry(1799)) },
		func(w *impl.World) { w.Stores[0].Late = append(w.Stores[0].Late, nthEntry(5)) },
		func(w *impl.World) { w.Stores[3].Seal++ },
		func(w *impl.World) {
			w.Register.Eras = append(w.Register.Eras, openEra(0, 1, 2, 3))
			w.Mends = nil
		},
		func(w *impl.World) { w.Register.Trim++ },
		func(w *impl.World) { w.Writers = append(writersOf(w.Config, 26), w.Writers...) },
		func(w *impl.World) { w.Writers[3].Words = append(w.Writers[3].Words, doneWord("", 0, 1, 2, 3)) },
		func(w *impl.World) { w.Writers[0].Words[1] = openWord("") },
		func(w *impl.World) { w.Mends = append(w.Mends, w.Mends[0]) },
		func(w *impl.World) { w.Mends[0].Wrote = append(w.Mends[0].Wrote, nil) },
		func(w *impl.World) { w.Readers = append(w.Readers, impl.ReaderNew()) },
		func(w *impl.World) { w.Readers[0].Epoch++ },
		func(w *impl.World) { w.Readers[1].Off++ },
		func(w *impl.World) { w.Readers[1].Out = append(w.Readers[1].Out, impl.Event{}) },
		func(w *impl.World) { w.Sent = sentUpTo(lastEpoch, mostSent+1) },
		func(w *impl.World) { w.Sent[119].At++ },
		func(w *impl.World) { w.Sent[0].Data = strings.Repeat("s", mostData+1) },
	} {
		checkWorldOk(t, changedWorld(w, more), false)
	}
}

// What the chapter does not ask for may be as it will: the parts are held against the register alone, not against each other.
func TestWorldOkNotAsked(t *testing.T) {
	c := conf(2, 0, 1, 0, 2, 3)
	for _, change := range []func(*impl.World){
		func(w *impl.World) { w.Stores[1].Kept = entriesFrom(1790, 9) },
		func(w *impl.World) { w.Stores[1].Late = entriesFrom(1790, 9) },
		func(w *impl.World) { w.Stores[1].Seal = lastEpoch },
		func(w *impl.World) { w.Register.Trim = 0 },
		func(w *impl.World) { w.Register.Trim = at(5, 60) },
		func(w *impl.World) { w.Register.Eras[2].Nodes = []int{0, 1, 2} },
		func(w *impl.World) { w.Writers[1] = writerOf(c, 4, doneRow(lastOff)) },
		func(w *impl.World) { w.Writers = []impl.Writer{{Epoch: 1}, {Epoch: 2}} },
		func(w *impl.World) { w.Mends[0] = sealedMend(3, 5, "d.w", 0, 2) },
		func(w *impl.World) { w.Mends[0] = plannedMend(3, 5, "d.w", nil, []int{0, 2}) },
		func(w *impl.World) { w.Mends[0].Seen[0].Data = "never sent" },
		func(w *impl.World) { w.Readers[0] = readerAt(31, 61, mostOut) },
		func(w *impl.World) {
			w.Readers[1].Out = []impl.Event{{Kind: -9, At: -9, Data: strings.Repeat("x", 999)}}
		},
		func(w *impl.World) { w.Sent = []impl.Sent{{At: at(2, 60), Data: "never stored", Sure: true}} },
		func(w *impl.World) { w.Sent[0].Sure, w.Sent[1].Sure = false, true },
		func(w *impl.World) { w.Lost = nil },
		func(w *impl.World) { w.Torn = true },
	} {
		checkWithWorld(t, true, change)
	}
}

// remembered makes each thing once only: the lists that hold, which most things are made of, are dear to find.
func remembered[K comparable, V any](made func(K) V) func(K) V {
	all := map[K]V{}
	return func(key K) V {
		if _, ok := all[key]; !ok {
			all[key] = made(key)
		}
		return all[key]
	}
}

// worldDrawer draws worlds whose parts are drawn one by one, each right on its own, if not always for the others.
func worldDrawer(drawn *rand.Rand) func() impl.World {
	configs := registerConfigs()
	worlds := remembered(func(k [3]int) impl.World { return worldOf(configs[k[0]], k[1], k[2]) })
	registers := remembered(func(k [2]int) impl.Register { return registerOf(configs[k[0]], k[1], 0, 0) })
	writers := remembered(func(k [4]int) []impl.Writer { return writersOf(configs[k[0]], k[1:]...) })
	return func() impl.World {
		n, size := drawn.Intn(len(configs)), drawn.Intn(6)
		closed := drawn.Intn(max(size, 1))
		w := deepCopy(worlds([3]int{n, size, closed}))
		all := 1 << len(w.Stores)
		w.Stores = drawnStores(drawn, len(w.Stores))
		w.Lost, w.Torn = nodesOf(drawn.Intn(all)&drawn.Intn(all)), drawn.Intn(2) == 0
		for _, node := range w.Lost {
			if drawn.Intn(9) > 0 {
				w.Stores[node] = impl.Store{}
			}
		}
		if drawn.Intn(3) == 0 {
			w.Register = cloneRegister(registers([2]int{n, size + drawn.Intn(3) - drawn.Intn(min(size, 1)+1)}))
		}
		if drawn.Intn(3) == 0 {
			w.Mends = []impl.Mend{sealedMend(closed+drawn.Intn(3), size+drawn.Intn(2), "d.d", 0)}
		}
		if drawn.Intn(3) == 0 {
			w.Writers = deepCopy(writers([4]int{n, drawn.Intn(4), 3 + drawn.Intn(2), 4 + drawn.Intn(2)}))
		}
		if drawn.Intn(3) == 0 {
			w.Sent = []impl.Sent{{At: at(drawn.Intn(4), 1+drawn.Intn(3))}, {At: at(2+drawn.Intn(2), 3+drawn.Intn(59))}}
		}
		return w
	}
}

func TestWorldOkDrawn(t *testing.T) {
	t.Parallel()
	next := worldDrawer(rand.New(rand.NewSource(12)))
	count := 0
	for range 20000 {
		w := next()
		right := isWorld(w)
		checkWorldOk(t, w, right)
		if right {
			count++
		}
	}
	if count < 2000 || count > 18000 {
		t.Errorf("%d of 20000 are right", count)
	}
}

func checkNew(t *testing.T, c impl.Config) {
	t.Helper()
	w, ok := impl.WorldNew(c)
	if !isConfig(c) {
		if ok || !sameWorld(w, impl.World{}) {
			t.Fatalf("WorldNew(%s): %s, %v; want zero and false", shown(c), shown(w), ok)
		}
		return
	}
	if !ok || !sameWorld(w, emptyWorld(c)) || !impl.WorldOk(w) {
		t.Fatalf("WorldNew(%v): %v, %v", c, w, ok)
	}
}

func TestWorldNew(t *testing.T) {
	for _, c := range slices.Concat(someConfigs(), smallConfigs(), unheldConfigs(), registerConfigs()) {
		checkNew(t, c)
	}
	for _, c := range badConfigs() {
		checkNew(t, c)
		if w, ok := impl.WorldNew(c); ok || !sameWorld(w, impl.World{}) {
			t.Fatalf("WorldNew(%s): %s, %v", shown(c), shown(w), ok)
		}
	}
	for copies := -1; copies <= 6; copies++ {
		for size := range 11 {
			checkNew(t, conf(copies, nodesUpTo(size)...))
			checkNew(t, conf(copies, make([]int, size)...))
		}
	}
}

// Each field of a new world, as the chapter says, without a model.
func TestWorldNewFields(t *testing.T) {
	w, ok := impl.WorldNew(conf(2, 4, 0, 4, 7))
	if !ok || w.Config.Copies != 2 || !slices.Equal(w.Config.Domains, []int{4, 0, 4, 7}) {
		t.Errorf("config %v, %v", w.Config, ok)
	}
	if len(w.Stores) != 4 || len(w.Lost) != 0 || len(w.Register.Eras) != 0 || w.Register.Trim != 0 || len(w.Writers) != 0 || len(w.Mends) != 0 || len(w.Sent) != 0 || w.Torn {
		t.Errorf("%v has something", w)
	}
	for _, s := range w.Stores {
		if len(s.Kept) != 0 || len(s.Late) != 0 || s.Seal != 0 {
			t.Errorf("store %v", s)
		}
	}
	if len(w.Readers) != 2 {
		t.Fatalf("%d readers", len(w.Readers))
	}
	for _, r := range w.Readers {
		if !sameReader(r, impl.ReaderNew()) || r.Epoch != 1 || r.Off != 1 || len(r.Out) != 0 {
			t.Errorf("reader %v", r)
		}
	}
	if !impl.WorldOk(w) || impl.FirstOpen(w.Register) != 0 {
		t.Error("it is not right")
	}
}

func checkSureOf(t *testing.T, w impl.World, epoch int, want int) {
	t.Helper()
	if got := impl.SureOf(w, epoch); got != want || sureOfIs(w, epoch) != want {
		t.Fatalf("SureOf(%s, %d): %d, not %d; the model says %d", shown(w.Writers), epoch, got, want, sureOfIs(w, epoch))
	}
}

// someEpochs has those that can be, and others.
func someEpochs() []int {
	return slices.Concat(wrongNumbers(), nodesUpTo(lastEpoch+3), []int{at(1, 1), at(3, 1), epochStep + 3})
}

func TestSureOfNone(t *testing.T) {
	for _, epoch := range someEpochs() {
		checkSureOf(t, impl.World{}, epoch, 0)
		for _, c := range registerConfigs() {
			checkSureOf(t, emptyWorld(c), epoch, 0)
			w := worldOf(c, 5, 2)
			w.Writers = nil
			checkSureOf(t, w, epoch, 0)
		}
	}
}

func TestSureOfKnown(t *testing.T) {
	w := fiveWorld()
	for _, epoch := range someEpochs() {
		want := 0
		if epoch == 3 {
			want = 2
		}
		checkSureOf(t, w, epoch, want)
	}
	w.Writers = []impl.Writer{writerOf(w.Config, 1, "d"), writerOf(w.Config, 2, "ddd"), writerOf(w.Config, 4, "od"), writerOf(w.Config, 5, "ddddo")}
	for epoch, want := range []int{0, 1, 3, 0, 0, 4, 0} {
		checkSureOf(t, w, epoch, want)
	}
	most := mostWorld()
	for _, epoch := range someEpochs() {
		checkSureOf(t, most, epoch, 0)
	}
	most.Writers[0] = writerOf(most.Config, 27, doneRow(lastOff))
	most.Writers[2] = writerOf(most.Config, 29, doneRow(lastOff, lastOff))
	for _, epoch := range someEpochs() {
		checkSureOf(t, most, epoch, map[int]int{27: 60, 29: 59}[epoch])
	}
}

// Writers of every row: sure of nothing, of some, and of all; alone, and at each place among others.
func TestSureOfRows(t *testing.T) {
	c := conf(2, 0, 0, 1, 2)
	for _, row := range someRows() {
		for at, epochs := range [][]int{{4, 5, 6, 7}, {3, 4, 6, 7}, {1, 2, 4, 7}, {1, 2, 3, 4}} {
			w := emptyWorld(c)
			w.Register = registerOf(c, 7, 2, 0)
			w.Writers = writersOf(c, epochs...)
			w.Writers[at] = writerOf(c, 4, row)
			checkWorldOk(t, w, true)
			checkSureOf(t, w, 4, sureIs(w.Writers[at]))
			for _, epoch := range someEpochs() {
				checkSureOf(t, w, epoch, sureOfIs(w, epoch))
			}
			w.Writers = []impl.Writer{w.Writers[at]}
			checkSureOf(t, w, 4, sureIs(w.Writers[0]))
			checkSureOf(t, w, 3, 0)
			checkSureOf(t, w, 5, 0)
		}
	}
}

// The chapter asks for no world that is right here: the writer alone counts, the first one where there are two.
func TestSureOfNotWorld(t *testing.T) {
	for _, w := range badWorlds() {
		for _, epoch := range someEpochs() {
			checkSureOf(t, w, epoch, sureOfIs(w, epoch))
		}
	}
	done := impl.Word{Done: true}
	w := impl.World{Writers: []impl.Writer{writerWith(7, done), writerWith(2, done, done), writerWith(-4, done, done, done), writerWith(7, done, done), writerWith(0, done), writerWith(99, impl.Word{}, done), {Epoch: 8}}}
	for epoch, want := range map[int]int{7: 1, 2: 2, -4: 3, 0: 1, 99: 0, 8: 0, 1: 0, -7: 0, 4: 0} {
		checkSureOf(t, w, epoch, want)
	}
	many := impl.World{Writers: make([]impl.Writer, 70000)}
	many.Writers[69999] = writerWith(5, done, done)
	checkSureOf(t, many, 5, 2)
	checkSureOf(t, many, 6, 0)
}

func checkHolders(t *testing.T, w impl.World, place int, want ...int) {
	t.Helper()
	if got := impl.HoldersOf(w, place); !slices.Equal(got, want) || !slices.Equal(holdersAre(w, place), want) {
		t.Fatalf("HoldersOf(%s, %d): %v, not %v; the model says %v", shown(w), place, got, want, holdersAre(w, place))
	}
}

func TestHoldersKnown(t *testing.T) {
	w := fiveWorld()
	checkHolders(t, w, at(1, 1), 1, 3)
	checkHolders(t, w, at(1, 2), 1, 4)
	checkHolders(t, w, at(3, 1), 1, 3, 4)
	checkHolders(t, w, at(3, 3), 4)
	checkHolders(t, w, at(5, 60), 3)
	// This one came to node 1, and does not last yet.
	checkHolders(t, w, at(4, 1))
	for _, place := range []int{at(1, 3), at(2, 1), at(3, 2), at(3, 4), at(5, 59), at(6, 60), at(30, 60)} {
		checkHolders(t, w, place)
	}
}

// What is no place has nobody, and neither have the places beside one.
func TestHoldersNoPlace(t *testing.T) {
	for _, w := range someWorlds() {
		for _, place := range slices.Concat(notPlaces(), wrongNumbers(), []int{-at(3, 1), at(3, 1) + 1<<62}) {
			if place < at(1, 1) || place > at(30, 60) {
				checkHolders(t, w, place)
			}
			checkHolders(t, w, place, holdersAre(w, place)...)
		}
	}
	w := emptyWorld(conf(2, 0, 1, 2))
	for node := range w.Stores {
		w.Stores[node] = storeWith(impl.Entry{At: at(7, 31)})
	}
	for _, step := range []int{1, 2, 32, 256, epochStep, 2 * epochStep} {
		checkHolders(t, w, at(7, 31)+step)
		checkHolders(t, w, at(7, 31)-step)
	}
	checkHolders(t, w, at(7, 31), 0, 1, 2)
}

// Every set of nodes that have a place, of many configs; the others have other places, or have it only Late.
func TestHoldersEvery(t *testing.T) {
	e, other := impl.Entry{At: at(4, 9), Wave: 6, Data: "x"}, impl.Entry{At: at(4, 8), Data: "y"}
	for _, c := range append(someConfigs(), unheldConfigs()...) {
		for mask := range 1 << len(c.Domains) {
			w := emptyWorld(c)
			for node := range c.Domains {
				w.Stores[node] = []impl.Store{{}, storeWith(other), {Late: []impl.Entry{e}}, {Kept: []impl.Entry{other}, Late: []impl.Entry{e, e}, Seal: 3}}[(node+mask)%4]
				if mask>>node&1 == 1 {
					w.Stores[node].Kept = append(w.Stores[node].Kept, e)
				}
			}
			checkHolders(t, w, e.At, nodesOf(mask)...)
		}
	}
}

// Holes and mended entries are something too; what a store keeps is found at its first and last place.
func TestHoldersPlaces(t *testing.T) {
	most := mostWorld()
	for n := 0; n < lastEpoch*lastOff; n += 4 {
		place := nthEntry(n).At
		checkHolders(t, most, place, holdersAre(most, place)...)
	}
	c := conf(2, 0, 1, 2)
	for _, e := range []impl.Entry{{At: at(1, 1), Wave: 2, Hole: true}, {At: at(1, 1)}, {At: at(30, 60), Data: "x"}, {At: at(29, 60), Wave: 30, Hole: true}} {
		for node := range c.Domains {
			w := emptyWorld(c)
			w.Stores[node] = storeWith(e)
			checkHolders(t, w, e.At, node)
		}
	}
	for node := range c.Domains {
		w := emptyWorld(c)
		w.Stores[node] = impl.Store{Kept: entriesBy(3, 8, mostKept), Late: entriesFrom(0, mostLate), Seal: lastEpoch}
		for n := 0; n < lastEpoch*lastOff; n += 5 {
			want := nodesUpTo(3)[node : node+1]
			if n%8 != 3 || n > 3+8*(mostKept-1) {
				want = nil
			}
			checkHolders(t, w, nthEntry(n).At, want...)
		}
	}
}

// A world that is not right in anything has no holders, also where a node has the place.
func TestHoldersNotWorld(t *testing.T) {
	places := []int{at(1, 1), at(1, 2), at(3, 1), at(3, 3), at(4, 1), at(5, 60), 0, -1, math.MaxInt}
	for _, w := range badWorlds() {
		for _, place := range places {
			checkHolders(t, w, place)
		}
	}
	w := emptyWorld(conf(1, 0))
	w.Stores[0] = storeWith(nthEntry(0))
	checkHolders(t, w, at(1, 1), 0)
	checkHolders(t, changedWorld(w, func(w *impl.World) { w.Readers = nil }), at(1, 1))
	checkHolders(t, changedWorld(w, func(w *impl.World) { w.Lost, w.Torn = []int{0}, true }), at(1, 1))
	checkHolders(t, changedWorld(w, func(w *impl.World) { w.Stores = append(w.Stores, w.Stores[0]) }), at(1, 1))
	checkHolders(t, impl.World{Stores: []impl.Store{storeWith(nthEntry(0))}}, at(1, 1))
}

// checkKept is promise 12 of one place, without a model: who is told has it kept, who is not has not, and they ascend.
func checkKept(t *testing.T, w impl.World, place int) {
	t.Helper()
	got := impl.HoldersOf(w, place)
	if !impl.NodesOk(w.Config, got) {
		t.Fatalf("HoldersOf %d: %v", place, got)
	}
	for node, s := range w.Stores {
		e, has := impl.StoreGet(s, place)
		if has != slices.Contains(got, node) || has && e.At != place {
			t.Fatalf("node %d of %v has %d: %v; %v are told", node, w, place, has, got)
		}
		if has && slices.Contains(w.Lost, node) {
			t.Fatalf("node %d is lost, and has %d", node, place)
		}
	}
}

func TestHoldersDrawn(t *testing.T) {
	drawn := rand.New(rand.NewSource(13))
	next := worldDrawer(drawn)
	told := 0
	for range 3000 {
		w := next()
		for range 6 {
			place := drawnEntry(drawn).At
			checkHolders(t, w, place, holdersAre(w, place)...)
			if isWorld(w) {
				checkKept(t, w, place)
				told += len(impl.HoldersOf(w, place))
			}
		}
	}
	if told < 2000 {
		t.Errorf("only %d are told", told)
	}
}

// Rows of puts, syncs, crashes, trims and losses: what came is not had before it is kept, and what is lost is had no more.
func TestHoldersRows(t *testing.T) {
	for seed := range 40 {
		drawn := rand.New(rand.NewSource(int64(seed)))
		w, ok := impl.WorldNew(registerConfigs()[seed%4])
		if !ok {
			t.Fatal("refused")
		}
		w.Torn = true
		for range 150 {
			node := drawn.Intn(len(w.Stores))
			w.Lost = slices.DeleteFunc(w.Lost, func(n int) bool { return n == node })
			e := drawnEntry(drawn)
			before := impl.HoldersOf(w, e.At)
			switch k := drawn.Intn(20); {
			case k < 12:
				w.Stores[node], _ = impl.StorePut(w.Stores[node], e)
				checkHolders(t, w, e.At, before...)
			case k < 15:
				w.Stores[node], _ = impl.StoreSync(w.Stores[node])
			case k < 17:
				w.Stores[node], _ = impl.StoreCrash(w.Stores[node], drawn.Intn(16))
			case k < 18:
				w.Stores[node], _ = impl.StoreTrim(w.Stores[node], e.At)
			default:
				w.Stores[node] = impl.Store{}
				w.Lost = append(w.Lost, node)
				slices.Sort(w.Lost)
			}
			checkWorldOk(t, w, true)
			checkKept(t, w, e.At)
			checkHolders(t, w, e.At, holdersAre(w, e.At)...)
		}
	}
}

// memory is where a list lies, with the room behind it.
type memory struct {
	from, to uintptr
}

// memoriesOf has all lists of what is there, those inside of others too.
func memoriesOf(list []memory, v reflect.Value) []memory {
	switch v.Kind() {
	case reflect.Struct:
		for i := range v.NumField() {
			list = memoriesOf(list, v.Field(i))
		}
	case reflect.Slice:
		size := uintptr(v.Cap()) * v.Type().Elem().Size()
		if size > 0 {
			list = append(list, memory{v.Pointer(), v.Pointer() + size})
		}
		whole := v.Slice(0, v.Cap())
		for i := range whole.Len() {
			list = memoriesOf(list, whole.Index(i))
		}
	}
	return list
}

func memoryOf(what ...any) []memory {
	var list []memory
	for _, x := range what {
		list = memoriesOf(list, reflect.ValueOf(x))
	}
	return list
}

func shareMemory(a []memory, b []memory) bool {
	for _, x := range a {
		for _, y := range b {
			if x.from < y.to && y.from < x.to {
				return true
			}
		}
	}
	return false
}

// areApart is so where no two of the lists share any.
func areApart(list []memory) bool {
	for i := range list {
		if shareMemory(list[:i], list[i:i+1]) {
			return false
		}
	}
	return true
}

// laid is a thing each list of which lies between others, with spare room behind it; the wholes are kept too.
type laid[T any] struct {
	given  T
	wholes []any
}

func layDown[T any](x T) *laid[T] {
	l := &laid[T]{}
	l.layInto(reflect.ValueOf(&l.given).Elem(), reflect.ValueOf(&x).Elem())
	return l
}

func (l *laid[T]) layInto(to reflect.Value, from reflect.Value) {
	switch from.Kind() {
	case reflect.Struct:
		for i := range from.NumField() {
			l.layInto(to.Field(i), from.Field(i))
		}
	case reflect.Slice:
		whole := reflect.MakeSlice(from.Type(), from.Len()+11, from.Len()+11)
		for i := range whole.Len() {
			spoilValue(whole.Index(i))
		}
		for i := range from.Len() {
			whole.Index(2 + i).SetZero()
			l.layInto(whole.Index(2+i), from.Index(i))
		}
		to.Set(whole.Slice(2, 2+from.Len()))
		l.wholes = append(l.wholes, whole.Interface())
	default:
		to.Set(from)
	}
}

// spoilValue writes over all of it, but not into the lists that it had.
func spoilValue(v reflect.Value) {
	switch v.Kind() {
	case reflect.Struct:
		for i := range v.NumField() {
			spoilValue(v.Field(i))
		}
	case reflect.Slice:
		v.Set(reflect.MakeSlice(v.Type(), 1, 1))
		spoilValue(v.Index(0))
	case reflect.Int:
		v.SetInt(-99)
	case reflect.Uint8:
		v.SetUint(99)
	case reflect.String:
		v.SetString("spoilt")
	case reflect.Bool:
		v.SetBool(true)
	}
}

// look is all that was laid down, as it is now.
func (l *laid[T]) look() []any {
	var list []any
	for _, whole := range l.wholes {
		own := reflect.New(reflect.TypeOf(whole)).Elem()
		copyInto(own, reflect.ValueOf(whole))
		list = append(list, own.Interface())
	}
	return list
}

func (l *laid[T]) isStill(before []any) bool {
	return reflect.DeepEqual(l.wholes, before)
}

func (l *laid[T]) spoil() {
	for _, whole := range l.wholes {
		v := reflect.ValueOf(whole)
		for i := range v.Len() {
			spoilValue(v.Index(i))
		}
	}
}

// fewWorlds has worlds that are right, and others.
func fewWorlds() []impl.World {
	return slices.Concat(someWorlds()[:12], someWorlds()[30:], badWorlds())
}

func TestWorldWritesNothing(t *testing.T) {
	for _, w := range fewWorlds() {
		laid := layDown(w)
		before := laid.look()
		look := func(name string, answers ...any) {
			t.Helper()
			if !laid.isStill(before) {
				t.Fatalf("%s wrote into what it was given: %s", name, shown(w))
			}
			if shareMemory(memoryOf(answers...), memoryOf(laid.wholes...)) {
				t.Fatalf("%s answers what it was given: %s", name, shown(w))
			}
		}
		if impl.WorldOk(laid.given) != isWorld(w) {
			t.Fatalf("%s is right, or not", shown(w))
		}
		look("WorldOk")
		for _, epoch := range []int{-1, 0, 3, 4, 27, lastEpoch} {
			impl.SureOf(laid.given, epoch)
			look("SureOf")
		}
		for _, place := range []int{-1, 0, at(1, 1), at(3, 1), at(3, 3), at(4, 1)} {
			got := impl.HoldersOf(laid.given, place)
			look("HoldersOf", got)
			if !slices.Equal(got, holdersAre(w, place)) {
				t.Fatalf("HoldersOf %s: %v", shown(w), got)
			}
			spoilNumbers(got)
			_ = append(got, -1)
			look("HoldersOf", got)
		}
		made, _ := impl.WorldNew(laid.given.Config)
		look("WorldNew", made)
	}
}

func TestWorldSharesNothing(t *testing.T) {
	for _, w := range fewWorlds() {
		for _, place := range []int{-1, at(1, 1), at(3, 1), at(3, 3), at(4, 1)} {
			one, two := impl.HoldersOf(w, place), impl.HoldersOf(w, place)
			if shareMemory(memoryOf(one), memoryOf(two)) {
				t.Fatalf("two answers of HoldersOf %s share memory", shown(w))
			}
			spoilNumbers(one)
			if !slices.Equal(two, holdersAre(w, place)) {
				t.Fatalf("HoldersOf %s became %v", shown(w), two)
			}
			checkHolders(t, w, place, holdersAre(w, place)...)
		}
	}
	for _, c := range append(someConfigs(), badConfigs()...) {
		one, _ := impl.WorldNew(c)
		two, _ := impl.WorldNew(c)
		if shareMemory(memoryOf(one), memoryOf(two)) || !areApart(memoryOf(one)) {
			t.Fatalf("two answers of WorldNew %s, or two lists of one, share memory", shown(c))
		}
		spoilValue(reflect.ValueOf(&one).Elem())
		checkNew(t, c)
	}
}

// An answer stays as it was told, whatever is done to the arguments afterwards.
func TestWorldAnswerStays(t *testing.T) {
	for _, w := range fewWorlds() {
		laid := layDown(w)
		place := at(3, 1)
		holders := impl.HoldersOf(laid.given, place)
		made, ok := impl.WorldNew(laid.given.Config)
		laid.spoil()
		if !slices.Equal(holders, holdersAre(w, place)) {
			t.Fatalf("HoldersOf %s became %v", shown(w), holders)
		}
		if ok != isConfig(w.Config) || ok && !sameWorld(made, emptyWorld(w.Config)) {
			t.Fatalf("WorldNew of %s became %v", shown(w.Config), made)
		}
	}
}

// A new world is its own: what is done to one is not seen in another, nor in the config that it was made of.
func TestWorldNewForked(t *testing.T) {
	c := conf(2, 0, 1, 2)
	one, _ := impl.WorldNew(c)
	two, _ := impl.WorldNew(one.Config)
	one.Config.Domains[0], one.Stores[1] = 7, storeWith(nthEntry(0))
	one.Readers[0] = readerAt(2, 2, 2)
	if !sameWorld(two, emptyWorld(conf(2, 0, 1, 2))) || !slices.Equal(c.Domains, []int{0, 1, 2}) || !sameReader(one.Readers[1], impl.ReaderNew()) {
		t.Errorf("%v, %v", two, c)
	}
}

// One memory may be all lists of numbers, and the entries of every store.
func TestWorldOneMemory(t *testing.T) {
	numbers, entries := []int{0, 1, 2, 3}, entriesFrom(58, 6)
	c := impl.Config{Domains: numbers, Copies: 2}
	s := impl.Store{Kept: entries, Late: entries}
	w := impl.World{
		Config: c, Stores: []impl.Store{s, s, s, {}}, Lost: numbers[3:], Register: impl.Register{Eras: []impl.Era{openEra(numbers...), openEra(numbers[1:]...), openEra(numbers...)}},
		Writers: []impl.Writer{writerWith(1, doneWord("a", numbers...), openWord("b", numbers[:1]...))}, Mends: []impl.Mend{{By: 3, Epoch: 1, Sealed: numbers, Seen: entries[:1]}},
		Readers: []impl.Reader{impl.ReaderNew(), impl.ReaderNew()},
	}
	checkWorldOk(t, w, true)
	checkHolders(t, w, entries[0].At, 0, 1, 2)
	checkSureOf(t, w, 1, 1)
	spoilNumbers(impl.HoldersOf(w, entries[0].At))
	made, _ := impl.WorldNew(c)
	spoilNumbers(made.Config.Domains)
	if !slices.Equal(numbers, []int{0, 1, 2, 3}) || !slices.Equal(entries, entriesFrom(58, 6)) {
		t.Errorf("%v, %v", numbers, entries)
	}
}

// Nothing is kept from call to call: an answer is the same whatever was asked ahead of it.
func TestWorldAgain(t *testing.T) {
	worlds := fewWorlds()
	for seed := range 4 {
		drawn := rand.New(rand.NewSource(int64(seed)))
		for _, i := range drawn.Perm(len(worlds)) {
			w, place := worlds[i], drawnEntry(drawn).At
			checkWorldOk(t, w, isWorld(w))
			checkHolders(t, w, place, holdersAre(w, place)...)
			checkSureOf(t, w, place/epochStep, sureOfIs(w, place/epochStep))
			checkNew(t, w.Config)
		}
	}
}
