package tests

import (
	"bytes"
	"encoding/binary"
	"fmt"
	"maps"
	"math"
	"math/rand"
	"slices"
	"strconv"
	"strings"
	"testing"

	"loop.example/g00178/impl"
)

// The document's numbers, written out here so that a changed constant is seen.
const (
	mostKept = 200
	mostLate = 20
	mostKeep = 1048575
)

// isStore is what StoreOk must answer.
func isStore(s impl.Store) bool {
	if len(s.Kept) > mostKept || len(s.Late) > mostLate || s.Seal < 0 || s.Seal > lastEpoch {
		return false
	}
	last := 0
	for _, e := range s.Kept {
		if !isEntry(e) || e.At <= last {
			return false
		}
		last = e.At
	}
	return !slices.ContainsFunc(s.Late, func(e impl.Entry) bool { return !isEntry(e) })
}

func cloneStore(s impl.Store) impl.Store {
	return impl.Store{Kept: slices.Clone(s.Kept), Late: slices.Clone(s.Late), Seal: s.Seal}
}

func sameStore(a impl.Store, b impl.Store) bool {
	return a.Seal == b.Seal && slices.Equal(a.Kept, b.Kept) && slices.Equal(a.Late, b.Late)
}

// asItWas is what must be answered where a store is refused.
func asItWas(s impl.Store) (impl.Store, bool) {
	if !isStore(s) {
		return impl.Store{}, false
	}
	return cloneStore(s), false
}

func putIs(s impl.Store, e impl.Entry) (impl.Store, bool) {
	if !isStore(s) || !isEntry(e) || len(s.Late) >= mostLate {
		return asItWas(s)
	}
	if e.Wave == 0 && e.At/epochStep <= s.Seal || e.Wave > 0 && e.Wave <= s.Seal {
		return asItWas(s)
	}
	return impl.Store{Kept: slices.Clone(s.Kept), Late: append(slices.Clone(s.Late), e), Seal: s.Seal}, true
}

// crashIs keeps in a map by place, so that it has nothing of how the program finds one.
func crashIs(s impl.Store, keep int) (impl.Store, bool) {
	if !isStore(s) || keep < 0 || keep > mostKeep {
		return asItWas(s)
	}
	best := map[int]impl.Entry{}
	for _, e := range s.Kept {
		best[e.At] = e
	}
	for i, e := range s.Late {
		if keep&(1<<i) == 0 {
			continue
		}
		if old, ok := best[e.At]; !ok || e.Wave > old.Wave {
			best[e.At] = e
		}
	}
	if len(best) > mostKept {
		return asItWas(s)
	}
	next := impl.Store{Seal: s.Seal}
	for _, place := range slices.Sorted(maps.Keys(best)) {
		next.Kept = append(next.Kept, best[place])
	}
	return next, true
}

func syncIs(s impl.Store) (impl.Store, bool) {
	return crashIs(s, mostKeep)
}

func sealIs(s impl.Store, upto int) (impl.Store, bool) {
	next, ok := syncIs(s)
	if upto < 0 || upto > lastEpoch || !ok {
		return asItWas(s)
	}
	if upto > next.Seal {
		next.Seal = upto
	}
	return next, true
}

func getIs(s impl.Store, place int) (impl.Entry, bool) {
	i := slices.IndexFunc(s.Kept, func(e impl.Entry) bool { return e.At == place })
	if !isStore(s) || i < 0 {
		return impl.Entry{}, false
	}
	return s.Kept[i], true
}

func eraIs(s impl.Store, epoch int) []impl.Entry {
	if !isStore(s) {
		return nil
	}
	return slices.DeleteFunc(slices.Clone(s.Kept), func(e impl.Entry) bool { return e.At/epochStep != epoch })
}

func trimIs(s impl.Store, upto int) (impl.Store, bool) {
	if !isStore(s) || !isEntry(impl.Entry{At: upto}) {
		return asItWas(s)
	}
	next := cloneStore(s)
	next.Kept = slices.DeleteFunc(next.Kept, func(e impl.Entry) bool { return e.At <= upto })
	return next, true
}

// storeForm has the bytes of any Seal and count and of any entries, a store's or not.
func storeForm(seal int, count int, kept []impl.Entry) []byte {
	b := binary.AppendUvarint(nil, uint64(seal))
	b = binary.AppendUvarint(b, uint64(count))
	for _, e := range kept {
		b = append(b, entryForm(e)...)
	}
	return b
}

func packIs(s impl.Store) ([]byte, bool) {
	if !isStore(s) || len(s.Late) != 0 {
		return nil, false
	}
	return storeForm(s.Seal, len(s.Kept), s.Kept), true
}

// storeOf is what StoreRead must answer, by the forms that the tests have of their own.
func storeOf(b []byte) (impl.Store, bool) {
	seal, next, ok := numAt(b, 0)
	if !ok {
		return impl.Store{}, false
	}
	count, next, ok := numAt(b, next)
	if !ok || count > mostKept {
		return impl.Store{}, false
	}
	s := impl.Store{Seal: seal}
	for range count {
		var e impl.Entry
		e, next, ok = entryAt(b, next)
		if !ok {
			return impl.Store{}, false
		}
		s.Kept = append(s.Kept, e)
	}
	if next != len(b) || !isStore(s) {
		return impl.Store{}, false
	}
	return s, true
}

// nthEntry is an entry of the place at that number among all places, of each kind in turn.
func nthEntry(n int) impl.Entry {
	epoch := 1 + n/lastOff
	e := impl.Entry{At: at(epoch, 1+n%lastOff), Data: "n" + strconv.Itoa(n)}
	if epoch < lastEpoch && n%3 == 1 {
		e.Wave = epoch + 1
	}
	if epoch < lastEpoch && n%3 == 2 {
		return impl.Entry{At: e.At, Wave: lastEpoch, Hole: true}
	}
	return e
}

func entriesFrom(first int, size int) []impl.Entry {
	var list []impl.Entry
	for n := first; n < first+size; n++ {
		list = append(list, nthEntry(n))
	}
	return list
}

// entriesBy goes on by that step, so that other places lie between.
func entriesBy(first int, step int, size int) []impl.Entry {
	var list []impl.Entry
	for i := range size {
		list = append(list, nthEntry(first+i*step))
	}
	return list
}

func reversed(list []impl.Entry) []impl.Entry {
	list = slices.Clone(list)
	slices.Reverse(list)
	return list
}

// badEntries has one for each reason for which an entry is not right.
func badEntries() []impl.Entry {
	list := []impl.Entry{
		{}, {At: at(2, 3), Wave: -1}, {At: at(2, 3), Wave: 1}, {At: at(2, 3), Wave: 2}, {At: at(2, 3), Wave: 31}, {At: at(30, 3), Wave: 30},
		{At: at(2, 3), Wave: math.MaxInt}, {At: at(2, 3), Wave: math.MinInt}, {At: at(2, 3), Hole: true}, {At: at(2, 3), Wave: 3, Hole: true, Data: "a"},
	}
	for _, place := range notPlaces() {
		list = append(list, impl.Entry{At: place, Data: "a"}, impl.Entry{At: place, Wave: 30, Hole: true})
	}
	for _, data := range tooMuchData() {
		list = append(list, impl.Entry{At: at(2, 3), Data: data}, impl.Entry{At: at(2, 3), Wave: 7, Data: data})
	}
	return list
}

// someStores has stores that are right: empty ones, full ones, and what lies at the limits.
func someStores() []impl.Store {
	one, two, three := impl.Entry{At: at(2, 5), Data: "x"}, impl.Entry{At: at(2, 5), Wave: 3, Data: "y"}, impl.Entry{At: at(2, 5), Wave: 9, Hole: true}
	return []impl.Store{
		{}, {Seal: 1}, {Seal: lastEpoch}, {Kept: []impl.Entry{one}}, {Late: []impl.Entry{one}, Seal: 1}, {Kept: []impl.Entry{two}, Late: []impl.Entry{one}, Seal: 2},
		{Kept: []impl.Entry{one}, Late: []impl.Entry{three, two, one}, Seal: 2},
		{Kept: []impl.Entry{three}, Late: []impl.Entry{two, two, one, one}, Seal: 9},
		{Kept: entriesBy(0, 41, 5), Late: entriesBy(20, 41, 5), Seal: 1},
		{Kept: entriesBy(7, 90, 19), Late: reversed(entriesBy(50, 90, 18)), Seal: 4},
		{Kept: entriesFrom(1700, 100), Late: entriesFrom(1690, 20), Seal: lastEpoch},
		{Kept: entriesFrom(100, 3), Late: entriesFrom(0, mostLate)},
		{Kept: entriesFrom(0, mostKept), Seal: 3},
		{Kept: entriesBy(3, 8, mostKept), Late: entriesBy(3, 8, mostLate), Seal: 5},
		{Kept: entriesBy(3, 8, mostKept), Late: []impl.Entry{nthEntry(4)}},
		{Kept: entriesBy(3, 8, mostKept), Late: append(entriesBy(3, 8, mostLate-1), nthEntry(1799))},
		{Kept: entriesFrom(0, mostKept-1), Late: []impl.Entry{nthEntry(900), nthEntry(4)}},
		{Kept: entriesFrom(0, mostKept-1), Late: []impl.Entry{nthEntry(900), nthEntry(901)}, Seal: 6},
		{Kept: entriesFrom(0, mostKept-mostLate), Late: entriesFrom(mostKept, mostLate)},
		{Kept: entriesFrom(0, mostKept-mostLate+1), Late: entriesFrom(mostKept+1, mostLate), Seal: lastEpoch},
	}
}

// badStores has stores that are not right, each for one reason.
func badStores() []impl.Store {
	three := entriesBy(4, 70, 3)
	twice := append(slices.Clone(three), impl.Entry{At: three[2].At, Wave: lastEpoch, Data: "again"})
	list := []impl.Store{
		{Seal: -1}, {Seal: lastEpoch + 1}, {Seal: math.MinInt}, {Seal: math.MaxInt}, {Kept: three, Late: three, Seal: -1}, {Kept: three, Seal: lastEpoch + 1},
		{Kept: entriesFrom(0, mostKept+1)}, {Kept: entriesFrom(0, mostKept+5), Late: three}, {Late: entriesFrom(0, mostLate+1)}, {Kept: three, Late: entriesFrom(0, mostLate+9)},
		{Kept: reversed(three)}, {Kept: reversed(three[:2]), Late: three}, {Kept: twice}, {Kept: twice[2:], Late: three}, {Kept: append([]impl.Entry{three[0]}, three...)},
		{Kept: append(slices.Clone(three), three[1])}, {Kept: append(slices.Clone(three), three[0])},
	}
	for _, e := range badEntries() {
		list = append(list, impl.Store{Kept: []impl.Entry{e}}, impl.Store{Late: []impl.Entry{e}}, impl.Store{Kept: three, Late: append(slices.Clone(three), e), Seal: 1})
	}
	return list
}

// storeAsk is one thing that is asked of a store, with what must be answered.
type storeAsk struct {
	name string
	ask  func(impl.Store) (impl.Store, bool)
	want func(impl.Store) (impl.Store, bool)
}

func askPut(e impl.Entry) storeAsk {
	return storeAsk{
		fmt.Sprintf("StorePut %v", e),
		func(s impl.Store) (impl.Store, bool) { return impl.StorePut(s, e) },
		func(s impl.Store) (impl.Store, bool) { return putIs(s, e) },
	}
}

func askSync() storeAsk {
	return storeAsk{"StoreSync", impl.StoreSync, syncIs}
}

func askCrash(keep int) storeAsk {
	return storeAsk{
		"StoreCrash " + strconv.Itoa(keep),
		func(s impl.Store) (impl.Store, bool) { return impl.StoreCrash(s, keep) },
		func(s impl.Store) (impl.Store, bool) { return crashIs(s, keep) },
	}
}

func askSeal(upto int) storeAsk {
	return storeAsk{
		"StoreSeal " + strconv.Itoa(upto),
		func(s impl.Store) (impl.Store, bool) { return impl.StoreSeal(s, upto) },
		func(s impl.Store) (impl.Store, bool) { return sealIs(s, upto) },
	}
}

func askTrim(upto int) storeAsk {
	return storeAsk{
		"StoreTrim " + strconv.Itoa(upto),
		func(s impl.Store) (impl.Store, bool) { return impl.StoreTrim(s, upto) },
		func(s impl.Store) (impl.Store, bool) { return trimIs(s, upto) },
	}
}

func (a storeAsk) check(t *testing.T, s impl.Store) {
	t.Helper()
	want, wantOk := a.want(s)
	if got, ok := a.ask(s); ok != wantOk || !sameStore(got, want) {
		t.Fatalf("%s of %v: %v, %v; want %v, %v", a.name, s, got, ok, want, wantOk)
	}
}

// refuses asks for s as it was, as the document has it, and not by a model.
func (a storeAsk) refuses(t *testing.T, s impl.Store) {
	t.Helper()
	if got, ok := a.ask(s); ok || !sameStore(got, s) {
		t.Fatalf("%s of %v: %v, %v; want it as it was", a.name, s, got, ok)
	}
}

func (a storeAsk) refusesWholly(t *testing.T, s impl.Store) {
	t.Helper()
	if got, ok := a.ask(s); ok || !sameStore(got, impl.Store{}) {
		t.Fatalf("%s of %v: %v, %v; want zero", a.name, s, got, ok)
	}
}

// answers asks for one store that must be answered.
func (a storeAsk) answers(t *testing.T, s impl.Store, want impl.Store) {
	t.Helper()
	if got, ok := a.ask(s); !ok || !sameStore(got, want) {
		t.Fatalf("%s of %v: %v, %v; want %v", a.name, s, got, ok, want)
	}
}

// storeAsks has some of each kind, of which some are refused by every store, and some only by some.
func storeAsks() []storeAsk {
	list := []storeAsk{askSync(), askPut(impl.Entry{}), askPut(impl.Entry{At: at(2, 5)}), askPut(impl.Entry{At: at(30, 60), Data: "last"}), askPut(impl.Entry{At: at(2, 5), Wave: 30, Hole: true})}
	list = append(list, askPut(impl.Entry{At: at(2, 5), Wave: 2}), askPut(impl.Entry{At: at(1, 1), Wave: 6, Data: "six"}), askPut(impl.Entry{At: at(1, 1), Data: strings.Repeat("x", mostData+1)}))
	for _, keep := range []int{math.MinInt, -1, 0, 1, 2, 5, 1 << 19, 0xaaaaa, mostKeep - 1, mostKeep, mostKeep + 1, 1 << 40, math.MaxInt} {
		list = append(list, askCrash(keep))
	}
	for _, upto := range []int{math.MinInt, -1, 0, 1, 2, 6, lastEpoch - 1, lastEpoch, lastEpoch + 1, math.MaxInt} {
		list = append(list, askSeal(upto))
	}
	for _, upto := range []int{math.MinInt, -1, 0, at(1, 0), at(1, 1), at(2, 5), at(3, 61), at(4, 20), at(30, 59), at(30, 60), at(31, 1), math.MaxInt} {
		list = append(list, askTrim(upto))
	}
	return list
}

func checkStoreOk(t *testing.T, s impl.Store, want bool) {
	t.Helper()
	if impl.StoreOk(s) != want || isStore(s) != want {
		t.Errorf("StoreOk(%v) is not %v", s, want)
	}
}

func TestStoreLimits(t *testing.T) {
	if impl.MaxKept != mostKept || impl.MaxLate != mostLate {
		t.Error("limits", impl.MaxKept, impl.MaxLate)
	}
}

func TestStoreOkCounts(t *testing.T) {
	for size := 0; size <= mostKept; size++ {
		checkStoreOk(t, impl.Store{Kept: entriesFrom(17, size)}, true)
	}
	for size := 0; size <= mostLate; size++ {
		checkStoreOk(t, impl.Store{Late: entriesFrom(17, size)}, true)
		checkStoreOk(t, impl.Store{Kept: entriesFrom(0, mostKept), Late: entriesFrom(17, size)}, true)
	}
	for _, more := range []int{1, 2, 20, 56, 57, 1000} {
		checkStoreOk(t, impl.Store{Kept: entriesFrom(0, mostKept+more)}, false)
		checkStoreOk(t, impl.Store{Late: entriesFrom(0, mostLate+more)}, false)
		checkStoreOk(t, impl.Store{Kept: entriesFrom(0, mostKept), Late: entriesFrom(0, mostLate+more)}, false)
		checkStoreOk(t, impl.Store{Kept: entriesFrom(0, mostKept+more), Late: entriesFrom(0, mostLate)}, false)
	}
}

// An entry that is not right is put in the place of each one in turn.
func TestStoreOkEntries(t *testing.T) {
	for _, e := range badEntries() {
		checkStoreOk(t, impl.Store{Kept: []impl.Entry{e}}, false)
		checkStoreOk(t, impl.Store{Late: []impl.Entry{e}}, false)
		for i := range 4 {
			list := entriesBy(10, 100, 4)
			list[i] = e
			checkStoreOk(t, impl.Store{Kept: list}, false)
			checkStoreOk(t, impl.Store{Late: list}, false)
			checkStoreOk(t, impl.Store{Kept: entriesFrom(0, 3), Late: list}, false)
			checkStoreOk(t, impl.Store{Kept: list, Late: entriesFrom(0, 3)}, false)
		}
	}
	for _, e := range someEntries() {
		checkStoreOk(t, impl.Store{Kept: []impl.Entry{e}, Late: []impl.Entry{e}}, true)
	}
	for i := range mostKept {
		list := entriesFrom(60, mostKept)
		list[i].Wave = 1
		checkStoreOk(t, impl.Store{Kept: list}, false)
	}
	for i := range mostLate {
		list := entriesFrom(60, mostLate)
		list[i].Wave = 1
		checkStoreOk(t, impl.Store{Late: list}, false)
	}
}

// Late need not ascend, and may have what is Kept.
func TestStoreOkOrder(t *testing.T) {
	for i := range mostKept - 1 {
		swapped, alike := entriesFrom(30, mostKept), entriesFrom(30, mostKept)
		swapped[i], swapped[i+1] = swapped[i+1], swapped[i]
		alike[i+1] = impl.Entry{At: alike[i].At, Wave: lastEpoch, Data: "another"}
		checkStoreOk(t, impl.Store{Kept: swapped}, false)
		checkStoreOk(t, impl.Store{Kept: alike}, false)
		checkStoreOk(t, impl.Store{Kept: alike[i : i+2]}, false)
		alike[i+1] = alike[i]
		checkStoreOk(t, impl.Store{Kept: alike}, false)
	}
	five := entriesBy(9, 33, 5)
	checkStoreOk(t, impl.Store{Kept: reversed(five)}, false)
	checkStoreOk(t, impl.Store{Kept: five, Late: reversed(five)}, true)
	checkStoreOk(t, impl.Store{Late: slices.Concat(five, five, reversed(five))}, true)
	checkStoreOk(t, impl.Store{Late: slices.Repeat(five[:1], mostLate)}, true)
	checkStoreOk(t, impl.Store{Kept: []impl.Entry{five[0], five[4], five[1]}}, false)
	checkStoreOk(t, impl.Store{Kept: []impl.Entry{five[0], five[1], five[0]}}, false)
	// An offset that is greater does not make up for an epoch that is less.
	checkStoreOk(t, impl.Store{Kept: []impl.Entry{{At: at(1, 60)}, {At: at(2, 1)}}}, true)
	checkStoreOk(t, impl.Store{Kept: []impl.Entry{{At: at(2, 1)}, {At: at(1, 60)}}}, false)
}

// What is there already is right at any Seal: it was put ahead of it.
func TestStoreOkSeal(t *testing.T) {
	for _, more := range []impl.Store{{}, {Kept: entriesFrom(0, 70)}, {Late: entriesBy(3, 80, 20)}, {Kept: entriesBy(0, 95, 18), Late: entriesBy(0, 95, 18)}} {
		for seal := 0; seal <= lastEpoch; seal++ {
			checkStoreOk(t, impl.Store{Kept: more.Kept, Late: more.Late, Seal: seal}, true)
		}
		for _, seal := range []int{math.MinInt, -epochStep, -31, -2, -1, 31, 32, 60, 256, epochStep, epochStep + 1, at(1, 1), math.MaxInt} {
			checkStoreOk(t, impl.Store{Kept: more.Kept, Late: more.Late, Seal: seal}, false)
		}
	}
}

func TestStoreOkSome(t *testing.T) {
	for _, s := range someStores() {
		checkStoreOk(t, s, true)
	}
	for _, s := range badStores() {
		checkStoreOk(t, s, false)
	}
}

// Whatever is asked of whatever store: what is answered is what the document says.
func TestStoreAsks(t *testing.T) {
	for _, a := range storeAsks() {
		for _, s := range someStores() {
			a.check(t, s)
		}
		for _, s := range badStores() {
			a.check(t, s)
			a.refusesWholly(t, s)
		}
	}
}

func TestPutKnown(t *testing.T) {
	one, two, hole := impl.Entry{At: at(3, 1), Data: "one"}, impl.Entry{At: at(3, 2), Data: "two"}, impl.Entry{At: at(2, 9), Wave: 3, Hole: true}
	kept := []impl.Entry{{At: at(3, 1), Data: "kept"}}
	for _, row := range []struct {
		s    impl.Store
		e    impl.Entry
		late []impl.Entry
	}{
		{impl.Store{}, one, []impl.Entry{one}},
		{impl.Store{Late: []impl.Entry{two}}, one, []impl.Entry{two, one}},
		{impl.Store{Late: []impl.Entry{one}, Seal: 2}, two, []impl.Entry{one, two}},
		{impl.Store{Kept: kept, Late: []impl.Entry{two, one}}, one, []impl.Entry{two, one, one}},
		{impl.Store{Kept: kept, Late: []impl.Entry{one}, Seal: 2}, hole, []impl.Entry{one, hole}},
		{impl.Store{Kept: entriesFrom(0, mostKept)}, nthEntry(1000), []impl.Entry{nthEntry(1000)}},
		{impl.Store{Late: []impl.Entry{hole}, Seal: 2}, impl.Entry{At: at(2, 9), Wave: 4}, []impl.Entry{hole, {At: at(2, 9), Wave: 4}}},
		{impl.Store{Late: []impl.Entry{{At: at(2, 9), Wave: 4}}, Seal: 2}, hole, []impl.Entry{{At: at(2, 9), Wave: 4}, hole}},
	} {
		askPut(row.e).answers(t, row.s, impl.Store{Kept: row.s.Kept, Late: row.late, Seal: row.s.Seal})
	}
}

func TestPutBadEntry(t *testing.T) {
	for _, e := range badEntries() {
		for _, s := range someStores() {
			askPut(e).refuses(t, s)
		}
	}
}

// New at an epoch of at most Seal is refused; mended by a wave of at most Seal is refused, whatever the epoch.
func TestPutSealEdges(t *testing.T) {
	kept, late := entriesFrom(55, 10), entriesFrom(58, 4)
	for seal := 0; seal <= lastEpoch; seal++ {
		s := impl.Store{Kept: kept, Late: late, Seal: seal}
		for _, epoch := range []int{seal - 1, seal} {
			if epoch >= 1 {
				askPut(impl.Entry{At: at(epoch, 1), Data: "old"}).refuses(t, s)
				askPut(impl.Entry{At: at(epoch, lastOff)}).refuses(t, s)
			}
		}
		if seal < lastEpoch {
			for _, e := range []impl.Entry{{At: at(seal+1, 1), Data: "new"}, {At: at(seal+1, lastOff)}, {At: at(lastEpoch, 1)}} {
				askPut(e).answers(t, s, impl.Store{Kept: kept, Late: append(slices.Clone(late), e), Seal: seal})
			}
		}
		for _, wave := range []int{seal - 1, seal} {
			if wave >= 2 {
				askPut(impl.Entry{At: at(1, 5), Wave: wave, Data: "old"}).refuses(t, s)
				askPut(impl.Entry{At: at(wave-1, 5), Wave: wave, Hole: true}).refuses(t, s)
			}
		}
		if seal >= 1 && seal < lastEpoch {
			for _, e := range []impl.Entry{{At: at(1, 5), Wave: seal + 1, Data: "new"}, {At: at(seal, 5), Wave: seal + 1, Hole: true}, {At: at(seal, 5), Wave: lastEpoch}} {
				askPut(e).answers(t, s, impl.Store{Kept: kept, Late: append(slices.Clone(late), e), Seal: seal})
			}
		}
	}
}

// Each Seal with each epoch and each wave.
func TestPutEvery(t *testing.T) {
	for seal := 0; seal <= lastEpoch; seal++ {
		s := impl.Store{Late: entriesFrom(0, 1), Seal: seal}
		for epoch := 0; epoch <= lastEpoch+1; epoch++ {
			for wave := -1; wave <= lastEpoch+1; wave++ {
				askPut(impl.Entry{At: at(epoch, 7), Wave: wave, Data: "d"}).check(t, s)
				askPut(impl.Entry{At: at(epoch, 8), Wave: wave, Hole: true}).check(t, s)
			}
		}
	}
}

func TestPutFull(t *testing.T) {
	e := impl.Entry{At: at(9, 9), Data: "more"}
	for _, kept := range [][]impl.Entry{nil, entriesFrom(0, mostKept), {e}} {
		for size := range mostLate {
			late := entriesFrom(40, size)
			askPut(e).answers(t, impl.Store{Kept: kept, Late: late}, impl.Store{Kept: kept, Late: append(slices.Clone(late), e)})
		}
		askPut(e).refuses(t, impl.Store{Kept: kept, Late: entriesFrom(40, mostLate)})
		askPut(nthEntry(41)).refuses(t, impl.Store{Kept: kept, Late: entriesFrom(40, mostLate)})
		askPut(e).refusesWholly(t, impl.Store{Kept: kept, Late: entriesFrom(40, mostLate+1)})
	}
}

func TestPutInARow(t *testing.T) {
	var s impl.Store
	list := slices.Concat(reversed(entriesFrom(70, 10)), entriesFrom(75, 10))
	for i, e := range list {
		next, ok := impl.StorePut(s, e)
		if !ok || !slices.Equal(next.Late, list[:i+1]) || len(next.Kept) != 0 || next.Seal != 0 {
			t.Fatalf("put %v: %v, %v", e, next, ok)
		}
		s = next
	}
	askPut(list[0]).refuses(t, s)
}

// rowsOfWaves has each row of so many waves, of those that there are.
func rowsOfWaves(size int, waves []int) [][]int {
	rows := [][]int{nil}
	for range size {
		var longer [][]int
		for _, row := range rows {
			for _, wave := range waves {
				longer = append(longer, append(slices.Clone(row), wave))
			}
		}
		rows = longer
	}
	return rows
}

// The first of those with the greatest wave is kept, of what was there and then of Late, in order; Data tells which one it is.
func TestSyncBetter(t *testing.T) {
	for size := 1; size <= 5; size++ {
		for _, row := range rowsOfWaves(size, []int{0, 5, 6, 30}) {
			var all []impl.Entry
			for i, wave := range row {
				all = append(all, impl.Entry{At: at(4, 9), Wave: wave, Data: strconv.Itoa(i)})
			}
			best := slices.Index(row, slices.Max(row))
			askSync().answers(t, impl.Store{Late: all, Seal: 2}, impl.Store{Kept: all[best : best+1], Seal: 2})
			askSync().answers(t, impl.Store{Kept: all[:1], Late: all[1:]}, impl.Store{Kept: all[best : best+1]})
			told := all[0]
			for _, e := range all[1:] {
				told = impl.Better(told, e)
			}
			if told != all[best] {
				t.Fatalf("Better of %v is %v", all, told)
			}
		}
	}
}

func TestSyncHoles(t *testing.T) {
	data, hole := impl.Entry{At: at(4, 9), Wave: 6, Data: "d"}, impl.Entry{At: at(4, 9), Wave: 6, Hole: true}
	older, later := impl.Entry{At: at(4, 9), Wave: 5, Hole: true}, impl.Entry{At: at(4, 9), Wave: 7, Hole: true}
	fresh := impl.Entry{At: at(4, 9), Data: "fresh"}
	for _, row := range [][3]impl.Entry{
		{data, hole, data}, {hole, data, hole}, {data, older, data}, {older, data, data}, {data, later, later}, {later, data, later},
		{fresh, older, older}, {older, fresh, older}, {fresh, data, data}, {hole, fresh, hole}, {impl.Entry{At: at(4, 9)}, fresh, impl.Entry{At: at(4, 9)}},
	} {
		askSync().answers(t, impl.Store{Kept: row[:1], Late: row[1:2]}, impl.Store{Kept: row[2:]})
		askSync().answers(t, impl.Store{Late: row[:2]}, impl.Store{Kept: row[2:]})
	}
}

// Late ones go to their own places among what is Kept: ahead of all, between, behind all.
func TestSyncOrder(t *testing.T) {
	all := entriesFrom(50, 9)
	for mask := range 1 << len(all) {
		var kept, late []impl.Entry
		for i, e := range all {
			if mask>>i&1 == 1 {
				kept = append(kept, e)
			} else {
				late = append(late, e)
			}
		}
		askSync().answers(t, impl.Store{Kept: kept, Late: late, Seal: 7}, impl.Store{Kept: all, Seal: 7})
		askSync().answers(t, impl.Store{Kept: kept, Late: reversed(late)}, impl.Store{Kept: all})
		askSync().answers(t, impl.Store{Kept: kept, Late: slices.Concat(late, late)}, impl.Store{Kept: all})
	}
}

func TestSyncNothingLate(t *testing.T) {
	for _, s := range someStores() {
		s.Late = nil
		askSync().answers(t, s, s)
		askCrash(0).answers(t, s, s)
		askCrash(mostKeep).answers(t, s, s)
		askSeal(s.Seal).answers(t, s, s)
		askSeal(0).answers(t, s, s)
	}
}

// A Seal refuses only what is new: what came ahead of it is kept.
func TestSyncSealed(t *testing.T) {
	late := entriesFrom(0, 5)
	for seal := 0; seal <= lastEpoch; seal++ {
		askSync().answers(t, impl.Store{Late: late, Seal: seal}, impl.Store{Kept: late, Seal: seal})
		askCrash(31).answers(t, impl.Store{Late: late, Seal: seal}, impl.Store{Kept: late, Seal: seal})
	}
}

func TestSyncFull(t *testing.T) {
	for size := 0; size <= mostLate; size++ {
		room := mostKept - size
		kept, late := entriesFrom(100, room), entriesFrom(400, size)
		askSync().answers(t, impl.Store{Kept: kept, Late: late, Seal: 3}, impl.Store{Kept: slices.Concat(kept, late), Seal: 3})
		before := entriesFrom(0, size)
		askSync().answers(t, impl.Store{Kept: kept, Late: reversed(before)}, impl.Store{Kept: slices.Concat(before, kept)})
		askSync().answers(t, impl.Store{Kept: entriesFrom(0, mostKept), Late: entriesBy(0, 7, size)}, impl.Store{Kept: entriesFrom(0, mostKept)})
		if size == 0 {
			continue
		}
		more := append(slices.Clone(kept), nthEntry(1500))
		askSync().refuses(t, impl.Store{Kept: more, Late: late, Seal: 3})
		askSync().refuses(t, impl.Store{Kept: more, Late: reversed(before)})
		askSync().refuses(t, impl.Store{Kept: entriesFrom(0, mostKept), Late: append(entriesBy(0, 7, size-1), nthEntry(1500))})
		askSync().refuses(t, impl.Store{Kept: entriesFrom(0, mostKept), Late: append([]impl.Entry{nthEntry(1500)}, entriesBy(0, 7, size-1)...)})
	}
	// One place more, that Late has twice, is one more only.
	twice := []impl.Entry{nthEntry(700), {At: nthEntry(700).At, Wave: lastEpoch, Data: "z"}}
	askSync().answers(t, impl.Store{Kept: entriesFrom(0, mostKept-1), Late: twice}, impl.Store{Kept: append(entriesFrom(0, mostKept-1), twice[1])})
	askSync().refuses(t, impl.Store{Kept: entriesFrom(0, mostKept), Late: twice})
	askSync().refuses(t, impl.Store{Kept: entriesFrom(0, mostKept-1), Late: append(twice, nthEntry(701))})
}

// What is refused keeps nothing of Late, not even what would be better.
func TestSyncRefusedChangesNothing(t *testing.T) {
	better := impl.Entry{At: nthEntry(6).At, Wave: 29, Data: "better"}
	s := impl.Store{Kept: entriesFrom(0, mostKept), Late: []impl.Entry{better, nthEntry(1000)}, Seal: 4}
	before := cloneStore(s)
	for _, a := range []storeAsk{askSync(), askCrash(3), askCrash(2), askSeal(4), askSeal(9), askCrash(-1), askCrash(mostKeep + 1), askSeal(-1), askSeal(lastEpoch + 1)} {
		a.refuses(t, s)
		if !sameStore(s, before) {
			t.Fatal(a.name, "wrote into its argument")
		}
	}
	next, ok := impl.StoreCrash(s, 1)
	if e, _ := impl.StoreGet(next, better.At); !ok || e != better || len(next.Kept) != mostKept || len(next.Late) != 0 {
		t.Error("a crash that keeps only what is better", ok)
	}
}

func TestCrashKnown(t *testing.T) {
	a, b, c := impl.Entry{At: at(1, 3), Data: "a"}, impl.Entry{At: at(1, 1), Data: "b"}, impl.Entry{At: at(1, 3), Wave: 2, Hole: true}
	k := impl.Entry{At: at(1, 2), Data: "k"}
	s := impl.Store{Kept: []impl.Entry{k}, Late: []impl.Entry{a, b, c}, Seal: 1}
	for _, row := range []struct {
		keep int
		kept []impl.Entry
	}{
		{0, []impl.Entry{k}}, {1, []impl.Entry{k, a}}, {2, []impl.Entry{b, k}}, {3, []impl.Entry{b, k, a}}, {4, []impl.Entry{k, c}}, {5, []impl.Entry{k, c}},
		{6, []impl.Entry{b, k, c}}, {7, []impl.Entry{b, k, c}}, {8, []impl.Entry{k}}, {9, []impl.Entry{k, a}}, {1 << 19, []impl.Entry{k}}, {mostKeep, []impl.Entry{b, k, c}}, {mostKeep - 4, []impl.Entry{b, k, a}},
	} {
		askCrash(row.keep).answers(t, s, impl.Store{Kept: row.kept, Seal: 1})
	}
}

// Every bit alone, and every bit but that one, of Late of each size: bits beyond Late have no meaning.
func TestCrashBits(t *testing.T) {
	kept := entriesBy(5, 30, 20)
	for size := 0; size <= mostLate; size++ {
		s := impl.Store{Kept: kept, Late: reversed(entriesBy(8, 30, size)), Seal: 2}
		askCrash(0).answers(t, s, impl.Store{Kept: kept, Seal: 2})
		for bit := range 20 {
			askCrash(1<<bit).check(t, s)
			askCrash(mostKeep-1<<bit).check(t, s)
			next, ok := impl.StoreCrash(s, 1<<bit)
			if bit >= size && (!ok || !sameStore(next, impl.Store{Kept: kept, Seal: 2})) {
				t.Fatalf("bit %d of %d late: %v", bit, size, next)
			}
			if bit < size && (!ok || len(next.Kept) != len(kept)+1 || !slices.Contains(next.Kept, s.Late[bit]) || len(next.Late) != 0) {
				t.Fatalf("bit %d of %d late: %v", bit, size, next)
			}
		}
		whole, _ := impl.StoreSync(s)
		askCrash(mostKeep).answers(t, s, whole)
		askCrash(1<<size-1).answers(t, s, whole)
	}
}

func TestCrashEvery(t *testing.T) {
	var late []impl.Entry
	for i, wave := range []int{0, 5, 0, 7, 5, 0, 7, 0, 30, 0} {
		late = append(late, impl.Entry{At: at(4, 1+i%3), Wave: wave, Data: strconv.Itoa(i)})
	}
	for _, kept := range [][]impl.Entry{nil, {{At: at(4, 2), Wave: 6, Data: "k"}}, entriesFrom(179, 6)} {
		for keep := range 1 << 11 {
			askCrash(keep).check(t, impl.Store{Kept: kept, Late: late})
		}
	}
	drawn := rand.New(rand.NewSource(61))
	s := impl.Store{Kept: entriesFrom(0, 30), Late: entriesBy(2, 3, mostLate), Seal: 1}
	for range 2000 {
		askCrash(drawn.Intn(mostKeep+1)).check(t, s)
	}
}

func TestCrashBadKeep(t *testing.T) {
	for _, keep := range []int{math.MinInt, math.MinInt + 1, -epochStep, -mostKeep - 1, -mostKeep, -2, -1, mostKeep + 1, mostKeep + 2, 1 << 21, 1 << 32, 1<<32 + 1, 1 << 62, math.MaxInt - 1, math.MaxInt} {
		for _, s := range someStores() {
			askCrash(keep).refuses(t, s)
		}
		for _, s := range badStores() {
			askCrash(keep).refusesWholly(t, s)
		}
	}
	s := impl.Store{Kept: entriesFrom(3, 2), Late: entriesFrom(8, mostLate)}
	askCrash(mostKeep).answers(t, s, impl.Store{Kept: slices.Concat(s.Kept, s.Late)})
	askCrash(1<<19).answers(t, s, impl.Store{Kept: append(slices.Clone(s.Kept), s.Late[19])})
}

// All of Late would be too many; those of keep are counted alone.
func TestCrashTooMany(t *testing.T) {
	kept, late := entriesFrom(0, mostKept-2), entriesFrom(300, 5)
	s := impl.Store{Kept: kept, Late: late, Seal: 8}
	askSync().refuses(t, s)
	askSeal(9).refuses(t, s)
	for keep := range 1 << 6 {
		var some []impl.Entry
		for i, e := range late {
			if keep>>i&1 == 1 {
				some = append(some, e)
			}
		}
		if len(some) > 2 {
			askCrash(keep).refuses(t, s)
		} else {
			askCrash(keep).answers(t, s, impl.Store{Kept: slices.Concat(kept, some), Seal: 8})
		}
	}
	full := impl.Store{Kept: entriesFrom(0, mostKept), Late: []impl.Entry{nthEntry(900), nthEntry(7)}}
	askCrash(0).answers(t, full, impl.Store{Kept: full.Kept})
	askCrash(2).answers(t, full, impl.Store{Kept: full.Kept})
	askCrash(1).refuses(t, full)
	askCrash(mostKeep).refuses(t, full)
}

func TestSealUpto(t *testing.T) {
	kept, late := entriesFrom(55, 6), entriesFrom(59, 6)
	for seal := 0; seal <= lastEpoch; seal++ {
		s := impl.Store{Kept: kept, Late: late, Seal: seal}
		for upto := 0; upto <= lastEpoch; upto++ {
			want := impl.Store{Kept: entriesFrom(55, 10), Seal: max(seal, upto)}
			askSeal(upto).answers(t, s, want)
			askSeal(upto).answers(t, impl.Store{Seal: seal}, impl.Store{Seal: max(seal, upto)})
		}
		for _, upto := range []int{math.MinInt, -epochStep, -30, -1, lastEpoch + 1, lastEpoch + 2, 60, epochStep, at(1, 1), math.MaxInt} {
			askSeal(upto).refuses(t, s)
			askSeal(upto).refuses(t, impl.Store{Seal: seal})
		}
	}
}

func TestSealTooMany(t *testing.T) {
	s := impl.Store{Kept: entriesFrom(0, mostKept-1), Late: entriesFrom(500, 2), Seal: 3}
	for upto := -1; upto <= lastEpoch+1; upto++ {
		askSeal(upto).refuses(t, s)
	}
	s.Late = s.Late[:1]
	for upto := 0; upto <= lastEpoch; upto++ {
		askSeal(upto).answers(t, s, impl.Store{Kept: append(slices.Clone(s.Kept), s.Late[0]), Seal: max(3, upto)})
	}
}

// checkGets asks for each place there is, and for what is no place.
func checkGets(t *testing.T, s impl.Store) {
	t.Helper()
	places := append(notPlaces(), 0, math.MinInt, math.MaxInt)
	for epoch := 1; epoch <= lastEpoch; epoch++ {
		for off := 0; off <= lastOff+1; off++ {
			places = append(places, at(epoch, off))
		}
	}
	for _, place := range places {
		want, wantOk := getIs(s, place)
		if e, ok := impl.StoreGet(s, place); e != want || ok != wantOk {
			t.Fatalf("StoreGet(%v, %d) = %v, %v; want %v, %v", s, place, e, ok, want, wantOk)
		}
	}
}

func checkEras(t *testing.T, s impl.Store) {
	t.Helper()
	for _, epoch := range append(someWaves(), at(1, 1), at(2, 5), 1<<32, -1<<32) {
		if got, want := impl.StoreEra(s, epoch), eraIs(s, epoch); !slices.Equal(got, want) {
			t.Fatalf("StoreEra(%v, %d) = %v; want %v", s, epoch, got, want)
		}
	}
}

func TestStoreGetEra(t *testing.T) {
	for _, s := range slices.Concat(someStores(), badStores()) {
		checkGets(t, s)
		checkEras(t, s)
	}
}

func TestGetKnown(t *testing.T) {
	a, b, c := impl.Entry{At: at(1, 60), Data: "a"}, impl.Entry{At: at(2, 1), Wave: 3, Hole: true}, impl.Entry{At: at(30, 60)}
	late := impl.Entry{At: at(2, 2), Data: "late"}
	s := impl.Store{Kept: []impl.Entry{a, b, c}, Late: []impl.Entry{late, {At: a.At, Wave: 9, Data: "better"}}, Seal: 2}
	for _, e := range s.Kept {
		if got, ok := impl.StoreGet(s, e.At); got != e || !ok {
			t.Errorf("%v: %v, %v", e, got, ok)
		}
	}
	for _, place := range append(notPlaces(), late.At, at(1, 59), at(2, 3), at(30, 59), a.At-1, a.At+1, b.At-1, c.At+1) {
		if got, ok := impl.StoreGet(s, place); got != (impl.Entry{}) || ok {
			t.Errorf("%d: %v, %v", place, got, ok)
		}
	}
	s.Seal = -1
	for _, e := range s.Kept {
		if got, ok := impl.StoreGet(s, e.At); got != (impl.Entry{}) || ok {
			t.Errorf("of what is not right: %v, %v", got, ok)
		}
	}
}

func TestEraKnown(t *testing.T) {
	s := impl.Store{Kept: slices.Concat(entriesFrom(57, 6), entriesFrom(1740, 60)), Late: entriesFrom(130, 4), Seal: 9}
	for _, row := range []struct {
		epoch int
		want  []impl.Entry
	}{
		{1, s.Kept[:3]}, {2, s.Kept[3:6]}, {30, s.Kept[6:]}, {3, nil}, {29, nil}, {0, nil}, {-1, nil}, {31, nil}, {at(1, 1), nil}, {math.MinInt, nil}, {math.MaxInt, nil},
	} {
		if got := impl.StoreEra(s, row.epoch); !slices.Equal(got, row.want) {
			t.Errorf("epoch %d: %v", row.epoch, got)
		}
	}
	s.Seal = lastEpoch + 1
	for epoch := -1; epoch <= lastEpoch+1; epoch++ {
		if got := impl.StoreEra(s, epoch); len(got) != 0 {
			t.Errorf("epoch %d of what is not right: %v", epoch, got)
		}
	}
}

// Below, at and above each place that is Kept, with Late and Seal as they were.
func TestTrimEdges(t *testing.T) {
	for _, kept := range [][]impl.Entry{nil, entriesBy(1, 2, 20), entriesBy(57, 60, 29), entriesFrom(100, mostKept)} {
		s := impl.Store{Kept: kept, Late: reversed(entriesFrom(58, 6)), Seal: 5}
		askTrim(at(lastEpoch, lastOff)).answers(t, s, impl.Store{Late: s.Late, Seal: 5})
		for i, e := range kept {
			askTrim(e.At).answers(t, s, impl.Store{Kept: kept[i+1:], Late: s.Late, Seal: 5})
			if impl.PlaceOk(e.At - 1) {
				askTrim(e.At-1).answers(t, s, impl.Store{Kept: kept[i:], Late: s.Late, Seal: 5})
			}
			askTrim(e.At+1).check(t, s)
		}
		for n := 0; n < lastEpoch*lastOff; n += 7 {
			askTrim(nthEntry(n).At).check(t, s)
		}
	}
	whole := impl.Store{Kept: entriesFrom(10, 5), Late: entriesFrom(0, 3), Seal: lastEpoch}
	askTrim(at(1, 1)).answers(t, whole, whole)
	askTrim(at(1, 10)).answers(t, whole, whole)
	askTrim(at(1, 15)).answers(t, whole, impl.Store{Late: whole.Late, Seal: lastEpoch})
}

func TestTrimNoPlace(t *testing.T) {
	for _, upto := range notPlaces() {
		for _, s := range someStores() {
			askTrim(upto).refuses(t, s)
		}
		for _, s := range badStores() {
			askTrim(upto).refusesWholly(t, s)
		}
	}
}

func checkPack(t *testing.T, s impl.Store) {
	t.Helper()
	want, wantOk := packIs(s)
	if b, ok := impl.StorePack(s); ok != wantOk || !bytes.Equal(b, want) {
		t.Fatalf("StorePack(%v) = %.400q, %v; want %.400q, %v", s, b, ok, want, wantOk)
	}
}

// checkStoreRead asks for what the bytes are by the tests' own reading.
func checkStoreRead(t *testing.T, b []byte) {
	t.Helper()
	want, wantOk := storeOf(b)
	if s, ok := impl.StoreRead(b); ok != wantOk || !sameStore(s, want) {
		t.Fatalf("StoreRead(%.400q) = %v, %v; want %v, %v", b, s, ok, want, wantOk)
	}
}

func checkReadsStore(t *testing.T, b []byte, want impl.Store) {
	t.Helper()
	if s, ok := impl.StoreRead(b); !ok || !sameStore(s, want) {
		t.Fatalf("StoreRead(%.400q) = %v, %v; want %v", b, s, ok, want)
	}
}

func checkNoStore(t *testing.T, b []byte) {
	t.Helper()
	if s, ok := impl.StoreRead(b); ok || !sameStore(s, impl.Store{}) {
		t.Fatalf("StoreRead(%.400q) = %v, %v", b, s, ok)
	}
}

func TestPackKnown(t *testing.T) {
	for _, row := range []struct {
		s    impl.Store
		form string
	}{
		{impl.Store{}, "\x00\x00"},
		{impl.Store{Seal: 30}, "\x1e\x00"},
		{impl.Store{Kept: []impl.Entry{{At: 4294967297}}}, "\x00\x01\x81\x80\x80\x80\x10\x00\x00\x00"},
		{impl.Store{Kept: []impl.Entry{{At: 4294967298, Wave: 2, Hole: true}}, Seal: 1}, "\x01\x01\x82\x80\x80\x80\x10\x02\x01\x00"},
		{impl.Store{Kept: []impl.Entry{{At: 4294967298, Data: "hi"}, {At: 8589934652, Wave: 30, Data: "\xff"}}, Seal: 7}, "\x07\x02\x82\x80\x80\x80\x10\x00\x00\x02hi\xbc\x80\x80\x80\x20\x1e\x00\x01\xff"},
	} {
		if b, ok := impl.StorePack(row.s); string(b) != row.form || !ok {
			t.Errorf("StorePack(%v) = %q, %v; want %q", row.s, b, ok, row.form)
		}
		checkReadsStore(t, []byte(row.form), row.s)
	}
}

func TestPackSome(t *testing.T) {
	for _, s := range slices.Concat(someStores(), badStores()) {
		checkPack(t, s)
		if len(s.Late) > 0 {
			if b, ok := impl.StorePack(s); len(b) != 0 || ok {
				t.Errorf("something is late: %.80q, %v", b, ok)
			}
		}
		s.Late = nil
		checkPack(t, s)
		if b, ok := impl.StorePack(s); ok {
			checkReadsStore(t, b, s)
		} else if isStore(s) {
			t.Errorf("StorePack(%v) is refused", s)
		}
	}
}

// A count of 128 and more has two bytes.
func TestPackCounts(t *testing.T) {
	for size := 0; size <= mostKept; size++ {
		s := impl.Store{Kept: entriesBy(2, 8, size), Seal: size % 31}
		checkPack(t, s)
		b, _ := impl.StorePack(s)
		checkReadsStore(t, b, s)
		checkNoStore(t, append(bytes.Clone(b), 0))
		checkNoStore(t, b[:len(b)-1])
	}
	for _, size := range []int{mostKept + 1, mostKept + 2, 255, 256, 257, 1000} {
		checkNoStore(t, storeForm(4, size, entriesFrom(1, size)))
		if b, ok := impl.StorePack(impl.Store{Kept: entriesFrom(1, size)}); len(b) != 0 || ok {
			t.Errorf("%d are packed", size)
		}
	}
}

func TestStoreReadSeal(t *testing.T) {
	for _, kept := range [][]impl.Entry{nil, fewEntries()[:1], entriesFrom(59, 3)} {
		for seal := 0; seal <= lastEpoch; seal++ {
			checkReadsStore(t, storeForm(seal, len(kept), kept), impl.Store{Kept: kept, Seal: seal})
		}
		for _, seal := range append(numbersOfAllSizes(), 31, 32, 127, 128, 256, 1<<32, 1<<32+1, math.MaxInt) {
			if seal > lastEpoch {
				checkNoStore(t, storeForm(seal, len(kept), kept))
			}
		}
	}
}

// A count that is not that of the entries; a very great one is refused, and not gone through.
func TestStoreReadCount(t *testing.T) {
	for size := range 12 {
		kept := entriesBy(57, 2, size)
		for _, count := range append(numbersOfAllSizes(), 2, 3, 11, 12, 199, 200, 201, 256, 1<<32, 1<<32+size, 1<<40, math.MaxInt) {
			b := storeForm(6, count, kept)
			checkStoreRead(t, b)
			if count != size {
				checkNoStore(t, b)
			}
		}
	}
	full := entriesFrom(0, mostKept+1)
	checkNoStore(t, storeForm(0, mostKept-1, full[:mostKept]))
	checkNoStore(t, storeForm(0, mostKept+1, full[:mostKept]))
	checkNoStore(t, storeForm(0, mostKept, full))
	checkNoStore(t, storeForm(0, mostKept, full[:mostKept-1]))
	checkReadsStore(t, storeForm(0, mostKept, full[:mostKept]), impl.Store{Kept: full[:mostKept]})
}

func TestStoreReadOrder(t *testing.T) {
	list := entriesBy(55, 3, 5)
	for i := range list {
		for j := range list {
			swapped := slices.Clone(list)
			swapped[i], swapped[j] = swapped[j], swapped[i]
			alike := slices.Clone(list)
			alike[i] = list[j]
			if i != j {
				checkNoStore(t, storeForm(3, len(list), swapped))
				checkNoStore(t, storeForm(3, len(list), alike))
			}
		}
	}
	checkNoStore(t, storeForm(0, 2, []impl.Entry{{At: at(1, 2)}, {At: at(1, 2), Wave: 2}}))
	checkNoStore(t, storeForm(0, 2, []impl.Entry{{At: at(2, 1)}, {At: at(1, 60)}}))
	checkReadsStore(t, storeForm(0, 2, []impl.Entry{{At: at(1, 60)}, {At: at(2, 1)}}), impl.Store{Kept: []impl.Entry{{At: at(1, 60)}, {At: at(2, 1)}}})
}

func TestStoreReadBadEntry(t *testing.T) {
	for _, e := range badEntries() {
		if e.At < 0 || e.Wave < 0 {
			continue
		}
		for i := range 3 {
			list := entriesBy(10, 100, 3)
			list[i] = e
			checkNoStore(t, storeForm(1, 3, list))
		}
		checkNoStore(t, storeForm(1, 1, []impl.Entry{e}))
	}
}

// packedStores has bytes of small stores, for tests that go over every byte.
func packedStores() [][]byte {
	few := fewEntries()[:7]
	slices.SortFunc(few, func(a impl.Entry, b impl.Entry) int { return a.At - b.At })
	return [][]byte{storeForm(0, 0, nil), storeForm(30, 0, nil), storeForm(2, 1, few[:1]), storeForm(9, 2, few[1:3]), storeForm(29, 7, few)}
}

// What stands in the spare room behind the bytes is none of them, though it would end the store.
func TestStoreReadSize(t *testing.T) {
	for _, b := range packedStores() {
		for size := range b {
			checkNoStore(t, b[:size])
			checkNoStore(t, bytes.Clone(b[:size]))
			checkStoreRead(t, b[size+1:])
		}
		for c := range 256 {
			checkNoStore(t, append(bytes.Clone(b), byte(c)))
		}
		checkNoStore(t, slices.Concat(b, b))
		for _, side := range fillings() {
			checkStoreRead(t, slices.Concat(b, side))
			checkStoreRead(t, slices.Concat(side, b))
			if len(side) > 0 {
				checkNoStore(t, slices.Concat(b, side))
			}
		}
	}
	checkNoStore(t, nil)
	checkNoStore(t, []byte{})
}

func TestStoreReadEveryByte(t *testing.T) {
	for _, b := range packedStores() {
		for i := range b {
			for c := range 256 {
				changed := bytes.Clone(b)
				changed[i] = byte(c)
				checkStoreRead(t, changed)
			}
			checkStoreRead(t, slices.Delete(bytes.Clone(b), i, i+1))
		}
	}
	for c := range 1 << 16 {
		checkStoreRead(t, []byte{byte(c), byte(c >> 8)})
	}
}

// Each number of a store's bytes in forms that are not the shortest.
func TestStoreReadNotShortest(t *testing.T) {
	list := []impl.Entry{{At: at(1, 2), Data: "hi"}, {At: at(2, 60), Wave: 30, Hole: true}}
	var parts [][]byte
	for _, x := range []int{5, len(list)} {
		parts = append(parts, binary.AppendUvarint(nil, uint64(x)))
	}
	for _, e := range list {
		four := partsOf(e)
		parts = append(parts, four[:]...)
		parts = append(parts, []byte(e.Data))
	}
	checkReadsStore(t, bytes.Join(parts, nil), impl.Store{Kept: list, Seal: 5})
	for i := range parts {
		if i == 6 || i == 11 {
			continue // Data, which is no number
		}
		longer := slices.Clone(parts)
		longer[i] = bytes.Clone(parts[i])
		for len(longer[i]) < 12 {
			longer[i][len(longer[i])-1] += 128
			longer[i] = append(longer[i], 0)
			checkNoStore(t, bytes.Join(longer, nil))
		}
	}
}

// drawnEntry is mostly right, and of few places, so that the same ones come again.
func drawnEntry(drawn *rand.Rand) impl.Entry {
	epoch := 1 + drawn.Intn(5)
	e := impl.Entry{At: at(epoch, 1+drawn.Intn(4)), Data: strconv.Itoa(drawn.Intn(1000))}
	if drawn.Intn(2) == 0 {
		e.Wave = epoch + drawn.Intn(6)
	}
	if drawn.Intn(4) == 0 {
		e.Hole, e.Data = true, ""
	}
	return e
}

func drawnAsk(drawn *rand.Rand) storeAsk {
	switch k := drawn.Intn(40); {
	case k < 26:
		return askPut(drawnEntry(drawn))
	case k < 31:
		return askSync()
	case k < 36:
		return askCrash(drawn.Intn(1<<uint(drawn.Intn(22))) - drawn.Intn(2))
	case k < 38:
		return askSeal(drawn.Intn(5) - drawn.Intn(2))
	case k < 39:
		return askTrim(at(1+drawn.Intn(2), drawn.Intn(4)))
	}
	return askCrash(0)
}

// checkStays is promise 6 of one step: what is kept stays or becomes better, and whatever is kept was kept or late.
func checkStays(t *testing.T, name string, before impl.Store, after impl.Store) {
	t.Helper()
	trim := strings.HasPrefix(name, "StoreTrim")
	kept := map[int]impl.Entry{}
	for _, e := range after.Kept {
		kept[e.At] = e
	}
	for _, e := range before.Kept {
		now, ok := kept[e.At]
		if !ok && !trim {
			t.Fatalf("%s: %v is lost", name, e)
		}
		if ok && now != e && (now.Wave <= e.Wave || trim) {
			t.Fatalf("%s: %v became %v", name, e, now)
		}
	}
	for _, e := range after.Kept {
		if !slices.Contains(before.Kept, e) && !slices.Contains(before.Late, e) {
			t.Fatalf("%s: %v was neither kept nor late", name, e)
		}
	}
	if after.Seal < before.Seal {
		t.Fatalf("%s: the seal went back from %d to %d", name, before.Seal, after.Seal)
	}
}

// checkSealed asks that nothing new of an epoch up to Seal, and nothing of a wave up to it, is taken.
func checkSealed(t *testing.T, s impl.Store) {
	t.Helper()
	for epoch := 1; epoch <= s.Seal; epoch++ {
		askPut(impl.Entry{At: at(epoch, 2), Data: "new"}).refuses(t, s)
		for wave := epoch + 1; wave <= s.Seal; wave++ {
			askPut(impl.Entry{At: at(epoch, 2), Wave: wave, Hole: true}).refuses(t, s)
		}
	}
}

// sealedStays is promise 6 over a whole row: behind a seal nothing is late that is old, but for what is mended by a later wave.
func sealedStays(t *testing.T, s impl.Store) {
	t.Helper()
	for _, e := range s.Late {
		if e.Wave <= s.Seal && e.At/epochStep <= s.Seal {
			t.Fatalf("%v is late, and older than %d", e, s.Seal)
		}
	}
}

func TestStoreDrawnRows(t *testing.T) {
	t.Parallel()
	for seed := range 400 {
		drawn := rand.New(rand.NewSource(int64(seed)))
		var s impl.Store
		for range 120 {
			a := drawnAsk(drawn)
			a.check(t, s)
			before := cloneStore(s)
			next, ok := a.ask(s)
			if !ok && !sameStore(next, before) {
				t.Fatalf("%s is refused, and turns %v into %v", a.name, before, next)
			}
			if !impl.StoreOk(next) {
				t.Fatalf("%s answers what is not right: %v", a.name, next)
			}
			checkStays(t, a.name, before, next)
			checkSealed(t, next)
			sealedStays(t, next)
			s = next
		}
	}
}

// Rows at the limits: nearly full stores, and late ones of many places.
func TestStoreDrawnFull(t *testing.T) {
	t.Parallel()
	for seed := range 60 {
		drawn := rand.New(rand.NewSource(int64(1000 + seed)))
		s := impl.Store{Kept: entriesBy(0, 9, mostKept-drawn.Intn(12))}
		for range 150 {
			a := drawnAsk(drawn)
			if drawn.Intn(2) == 0 {
				a = askPut(nthEntry(drawn.Intn(1800)))
			}
			if strings.HasPrefix(a.name, "StoreTrim") {
				continue
			}
			a.check(t, s)
			next, _ := a.ask(s)
			checkStays(t, a.name, s, next)
			sealedStays(t, next)
			s = next
		}
	}
}

// What a crash keeps is what was Kept, and of Late just what has its bit, unless a better one is kept.
func TestCrashKeepsLate(t *testing.T) {
	drawn := rand.New(rand.NewSource(7))
	for range 3000 {
		var s impl.Store
		for range drawn.Intn(30) {
			s, _ = impl.StorePut(s, drawnEntry(drawn))
			if drawn.Intn(9) == 0 {
				s, _ = impl.StoreSync(s)
			}
		}
		keep := drawn.Intn(mostKeep + 1)
		after, ok := impl.StoreCrash(s, keep)
		if !ok || len(after.Late) != 0 {
			t.Fatalf("a crash of %v: %v, %v", s, after, ok)
		}
		var some []impl.Entry
		for i, e := range s.Late {
			if keep>>i&1 == 1 {
				some = append(some, e)
				if now, ok := impl.StoreGet(after, e.At); !ok || now.Wave < e.Wave {
					t.Fatalf("%v is not kept by %b, but %v", e, keep, now)
				}
			}
		}
		for _, e := range after.Kept {
			if !slices.Contains(s.Kept, e) && !slices.Contains(some, e) {
				t.Fatalf("%v is kept by %b of %v", e, keep, s)
			}
		}
	}
}

// entriesWithRoom lays list between other entries, with spare room behind it; the whole is answered too.
func entriesWithRoom(list []impl.Entry) ([]impl.Entry, []impl.Entry) {
	side := slices.Repeat([]impl.Entry{{At: -7, Wave: -8, Hole: true, Data: "room"}}, 30)
	whole := slices.Concat(side[:2], list, side)
	return whole[2 : 2+len(list)], whole
}

// spoilEntries writes over all that an answer's memory holds, the spare room too.
func spoilEntries(list []impl.Entry) {
	list = list[:cap(list)]
	for i := range list {
		list[i] = impl.Entry{At: -99, Wave: -98, Hole: true, Data: "spoilt"}
	}
}

func spoilStore(s impl.Store) {
	spoilEntries(s.Kept)
	spoilEntries(s.Late)
}

// The answers are written over too: what they share with an argument, or with the room behind one, would be seen.
func TestStoreWritesNothing(t *testing.T) {
	for _, s := range slices.Concat(someStores(), badStores()) {
		kept, keptWhole := entriesWithRoom(s.Kept)
		late, lateWhole := entriesWithRoom(s.Late)
		keptBefore, lateBefore := slices.Clone(keptWhole), slices.Clone(lateWhole)
		given := impl.Store{Kept: kept, Late: late, Seal: s.Seal}
		check := func(name string) {
			t.Helper()
			if !slices.Equal(keptWhole, keptBefore) || !slices.Equal(lateWhole, lateBefore) {
				t.Fatalf("%s of %v wrote into it", name, s)
			}
		}
		for _, a := range storeAsks() {
			got, _ := a.ask(given)
			spoilStore(got)
			check(a.name)
		}
		impl.StoreOk(given)
		impl.StoreGet(given, at(2, 5))
		for epoch := range 31 {
			spoilEntries(impl.StoreEra(given, epoch))
		}
		b, _ := impl.StorePack(given)
		spoil(b)
		check("StoreOk, StoreGet, StoreEra or StorePack")
	}
}

// The standing answer is looked at ahead of a third call: that one would write over what is kept.
func TestStoreSharesNothing(t *testing.T) {
	for _, s := range slices.Concat(someStores(), badStores()) {
		for _, a := range storeAsks() {
			want, _ := a.want(s)
			one, _ := a.ask(s)
			two, _ := a.ask(s)
			spoilStore(one)
			if !sameStore(two, want) {
				t.Fatalf("two answers of %s of %v share memory", a.name, s)
			}
			late := slices.Clone(two.Late)
			spoilEntries(two.Kept)
			if !slices.Equal(two.Late, late) {
				t.Fatalf("%s of %v: the two lists share memory", a.name, s)
			}
			two, _ = a.ask(s)
			kept := slices.Clone(two.Kept)
			spoilEntries(two.Late)
			if !slices.Equal(two.Kept, kept) {
				t.Fatalf("%s of %v: the two lists share memory", a.name, s)
			}
			a.check(t, s)
		}
	}
}

// Refused too: the answer is the store as it was, and yet not its memory.
func TestStoreRefusedSharesNothing(t *testing.T) {
	for _, a := range []storeAsk{askPut(impl.Entry{}), askCrash(-1), askCrash(mostKeep + 1), askSeal(-1), askSeal(lastEpoch + 1), askTrim(0), askTrim(at(31, 1))} {
		for _, s := range someStores() {
			own := cloneStore(s)
			got, ok := a.ask(own)
			spoilStore(own)
			if ok || !sameStore(got, s) {
				t.Fatalf("%s of %v: became %v", a.name, s, got)
			}
			spoilStore(got)
			a.refuses(t, s)
		}
	}
	many := impl.Store{Kept: entriesFrom(0, mostKept), Late: entriesFrom(mostKept, 2), Seal: 1}
	for _, a := range []storeAsk{askSync(), askCrash(1), askSeal(2), askPut(impl.Entry{At: at(1, 9)})} {
		own := cloneStore(many)
		got, _ := a.ask(own)
		spoilStore(own)
		if !sameStore(got, many) {
			t.Fatalf("%s of too many became %v", a.name, got)
		}
	}
}

// What a crash took is gone: it does not lie in the room behind the empty list either.
func TestCrashLeavesNothing(t *testing.T) {
	for _, s := range someStores() {
		got, ok := impl.StoreCrash(s, 0)
		if !ok || len(got.Late) != 0 {
			t.Fatalf("StoreCrash of %v: %v, %v", s, got, ok)
		}
		for _, e := range got.Late[:cap(got.Late)] {
			if e != (impl.Entry{}) {
				t.Fatalf("StoreCrash of %v: %v lies behind Late", s, e)
			}
		}
	}
}

// An answer stays as it was told, whatever is done to the argument afterwards.
func TestStoreAnswerStays(t *testing.T) {
	for _, s := range someStores() {
		for _, a := range storeAsks() {
			want, _ := a.want(s)
			own := cloneStore(s)
			got, _ := a.ask(own)
			spoilStore(own)
			a.ask(impl.Store{Kept: entriesFrom(7, 9), Late: entriesFrom(3, 9)})
			if !sameStore(got, want) {
				t.Fatalf("%s of %v: became %v", a.name, s, got)
			}
		}
		for epoch := 0; epoch <= lastEpoch; epoch++ {
			own := cloneStore(s)
			got, again := impl.StoreEra(own, epoch), impl.StoreEra(own, epoch)
			spoilStore(own)
			if !slices.Equal(got, eraIs(s, epoch)) {
				t.Fatalf("StoreEra of %v became %v", s, got)
			}
			spoilEntries(got)
			if !slices.Equal(again, eraIs(s, epoch)) {
				t.Fatalf("two answers of StoreEra of %v share memory", s)
			}
		}
	}
}

func TestStoreBytesShareNothing(t *testing.T) {
	for _, s := range someStores() {
		s.Late = nil
		want, _ := packIs(s)
		own := cloneStore(s)
		one, _ := impl.StorePack(own)
		two, _ := impl.StorePack(own)
		spoilStore(own)
		spoil(one)
		if !bytes.Equal(two, want) {
			t.Fatalf("two answers of StorePack of %v share memory", s)
		}
		given, whole := bytesWithRoom(want)
		before := bytes.Clone(whole)
		first, _ := impl.StoreRead(given)
		second, ok := impl.StoreRead(given)
		if !bytes.Equal(whole, before) {
			t.Fatalf("StoreRead of %.400q wrote into it", want)
		}
		spoil(given)
		spoilStore(first)
		spoilEntries(second.Late)
		if !ok || !sameStore(second, s) {
			t.Fatalf("StoreRead of %.400q became %v", want, second)
		}
		checkReadsStore(t, want, s)
	}
	for _, b := range packedStores() {
		for size := range b {
			given, whole := bytesWithRoom(b[:size])
			before := bytes.Clone(whole)
			got, _ := impl.StoreRead(given)
			spoilStore(got)
			if !bytes.Equal(whole, before) {
				t.Fatalf("StoreRead of %.400q wrote into it", b[:size])
			}
		}
	}
}

// Kept and Late may be one memory: the same entries, or one behind the other, so that Late lies in the room behind Kept.
func TestStoreOneMemory(t *testing.T) {
	all := entriesFrom(58, 12)
	for _, cut := range [][4]int{{0, 5, 5, 12}, {5, 12, 0, 5}, {0, 12, 0, 12}, {0, 7, 4, 12}, {3, 9, 0, 12}, {0, 0, 0, 12}, {0, 12, 12, 12}} {
		for _, seal := range []int{0, 1, 2, -1} {
			for _, a := range storeAsks() {
				same := slices.Clone(all)
				s := impl.Store{Kept: same[cut[0]:cut[1]], Late: same[cut[2]:cut[3]], Seal: seal}
				want, wantOk := a.want(s)
				got, ok := a.ask(s)
				if ok != wantOk || !sameStore(got, want) {
					t.Fatalf("%s of %v: %v, %v", a.name, cut, got, ok)
				}
				spoilStore(got)
				if !slices.Equal(same, all) {
					t.Fatalf("%s of %v wrote into it", a.name, cut)
				}
			}
		}
	}
}

// Nothing is kept from call to call: an answer is the same whatever was asked ahead of it.
func TestStoreAgain(t *testing.T) {
	s := impl.Store{Kept: entriesFrom(3, 4), Late: entriesFrom(5, 4), Seal: 1}
	for range 3 {
		for _, a := range storeAsks() {
			a.check(t, s)
			a.check(t, impl.Store{})
			a.check(t, impl.Store{Seal: -1})
		}
		checkGets(t, s)
		checkEras(t, s)
		checkPack(t, s)
		checkStoreRead(t, packedStores()[4])
		checkNoStore(t, packedStores()[4][1:])
	}
}
