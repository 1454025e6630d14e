package tests

import (
	"fmt"
	"math"
	"math/rand"
	"slices"
	"strings"
	"testing"

	"loop.example/g00178/impl"
)

func openEra(nodes ...int) impl.Era {
	return impl.Era{Nodes: nodes}
}

func closedEra(last int, nodes ...int) impl.Era {
	return impl.Era{Nodes: nodes, Closed: true, Last: last}
}

// isRegister is what RegOk must answer; it counts the closed ones, and asks for them to be the first ones.
func isRegister(c impl.Config, r impl.Register) bool {
	if !isConfig(c) || len(r.Eras) > lastEpoch {
		return false
	}
	closed := 0
	for _, e := range r.Eras {
		if !isHeld(c, e.Nodes) {
			return false
		}
		if e.Closed {
			closed++
		}
	}
	for i, e := range r.Eras {
		if e.Closed != (i < closed) || e.Last < 0 || e.Last > lastOff || !e.Closed && e.Last != 0 {
			return false
		}
	}
	if len(r.Eras) > 0 && closed == len(r.Eras) {
		return false
	}
	return r.Trim == 0 || isPlaceUpTo(r.Trim, len(r.Eras))
}

// isPlaceUpTo goes through the places of that many epochs.
func isPlaceUpTo(place int, epochs int) bool {
	for epoch := 1; epoch <= min(epochs, lastEpoch); epoch++ {
		for off := 1; off <= lastOff; off++ {
			if place == at(epoch, off) {
				return true
			}
		}
	}
	return false
}

func cloneRegister(r impl.Register) impl.Register {
	own := impl.Register{Trim: r.Trim}
	for _, e := range r.Eras {
		own.Eras = append(own.Eras, impl.Era{Nodes: append([]int(nil), e.Nodes...), Closed: e.Closed, Last: e.Last})
	}
	return own
}

func sameEra(a impl.Era, b impl.Era) bool {
	return a.Closed == b.Closed && a.Last == b.Last && slices.Equal(a.Nodes, b.Nodes)
}

func sameRegister(a impl.Register, b impl.Register) bool {
	return a.Trim == b.Trim && slices.EqualFunc(a.Eras, b.Eras, sameEra)
}

// regAsItWas is what must be answered where a change is refused.
func regAsItWas(c impl.Config, r impl.Register) impl.Register {
	if !isRegister(c, r) {
		return impl.Register{}
	}
	return cloneRegister(r)
}

func openIs(c impl.Config, r impl.Register, nodes []int) (impl.Register, int, bool) {
	if !isRegister(c, r) || !isHeld(c, nodes) || len(r.Eras) >= lastEpoch {
		return regAsItWas(c, r), 0, false
	}
	next := cloneRegister(r)
	next.Eras = append(next.Eras, openEra(slices.Clone(nodes)...))
	return next, len(r.Eras) + 1, true
}

func firstOpenIs(r impl.Register) int {
	for i, e := range r.Eras {
		if !e.Closed {
			return i + 1
		}
	}
	return 0
}

func closeIs(c impl.Config, r impl.Register, by int, last int) (impl.Register, int, bool) {
	first := firstOpenIs(r)
	if !isRegister(c, r) || by != len(r.Eras) || by <= first || last < 0 || last > lastOff {
		return regAsItWas(c, r), 0, false
	}
	next := cloneRegister(r)
	next.Eras[first-1] = closedEra(last, next.Eras[first-1].Nodes...)
	return next, 0, true
}

func regTrimIs(c impl.Config, r impl.Register, place int) (impl.Register, int, bool) {
	if !isRegister(c, r) || !isPlaceUpTo(place, len(r.Eras)) {
		return regAsItWas(c, r), 0, false
	}
	next := cloneRegister(r)
	if place > next.Trim {
		next.Trim = place
	}
	return next, 0, true
}

func eraNodesIs(r impl.Register, epoch int) []int {
	for i, e := range r.Eras {
		if i+1 == epoch {
			return slices.Clone(e.Nodes)
		}
	}
	return nil
}

// regAsk is one thing that is asked of a register, with what must be answered; the number is RegOpen's epoch, and 0 of the others.
type regAsk struct {
	name string
	ask  func(impl.Config, impl.Register) (impl.Register, int, bool)
	want func(impl.Config, impl.Register) (impl.Register, int, bool)
}

func askOpen(nodes []int) regAsk {
	return regAsk{
		fmt.Sprintf("RegOpen %.200s", fmt.Sprint(nodes)),
		func(c impl.Config, r impl.Register) (impl.Register, int, bool) { return impl.RegOpen(c, r, nodes) },
		func(c impl.Config, r impl.Register) (impl.Register, int, bool) { return openIs(c, r, nodes) },
	}
}

func askClose(by int, last int) regAsk {
	return regAsk{
		fmt.Sprintf("RegClose by %d at %d", by, last),
		func(c impl.Config, r impl.Register) (impl.Register, int, bool) {
			next, ok := impl.RegClose(c, r, by, last)
			return next, 0, ok
		},
		func(c impl.Config, r impl.Register) (impl.Register, int, bool) { return closeIs(c, r, by, last) },
	}
}

func askRegTrim(place int) regAsk {
	return regAsk{
		fmt.Sprintf("RegTrim %d", place),
		func(c impl.Config, r impl.Register) (impl.Register, int, bool) {
			next, ok := impl.RegTrim(c, r, place)
			return next, 0, ok
		},
		func(c impl.Config, r impl.Register) (impl.Register, int, bool) { return regTrimIs(c, r, place) },
	}
}

func (a regAsk) check(t *testing.T, c impl.Config, r impl.Register) {
	t.Helper()
	want, wantEpoch, wantOk := a.want(c, r)
	if got, epoch, ok := a.ask(c, r); ok != wantOk || epoch != wantEpoch || !sameRegister(got, want) {
		t.Fatalf("%s of %v, %v: %v, %d, %v; want %v, %d, %v", a.name, c, r, got, epoch, ok, want, wantEpoch, wantOk)
	}
}

// refuses asks for r as it was, as the document has it, and not by a model.
func (a regAsk) refuses(t *testing.T, c impl.Config, r impl.Register) {
	t.Helper()
	if got, epoch, ok := a.ask(c, r); ok || epoch != 0 || !sameRegister(got, r) {
		t.Fatalf("%s of %v, %v: %v, %d, %v; want it as it was", a.name, c, r, got, epoch, ok)
	}
}

func (a regAsk) refusesWholly(t *testing.T, c impl.Config, r impl.Register) {
	t.Helper()
	if got, epoch, ok := a.ask(c, r); ok || epoch != 0 || !sameRegister(got, impl.Register{}) {
		t.Fatalf("%s of %v, %v: %v, %d, %v; want zero", a.name, c, r, got, epoch, ok)
	}
}

// answers asks for one register that must be answered.
func (a regAsk) answers(t *testing.T, c impl.Config, r impl.Register, want impl.Register, wantEpoch int) {
	t.Helper()
	if got, epoch, ok := a.ask(c, r); !ok || epoch != wantEpoch || !sameRegister(got, want) {
		t.Fatalf("%s of %v, %v: %v, %d, %v; want %v, %d", a.name, c, r, got, epoch, ok, want, wantEpoch)
	}
}

// heldLists has each list of nodes that holds.
func heldLists(c impl.Config) [][]int {
	var lists [][]int
	for mask := range 1 << len(c.Domains) {
		if isHeld(c, nodesOf(mask)) {
			lists = append(lists, nodesOf(mask))
		}
	}
	return lists
}

// unheldLists has each list of nodes that is of too few domains.
func unheldLists(c impl.Config) [][]int {
	var lists [][]int
	for mask := range 1 << len(c.Domains) {
		if !isHeld(c, nodesOf(mask)) {
			lists = append(lists, nodesOf(mask))
		}
	}
	return lists
}

// wrongLists does not hold: too few domains, or no nodes of the config at all.
func wrongLists(c impl.Config) [][]int {
	all := nodesUpTo(len(c.Domains))
	lists := slices.Concat(unheldLists(c), badLists())
	descending := slices.Clone(all)
	slices.Reverse(descending)
	if len(all) > 1 {
		lists = append(lists, descending)
	}
	for _, n := range all {
		lists = append(lists, append(slices.Clone(all), n))
	}
	return append(lists, append(slices.Clone(all), len(all)), []int{len(all)}, append([]int{-1}, all...), append([]int{0}, all...))
}

// registerOf is right: so many eras, so many of them closed; what they have is taken in turn.
func registerOf(c impl.Config, size int, closed int, trim int) impl.Register {
	lists := heldLists(c)
	r := impl.Register{Trim: trim}
	for i := range size {
		e := openEra(slices.Clone(lists[(i*5+size)%len(lists)])...)
		if i < closed {
			e.Closed, e.Last = true, []int{0, 60, 1, 59, 30}[i%5]
		}
		r.Eras = append(r.Eras, e)
	}
	return r
}

func registerConfigs() []impl.Config {
	return []impl.Config{conf(2, 0, 0, 1, 2), conf(1, 5), conf(4, 7, 6, 5, 4, 3, 2, 1, 0), conf(3, 0, 0, 1, 1, 2)}
}

// someRegisters has registers that are right: of no, few and the most eras, closed as far as can be, trimmed up to their ends.
func someRegisters(c impl.Config) []impl.Register {
	list := []impl.Register{{}, {Eras: []impl.Era{}}}
	for _, size := range []int{1, 2, 3, 7, lastEpoch - 1, lastEpoch} {
		for _, closed := range []int{0, 1, size / 2, size - 1} {
			if closed < size {
				list = append(list, registerOf(c, size, closed, 0), registerOf(c, size, closed, at(1, 1)), registerOf(c, size, closed, at((size+1)/2, 30)), registerOf(c, size, closed, at(size, lastOff)))
			}
		}
	}
	return list
}

// changedEra is r with another era there.
func changedEra(r impl.Register, i int, change func(*impl.Era)) impl.Register {
	own := cloneRegister(r)
	change(&own.Eras[i])
	return own
}

// badRegisters has registers that are not right, each for one reason.
func badRegisters(c impl.Config) []impl.Register {
	whole := registerOf(c, 4, 2, at(2, 7))
	list := []impl.Register{
		registerOf(c, lastEpoch+1, 0, 0), registerOf(c, lastEpoch+1, 7, at(1, 1)), registerOf(c, 500, 30, 0),
		registerOf(c, 1, 1, 0), registerOf(c, 4, 4, 0), registerOf(c, lastEpoch, lastEpoch, at(1, 1)), {Trim: at(1, 1)}, {Trim: -1}, {Trim: math.MaxInt},
		changedEra(whole, 0, func(e *impl.Era) { e.Closed, e.Last = false, 0 }), changedEra(whole, 1, func(e *impl.Era) { e.Closed = false }),
		changedEra(whole, 3, func(e *impl.Era) { e.Closed = true }), changedEra(whole, 2, func(e *impl.Era) { e.Last = 1 }), changedEra(whole, 3, func(e *impl.Era) { e.Last = -1 }),
		changedEra(whole, 0, func(e *impl.Era) { e.Last = -1 }), changedEra(whole, 1, func(e *impl.Era) { e.Last = lastOff + 1 }), changedEra(whole, 1, func(e *impl.Era) { e.Last = math.MinInt }),
		registerOf(c, 4, 2, at(5, 1)), registerOf(c, 4, 2, -1), registerOf(c, 4, 2, at(2, 61)), registerOf(c, 4, 2, at(4, 0)), registerOf(c, lastEpoch, 2, at(lastEpoch+1, 1)),
	}
	for i := range 4 {
		for _, nodes := range [][]int{nil, {len(c.Domains)}, {1, 0}, {0, 0}, {-1}} {
			list = append(list, changedEra(whole, i, func(e *impl.Era) { e.Nodes = nodes }))
		}
	}
	return list
}

// regAsks has some of each kind, of which some are refused by every register, and some only by some.
func regAsks(c impl.Config) []regAsk {
	list := []regAsk{askOpen(nil), askOpen([]int{}), askOpen(nodesUpTo(9)), askOpen([]int{-1}), askOpen([]int{1, 0}), askOpen([]int{0, 0})}
	list = append(list, askOpen(nodesUpTo(len(c.Domains))), askOpen(nodesUpTo(len(c.Domains)+1)), askOpen(heldLists(c)[0]), askOpen([]int{0}), askOpen([]int{0, 1}))
	for _, by := range []int{math.MinInt, -1, 0, 1, 2, 3, 4, 7, lastEpoch - 1, lastEpoch, lastEpoch + 1, math.MaxInt} {
		for _, last := range []int{math.MinInt, -1, 0, 1, lastOff, lastOff + 1, math.MaxInt} {
			list = append(list, askClose(by, last))
		}
	}
	for _, place := range append(notPlaces(), at(1, 1), at(1, 2), at(1, 60), at(2, 7), at(3, 1), at(4, 60), at(5, 1), at(7, 60), at(29, 60), at(30, 1), at(30, 60)) {
		list = append(list, askRegTrim(place))
	}
	return list
}

func checkRegOk(t *testing.T, c impl.Config, r impl.Register, want bool) {
	t.Helper()
	if impl.RegOk(c, r) != want || isRegister(c, r) != want {
		t.Fatalf("RegOk(%v, %v) is not %v", c, r, want)
	}
}

func TestRegOkCounts(t *testing.T) {
	for _, c := range registerConfigs() {
		for size := 0; size <= lastEpoch; size++ {
			for closed := range max(size, 1) {
				checkRegOk(t, c, registerOf(c, size, closed, 0), true)
			}
			if size > 0 {
				checkRegOk(t, c, registerOf(c, size, size, 0), false)
			}
		}
		for _, size := range []int{31, 32, 60, 61, 255, 256, 257, 286, 1000} {
			for _, closed := range []int{0, 1, 29, 30, 31, size - 1, size} {
				checkRegOk(t, c, registerOf(c, size, min(closed, size), 0), false)
			}
		}
		checkRegOk(t, c, impl.Register{}, true)
		checkRegOk(t, c, impl.Register{Eras: []impl.Era{}}, true)
	}
}

func TestRegOkConfig(t *testing.T) {
	right := conf(1, 0, 1)
	for _, c := range badConfigs() {
		checkRegOk(t, c, impl.Register{}, false)
		checkRegOk(t, c, impl.Register{Eras: []impl.Era{openEra()}}, false)
		checkRegOk(t, c, impl.Register{Eras: []impl.Era{openEra(0)}}, false)
		for _, r := range someRegisters(right) {
			checkRegOk(t, c, r, false)
		}
	}
	for _, c := range someConfigs() {
		checkRegOk(t, c, impl.Register{}, true)
		if all := nodesUpTo(len(c.Domains)); impl.RegOk(c, impl.Register{Eras: []impl.Era{openEra(all...)}}) != isHeld(c, all) {
			t.Errorf("RegOk(%v) at all nodes is not %v", c, isHeld(c, all))
		}
	}
}

// Nodes that do not hold are put in the place of each era's in turn, of the closed and of the open ones.
func TestRegOkNodes(t *testing.T) {
	for _, c := range registerConfigs() {
		for _, size := range []int{1, 2, 5} {
			for closed := range size {
				r := registerOf(c, size, closed, at(1, 1))
				for i := range size {
					for _, nodes := range wrongLists(c) {
						checkRegOk(t, c, changedEra(r, i, func(e *impl.Era) { e.Nodes = nodes }), false)
					}
					for _, nodes := range heldLists(c) {
						checkRegOk(t, c, changedEra(r, i, func(e *impl.Era) { e.Nodes = nodes }), true)
					}
				}
			}
		}
		full := registerOf(c, lastEpoch, 20, 0)
		for i := range full.Eras {
			checkRegOk(t, c, changedEra(full, i, func(e *impl.Era) { e.Nodes = nil }), false)
			checkRegOk(t, c, changedEra(full, i, func(e *impl.Era) { e.Nodes = []int{0, len(c.Domains)} }), false)
		}
	}
}

// Every row of closed and open eras: only those are right in which the closed ones come first and an open one is last.
func TestRegOkClosedEvery(t *testing.T) {
	c := conf(2, 0, 0, 1, 2)
	for size := 1; size <= 10; size++ {
		for mask := range 1 << size {
			var r impl.Register
			want := mask>>(size-1) == 0
			for i := range size {
				closed := mask>>i&1 == 1
				want = want && (!closed || mask&(1<<i-1) == 1<<i-1)
				r.Eras = append(r.Eras, impl.Era{Nodes: []int{0, 2}, Closed: closed})
			}
			checkRegOk(t, c, r, want)
		}
	}
}

// One era is turned at a time, in the longest registers too.
func TestRegOkClosedOne(t *testing.T) {
	c := conf(2, 0, 0, 1, 2)
	for _, size := range []int{2, 3, lastEpoch - 1, lastEpoch} {
		for closed := range size {
			r := registerOf(c, size, closed, 0)
			for i := range size {
				turned := changedEra(r, i, func(e *impl.Era) { e.Closed, e.Last = !e.Closed, 0 })
				checkRegOk(t, c, turned, i == closed-1 || i == closed && i < size-1)
			}
		}
	}
}

func TestRegOkLast(t *testing.T) {
	c := conf(2, 0, 0, 1, 2)
	wrong := []int{math.MinInt, math.MinInt + 1, -epochStep, -epochStep + 1, -61, -60, -2, -1, lastOff + 1, lastOff + 2, 127, 256, 257, epochStep, epochStep + 1, at(1, 1), math.MaxInt}
	for _, size := range []int{1, 2, 5, lastEpoch} {
		for _, closed := range []int{0, 1, size - 1} {
			if closed >= size {
				continue
			}
			r := registerOf(c, size, closed, 0)
			for i := range size {
				for last := 0; last <= lastOff; last++ {
					checkRegOk(t, c, changedEra(r, i, func(e *impl.Era) { e.Last = last }), i < closed || last == 0)
				}
				for _, last := range wrong {
					checkRegOk(t, c, changedEra(r, i, func(e *impl.Era) { e.Last = last }), false)
				}
			}
		}
	}
}

// Trim may be at any place of an epoch that is there, also beyond the Last of one that is closed.
func TestRegOkTrim(t *testing.T) {
	c := conf(2, 0, 0, 1, 2)
	for size := 0; size <= lastEpoch; size++ {
		r := registerOf(c, size, size/2, 0)
		checkRegOk(t, c, r, true)
		for epoch := -1; epoch <= lastEpoch+2; epoch++ {
			for _, off := range []int{-1, 0, 1, 2, 59, 60, 61, 62} {
				r.Trim = at(epoch, off)
				if r.Trim != 0 {
					checkRegOk(t, c, r, epoch >= 1 && epoch <= size && off >= 1 && off <= lastOff)
				}
			}
		}
		for _, trim := range notPlaces() {
			r.Trim = trim
			checkRegOk(t, c, r, trim == 0)
		}
	}
	checkRegOk(t, c, impl.Register{Eras: []impl.Era{closedEra(0, 0, 2), openEra(0, 2)}, Trim: at(1, 60)}, true)
	checkRegOk(t, c, impl.Register{Eras: []impl.Era{closedEra(5, 0, 2), openEra(0, 2)}, Trim: at(1, 6)}, true)
}

func TestRegOkSome(t *testing.T) {
	for _, c := range registerConfigs() {
		for _, r := range someRegisters(c) {
			checkRegOk(t, c, r, true)
		}
		for _, r := range badRegisters(c) {
			checkRegOk(t, c, r, false)
		}
	}
	// What is right at one config need not be so at another.
	r := impl.Register{Eras: []impl.Era{openEra(0, 2)}}
	checkRegOk(t, conf(2, 0, 0, 1, 2), r, true)
	checkRegOk(t, conf(2, 0, 1, 0, 2), r, false)
	checkRegOk(t, conf(3, 0, 0, 1, 2), r, false)
	checkRegOk(t, conf(2, 0, 1), r, false)
}

// Whatever is asked of whatever register: what is answered is what the document says.
func TestRegisterAsks(t *testing.T) {
	t.Parallel()
	for _, c := range registerConfigs() {
		right, wrong, few := someRegisters(c), badRegisters(c), registerOf(c, 3, 1, at(1, 1))
		for _, a := range regAsks(c) {
			for _, r := range right {
				a.check(t, c, r)
			}
			for _, r := range wrong {
				a.check(t, c, r)
				a.refusesWholly(t, c, r)
			}
			for _, bad := range badConfigs() {
				a.refusesWholly(t, bad, few)
				a.refusesWholly(t, bad, impl.Register{})
			}
		}
	}
}

func TestOpenKnown(t *testing.T) {
	c := conf(2, 0, 0, 1, 2)
	one := impl.Register{Eras: []impl.Era{openEra(0, 2)}}
	two := impl.Register{Eras: []impl.Era{openEra(0, 2), openEra(1, 2, 3)}}
	closed := impl.Register{Eras: []impl.Era{closedEra(7, 0, 2), openEra(1, 2, 3)}, Trim: at(2, 9)}
	askOpen([]int{0, 2}).answers(t, c, impl.Register{}, one, 1)
	askOpen([]int{1, 2, 3}).answers(t, c, one, two, 2)
	askOpen([]int{0, 2}).answers(t, c, one, impl.Register{Eras: []impl.Era{openEra(0, 2), openEra(0, 2)}}, 2)
	askOpen([]int{2, 3}).answers(t, c, closed, impl.Register{Eras: []impl.Era{closedEra(7, 0, 2), openEra(1, 2, 3), openEra(2, 3)}, Trim: at(2, 9)}, 3)
	for _, nodes := range [][]int{nil, {}, {0}, {3}, {0, 1}, {2, 0}, {0, 0}, {0, 2, 2}, {0, 0, 2}, {0, 4}, {-1, 0, 2}, {0, 2, 1}, {4}, {0, 1, 2, 3, 4}} {
		for _, r := range []impl.Register{{}, one, two, closed} {
			askOpen(nodes).refuses(t, c, r)
		}
	}
}

func TestOpenNodes(t *testing.T) {
	for _, c := range append(registerConfigs(), conf(4, 0, 1, 2), conf(2, 3, 3, 3)) {
		some := []impl.Register{{}}
		if len(heldLists(c)) > 0 {
			some = append(some, registerOf(c, 3, 1, at(2, 5)), registerOf(c, 1, 0, 0))
		}
		for _, r := range some {
			for _, nodes := range heldLists(c) {
				want := cloneRegister(r)
				want.Eras = append(want.Eras, openEra(nodes...))
				askOpen(nodes).answers(t, c, r, want, len(r.Eras)+1)
			}
			for _, nodes := range wrongLists(c) {
				askOpen(nodes).refuses(t, c, r)
			}
		}
	}
}

// From no era to the last epoch, one by one; there the register is full.
func TestOpenInARow(t *testing.T) {
	for _, c := range registerConfigs() {
		lists := heldLists(c)
		var r impl.Register
		for i := range lastEpoch {
			nodes := lists[i%len(lists)]
			next, epoch, ok := impl.RegOpen(c, r, nodes)
			if !ok || epoch != i+1 || len(next.Eras) != i+1 || !sameEra(next.Eras[i], openEra(nodes...)) || !impl.RegOk(c, next) {
				t.Fatalf("the era %d: %v, %d, %v", i, next, epoch, ok)
			}
			if !slices.EqualFunc(next.Eras[:i], r.Eras, sameEra) || next.Trim != 0 {
				t.Fatalf("the era %d turned earlier ones: %v", i, next)
			}
			r = next
		}
		for _, nodes := range slices.Concat(lists, wrongLists(c)) {
			askOpen(nodes).refuses(t, c, r)
		}
	}
}

func TestOpenFull(t *testing.T) {
	for _, c := range registerConfigs() {
		nodes := heldLists(c)[0]
		for _, closed := range []int{0, 1, 15, lastEpoch - 2} {
			nearly := registerOf(c, lastEpoch-1, closed, at(lastEpoch-1, 1))
			want := cloneRegister(nearly)
			want.Eras = append(want.Eras, openEra(nodes...))
			askOpen(nodes).answers(t, c, nearly, want, lastEpoch)
			askOpen(nil).refuses(t, c, nearly)
			askOpen(nodes).refuses(t, c, want)
			askOpen(nodes).refusesWholly(t, c, registerOf(c, lastEpoch+1, closed, 0))
		}
	}
}

// Where the register and the nodes are both wrong, it is zero all the same.
func TestOpenNotRegister(t *testing.T) {
	for _, c := range registerConfigs() {
		for _, r := range badRegisters(c) {
			for _, nodes := range append(heldLists(c)[:1], nil, []int{-1}, nodesUpTo(9)) {
				askOpen(nodes).refusesWholly(t, c, r)
			}
		}
	}
	for _, c := range badConfigs() {
		for _, r := range []impl.Register{{}, {Eras: []impl.Era{openEra(0)}}, {Eras: []impl.Era{closedEra(3, 0, 1), openEra(0, 1)}, Trim: at(1, 1)}} {
			askOpen([]int{0}).refusesWholly(t, c, r)
			askOpen([]int{0, 1}).refusesWholly(t, c, r)
			askOpen(nil).refusesWholly(t, c, r)
		}
	}
}

func checkFirst(t *testing.T, r impl.Register, want int) {
	t.Helper()
	if got := impl.FirstOpen(r); got != want {
		t.Fatalf("FirstOpen(%v): %d, not %d", r, got, want)
	}
}

func TestFirstOpen(t *testing.T) {
	checkFirst(t, impl.Register{}, 0)
	checkFirst(t, impl.Register{Eras: []impl.Era{}, Trim: at(3, 1)}, 0)
	c := conf(2, 0, 0, 1, 2)
	for size := 1; size <= lastEpoch; size++ {
		for closed := range size {
			checkFirst(t, registerOf(c, size, closed, 0), closed+1)
			checkFirst(t, registerOf(c, size, closed, at(size, 60)), closed+1)
		}
		checkFirst(t, registerOf(c, size, size, 0), 0)
	}
}

// It has no config, so that it tells the first that is not closed of any register.
func TestFirstOpenNotRegister(t *testing.T) {
	for size := 0; size <= 10; size++ {
		for mask := range 1 << size {
			var r impl.Register
			for i := range size {
				r.Eras = append(r.Eras, impl.Era{Nodes: []int{i, -1}, Closed: mask>>i&1 == 1, Last: -i})
			}
			checkFirst(t, r, firstOpenIs(r))
		}
	}
	c := conf(1, 5)
	for _, size := range []int{31, 40, 300} {
		for _, closed := range []int{0, 1, 29, 30, size - 1} {
			checkFirst(t, registerOf(c, size, closed, -1), closed+1)
		}
		checkFirst(t, registerOf(c, size, size, 0), 0)
	}
	for _, c := range registerConfigs() {
		for _, r := range badRegisters(c) {
			checkFirst(t, r, firstOpenIs(r))
		}
	}
}

func TestCloseKnown(t *testing.T) {
	c := conf(2, 0, 0, 1, 2)
	r := impl.Register{Eras: []impl.Era{openEra(0, 2), openEra(1, 2), openEra(0, 1, 3)}, Trim: at(3, 4)}
	one := impl.Register{Eras: []impl.Era{closedEra(5, 0, 2), openEra(1, 2), openEra(0, 1, 3)}, Trim: at(3, 4)}
	two := impl.Register{Eras: []impl.Era{closedEra(5, 0, 2), closedEra(0, 1, 2), openEra(0, 1, 3)}, Trim: at(3, 4)}
	askClose(3, 5).answers(t, c, r, one, 0)
	askClose(3, 0).answers(t, c, one, two, 0)
	for by := -2; by <= lastEpoch+2; by++ {
		askClose(by, 0).refuses(t, c, two)
		if by != 3 {
			askClose(by, 5).refuses(t, c, r)
			askClose(by, 5).refuses(t, c, one)
		}
	}
}

// Below, at and above the last epoch, in registers of each size that are closed as far as can be or less.
func TestCloseBy(t *testing.T) {
	for _, c := range registerConfigs() {
		for _, size := range []int{0, 1, 2, 3, 9, lastEpoch - 1, lastEpoch} {
			for closed := range max(size, 1) {
				r := registerOf(c, size, closed, 0)
				for _, by := range append(wrongNumbers(), nodesUpTo(lastEpoch+3)...) {
					if by != size || closed >= size-1 {
						askClose(by, 8).refuses(t, c, r)
					}
				}
				if closed < size-1 {
					want := changedEra(r, closed, func(e *impl.Era) { e.Closed, e.Last = true, 8 })
					askClose(size, 8).answers(t, c, r, want, 0)
				}
			}
		}
	}
}

func TestCloseLast(t *testing.T) {
	c := conf(3, 0, 0, 1, 1, 2)
	for _, size := range []int{2, 3, lastEpoch} {
		for closed := range size - 1 {
			r := registerOf(c, size, closed, at(1, 60))
			for last := 0; last <= lastOff; last++ {
				want := changedEra(r, closed, func(e *impl.Era) { e.Closed, e.Last = true, last })
				askClose(size, last).answers(t, c, r, want, 0)
			}
			for _, last := range []int{math.MinInt, -epochStep, -epochStep + 1, -61, -1, lastOff + 1, lastOff + 2, 256, epochStep, epochStep + 1, at(1, 1), math.MaxInt} {
				askClose(size, last).refuses(t, c, r)
				askClose(size-1, last).refuses(t, c, r)
			}
		}
	}
}

// Called again it closes the next one; the last epoch itself is left open.
func TestCloseInARow(t *testing.T) {
	for _, c := range registerConfigs() {
		for size := 0; size <= lastEpoch; size++ {
			r := registerOf(c, size, 0, 0)
			for i := 0; i+1 < size; i++ {
				next, ok := impl.RegClose(c, r, size, 60-i)
				if !ok || impl.FirstOpen(next) != i+2 || !sameRegister(next, changedEra(r, i, func(e *impl.Era) { e.Closed, e.Last = true, 60-i })) || !impl.RegOk(c, next) {
					t.Fatalf("the epoch %d of %d: %v, %v", i+1, size, next, ok)
				}
				r = next
			}
			for last := -1; last <= lastOff+1; last++ {
				askClose(size, last).refuses(t, c, r)
			}
			for by := -1; by <= lastEpoch+1; by++ {
				askClose(by, 0).refuses(t, c, r)
			}
		}
	}
}

// The last epoch can close earlier ones, until a later one is opened.
func TestCloseOvertaken(t *testing.T) {
	c := conf(2, 0, 0, 1, 2)
	r := registerOf(c, 4, 1, 0)
	later, epoch, ok := impl.RegOpen(c, r, []int{0, 3})
	if !ok || epoch != 5 {
		t.Fatal(later, epoch, ok)
	}
	askClose(4, 6).check(t, c, r)
	askClose(4, 6).refuses(t, c, later)
	want := changedEra(later, 1, func(e *impl.Era) { e.Closed, e.Last = true, 6 })
	askClose(5, 6).answers(t, c, later, want, 0)
	askClose(5, 6).refuses(t, c, r)
	alone := registerOf(c, 4, 3, 0)
	askClose(4, 6).refuses(t, c, alone)
	later, _, _ = impl.RegOpen(c, alone, []int{0, 3})
	askClose(5, 6).answers(t, c, later, changedEra(later, 3, func(e *impl.Era) { e.Closed, e.Last = true, 6 }), 0)
}

func TestCloseNotRegister(t *testing.T) {
	for _, c := range registerConfigs() {
		for _, r := range badRegisters(c) {
			for _, by := range []int{-1, 0, len(r.Eras) - 1, len(r.Eras), len(r.Eras) + 1, firstOpenIs(r)} {
				askClose(by, 0).refusesWholly(t, c, r)
				askClose(by, 60).refusesWholly(t, c, r)
				askClose(by, 61).refusesWholly(t, c, r)
			}
		}
		for _, bad := range badConfigs() {
			askClose(3, 5).refusesWholly(t, bad, registerOf(c, 3, 1, 0))
			askClose(0, 5).refusesWholly(t, bad, impl.Register{})
		}
	}
}

func TestRegTrimKnown(t *testing.T) {
	c := conf(2, 0, 0, 1, 2)
	eras := []impl.Era{closedEra(5, 0, 2), openEra(1, 2), openEra(0, 1, 3)}
	for _, row := range []struct {
		before, place, after int
	}{
		{0, at(1, 1), at(1, 1)}, {0, at(3, 60), at(3, 60)}, {0, at(1, 60), at(1, 60)}, {at(1, 3), at(1, 2), at(1, 3)}, {at(1, 3), at(1, 3), at(1, 3)}, {at(1, 3), at(1, 4), at(1, 4)},
		{at(2, 1), at(1, 60), at(2, 1)}, {at(1, 60), at(2, 1), at(2, 1)}, {at(3, 60), at(1, 1), at(3, 60)}, {at(3, 60), at(3, 60), at(3, 60)}, {at(3, 59), at(3, 60), at(3, 60)},
	} {
		r := impl.Register{Eras: eras, Trim: row.before}
		askRegTrim(row.place).answers(t, c, r, impl.Register{Eras: eras, Trim: row.after}, 0)
	}
	for _, trim := range []int{0, at(1, 1), at(2, 30), at(3, 60)} {
		for _, place := range append(notPlaces(), at(4, 1), at(4, 60), at(30, 60), at(3, 61), at(1, 0)) {
			askRegTrim(place).refuses(t, c, impl.Register{Eras: eras, Trim: trim})
			askRegTrim(place).refuses(t, c, impl.Register{})
		}
	}
}

// Each place there is, against each number of eras; of the last epoch, and of one above.
func TestRegTrimEpochs(t *testing.T) {
	c := conf(1, 5)
	for size := 0; size <= lastEpoch; size++ {
		for _, trim := range []int{0, at(1, 1), at((size+1)/2, 30), at(size, 60)} {
			if size == 0 && trim != 0 {
				continue
			}
			r := registerOf(c, size, size/3, trim)
			for epoch := 0; epoch <= lastEpoch+1; epoch++ {
				for _, off := range []int{0, 1, 29, 30, 31, 60, 61} {
					place := at(epoch, off)
					if epoch < 1 || epoch > size || off < 1 || off > lastOff {
						askRegTrim(place).refuses(t, c, r)
						continue
					}
					want := cloneRegister(r)
					want.Trim = max(trim, place)
					askRegTrim(place).answers(t, c, r, want, 0)
				}
			}
		}
	}
}

func TestRegTrimNotRegister(t *testing.T) {
	for _, c := range registerConfigs() {
		for _, r := range badRegisters(c) {
			for _, place := range append(notPlaces(), at(1, 1), at(4, 60), at(5, 1), at(30, 60), r.Trim) {
				askRegTrim(place).refusesWholly(t, c, r)
			}
		}
		for _, bad := range badConfigs() {
			askRegTrim(at(1, 1)).refusesWholly(t, bad, registerOf(c, 3, 1, 0))
			askRegTrim(at(1, 1)).refusesWholly(t, bad, impl.Register{})
		}
	}
}

func checkEraNodes(t *testing.T, r impl.Register) {
	t.Helper()
	epochs := append(someWaves(), at(1, 1), len(r.Eras)-1, len(r.Eras), len(r.Eras)+1, -len(r.Eras))
	for _, epoch := range append(epochs, nodesUpTo(lastEpoch+10)...) {
		if got, want := impl.EraNodes(r, epoch), eraNodesIs(r, epoch); !slices.Equal(got, want) {
			t.Fatalf("EraNodes(%v, %d): %v, not %v", r, epoch, got, want)
		}
	}
}

func TestEraNodesKnown(t *testing.T) {
	r := impl.Register{Eras: []impl.Era{closedEra(5, 0, 2), openEra(1, 2), openEra(0, 1, 3)}, Trim: at(1, 5)}
	for _, row := range []struct {
		epoch int
		want  []int
	}{
		{1, []int{0, 2}}, {2, []int{1, 2}}, {3, []int{0, 1, 3}}, {0, nil}, {4, nil}, {-1, nil}, {-3, nil}, {30, nil}, {31, nil},
		{math.MinInt, nil}, {math.MaxInt, nil}, {1 << 32, nil}, {1<<32 + 1, nil}, {at(1, 1), nil}, {257, nil},
	} {
		if got := impl.EraNodes(r, row.epoch); !slices.Equal(got, row.want) {
			t.Errorf("epoch %d: %v", row.epoch, got)
		}
	}
}

// A register that is not right has its epochs all the same, with whatever nodes they have.
func TestEraNodesSome(t *testing.T) {
	for _, c := range registerConfigs() {
		for _, r := range slices.Concat(someRegisters(c), badRegisters(c)) {
			checkEraNodes(t, r)
		}
	}
	checkEraNodes(t, impl.Register{Trim: -5})
	odd := impl.Register{Eras: []impl.Era{closedEra(-1), openEra(9, 9, -7), closedEra(99, math.MaxInt, math.MinInt), {Nodes: nodesUpTo(5000), Last: 4}}, Trim: 1}
	checkEraNodes(t, odd)
	many := registerOf(conf(1, 5), 40, 40, 0)
	if got := impl.EraNodes(many, 40); !slices.Equal(got, []int{0}) || len(impl.EraNodes(many, 41)) != 0 {
		t.Errorf("of 40 eras: %v", got)
	}
}

// drawnRegAsk is often refused, and often near to what would not be.
func drawnRegAsk(drawn *rand.Rand, c impl.Config, r impl.Register) regAsk {
	size := len(r.Eras)
	switch k := drawn.Intn(20); {
	case k < 6:
		return askOpen(nodesOf(drawn.Intn(1 << len(c.Domains))))
	case k < 7:
		return askOpen(badLists()[drawn.Intn(len(badLists()))])
	case k < 14:
		return askClose(size+drawn.Intn(3)-1, drawn.Intn(lastOff+3)-1)
	case k < 15:
		return askClose(drawn.Intn(lastEpoch+2), drawn.Intn(lastOff+1))
	}
	return askRegTrim(at(drawn.Intn(size+2), drawn.Intn(lastOff+2)))
}

func closedOf(r impl.Register) int {
	closed := 0
	for _, e := range r.Eras {
		if e.Closed {
			closed++
		}
	}
	return closed
}

// checkTurn is promise 7 of one step, by what stands there ahead and behind.
func checkTurn(t *testing.T, name string, before impl.Register, after impl.Register) {
	t.Helper()
	if len(after.Eras) < len(before.Eras) || after.Trim < before.Trim {
		t.Fatalf("%s: an era or what is given up is taken back: %v became %v", name, before, after)
	}
	for i, e := range before.Eras {
		now := after.Eras[i]
		if sameEra(e, now) {
			continue
		}
		if e.Closed || !slices.Equal(e.Nodes, now.Nodes) || !now.Closed {
			t.Fatalf("%s: the era %d was %v and is %v", name, i, e, now)
		}
		by := 0
		if _, err := fmt.Sscanf(name, "RegClose by %d", &by); err != nil || by != len(before.Eras) || by <= i+1 || i != closedOf(before) {
			t.Fatalf("%s closes the epoch %d of %v", name, i+1, before)
		}
	}
	for _, e := range after.Eras[len(before.Eras):] {
		if e.Closed || !strings.HasPrefix(name, "RegOpen") {
			t.Fatalf("%s: %v came behind %v", name, e, before)
		}
	}
	if closedOf(after) > closedOf(before)+1 || len(after.Eras) > len(before.Eras)+1 {
		t.Fatalf("%s: too much at once: %v became %v", name, before, after)
	}
}

// checkOnlyLastCloses asks every epoch to close one: only the last is let, and only where an earlier one is open.
func checkOnlyLastCloses(t *testing.T, c impl.Config, r impl.Register) {
	t.Helper()
	for by := -1; by <= len(r.Eras)+1; by++ {
		next, ok := impl.RegClose(c, r, by, 9)
		if want := by == len(r.Eras) && closedOf(r)+1 < len(r.Eras); ok != want {
			t.Fatalf("closed by %d: %v, of %v", by, ok, r)
		}
		if ok != (closedOf(next) == closedOf(r)+1) {
			t.Fatalf("closed by %d: %v, and %v became %v", by, ok, r, next)
		}
	}
}

func TestRegisterDrawnRows(t *testing.T) {
	t.Parallel()
	for seed := range 150 {
		drawn := rand.New(rand.NewSource(int64(seed)))
		c := registerConfigs()[seed%len(registerConfigs())]
		var r impl.Register
		ends := map[int]int{}
		for range 100 {
			a := drawnRegAsk(drawn, c, r)
			a.check(t, c, r)
			before := cloneRegister(r)
			next, _, ok := a.ask(c, r)
			if !ok && !sameRegister(next, before) || !sameRegister(r, before) {
				t.Fatalf("%s is refused, and turns %v into %v", a.name, before, next)
			}
			if !impl.RegOk(c, next) {
				t.Fatalf("%s answers what is not right: %v", a.name, next)
			}
			checkTurn(t, a.name, before, next)
			checkOnlyLastCloses(t, c, next)
			// Over the whole row: what an epoch ended at once, it ends at ever after.
			for i, e := range next.Eras {
				end, was := ends[i]
				if was && (!e.Closed || e.Last != end) {
					t.Fatalf("%s: the epoch %d ended at %d, and is %v", a.name, i+1, end, e)
				}
				if e.Closed {
					ends[i] = e.Last
				}
			}
			r = next
		}
	}
}

// Rows that fill the register, so that the last epochs come too.
func TestRegisterDrawnFull(t *testing.T) {
	for seed := range 60 {
		drawn := rand.New(rand.NewSource(int64(500 + seed)))
		c := registerConfigs()[seed%len(registerConfigs())]
		r := registerOf(c, lastEpoch-3, drawn.Intn(lastEpoch-3), 0)
		for range 120 {
			a := drawnRegAsk(drawn, c, r)
			if drawn.Intn(8) == 0 {
				a = askOpen(nodesUpTo(len(c.Domains)))
			}
			a.check(t, c, r)
			next, _, _ := a.ask(c, r)
			checkTurn(t, a.name, r, next)
			r = next
		}
		if len(r.Eras) != lastEpoch {
			t.Fatalf("%d eras at the end", len(r.Eras))
		}
	}
}

// registerWithRoom lays the eras and each one's nodes between others, with spare room behind them; the wholes are answered too.
func registerWithRoom(r impl.Register) (impl.Register, []impl.Era, [][]int) {
	side := slices.Repeat([]impl.Era{{Nodes: []int{-3}, Closed: true, Last: -8}}, 9)
	whole := slices.Concat(side[:2], r.Eras, side)
	var wholes [][]int
	for i := range r.Eras {
		nodes, wholeNodes := numbersWithRoom(r.Eras[i].Nodes)
		whole[2+i].Nodes = nodes
		wholes = append(wholes, wholeNodes)
	}
	return impl.Register{Eras: whole[2 : 2+len(r.Eras)], Trim: r.Trim}, whole, wholes
}

// spoilRegister writes over all that an answer's memory holds, the spare room too.
func spoilRegister(r impl.Register) {
	eras := r.Eras[:cap(r.Eras)]
	for i := range eras {
		spoilNumbers(eras[i].Nodes)
		eras[i] = impl.Era{Nodes: []int{-99}, Closed: true, Last: -98}
	}
}

func fewRegisters(c impl.Config) []impl.Register {
	return []impl.Register{
		{}, registerOf(c, 1, 0, 0), registerOf(c, 2, 0, 0), registerOf(c, 3, 1, at(1, 1)), registerOf(c, 4, 2, at(2, 7)), registerOf(c, 4, 3, at(4, 60)), registerOf(c, 7, 6, 0),
		registerOf(c, lastEpoch-1, 4, 0), registerOf(c, lastEpoch, 28, at(30, 60)), registerOf(c, lastEpoch, 29, 0),
	}
}

// checkLaid asks that what was laid down is as it was laid.
func checkLaid(t *testing.T, name string, whole []impl.Era, before []impl.Era, wholes [][]int, wholesBefore [][]int) {
	t.Helper()
	if !slices.EqualFunc(whole, before, sameEra) {
		t.Fatalf("%s wrote into the eras: %v became %v", name, before, whole)
	}
	if !slices.EqualFunc(wholes, wholesBefore, slices.Equal[[]int]) {
		t.Fatalf("%s wrote into nodes: %v became %v", name, wholesBefore, wholes)
	}
}

func cloneLists(lists [][]int) [][]int {
	var own [][]int
	for _, list := range lists {
		own = append(own, slices.Clone(list))
	}
	return own
}

// The answers are written over too: what they share with an argument, or with the room behind one, would be seen.
func TestRegisterWritesNothing(t *testing.T) {
	for _, c := range registerConfigs() {
		for _, r := range slices.Concat(fewRegisters(c), badRegisters(c)) {
			domains, domainsWhole := numbersWithRoom(c.Domains)
			given, whole, wholes := registerWithRoom(r)
			wholes = append(wholes, domainsWhole)
			before := cloneRegister(impl.Register{Eras: whole}).Eras
			wholesBefore := cloneLists(wholes)
			own := impl.Config{Domains: domains, Copies: c.Copies}
			for _, a := range regAsks(c) {
				got, _, _ := a.ask(own, given)
				spoilRegister(got)
				checkLaid(t, a.name, whole, before, wholes, wholesBefore)
			}
			impl.RegOk(own, given)
			impl.FirstOpen(given)
			for epoch := -1; epoch <= lastEpoch+2; epoch++ {
				spoilNumbers(impl.EraNodes(given, epoch))
			}
			checkLaid(t, "RegOk, FirstOpen or EraNodes", whole, before, wholes, wholesBefore)
		}
	}
}

// The nodes that are opened with are neither written nor kept, whether they hold or not.
func TestOpenKeepsNoNodes(t *testing.T) {
	for _, c := range registerConfigs() {
		for _, r := range fewRegisters(c) {
			for _, list := range slices.Concat(heldLists(c), wrongLists(c)[:9]) {
				nodes, whole := numbersWithRoom(list)
				before := slices.Clone(whole)
				want, wantEpoch, wantOk := openIs(c, r, list)
				got, epoch, ok := impl.RegOpen(c, r, nodes)
				again, _, _ := impl.RegOpen(c, r, nodes)
				spoilRegister(again)
				if !slices.Equal(whole, before) {
					t.Fatalf("RegOpen wrote into its nodes: %v became %v", before, whole)
				}
				spoilNumbers(nodes)
				if ok != wantOk || epoch != wantEpoch || !sameRegister(got, want) {
					t.Fatalf("RegOpen of %v with %v became %v", r, list, got)
				}
			}
		}
	}
}

// Each list of an answer is written over in turn: no other one may be seen to change.
func checkListsApart(t *testing.T, name string, got impl.Register) {
	t.Helper()
	want := cloneRegister(got)
	for i := range got.Eras {
		spoilNumbers(got.Eras[i].Nodes)
		for j := i + 1; j < len(got.Eras); j++ {
			if !sameEra(got.Eras[j], want.Eras[j]) {
				t.Fatalf("%s: the eras %d and %d share memory", name, i, j)
			}
		}
	}
}

// The standing answer is looked at ahead of a third call: that one would write over what is kept.
func TestRegisterSharesNothing(t *testing.T) {
	for _, c := range registerConfigs() {
		for _, r := range slices.Concat(fewRegisters(c), badRegisters(c)) {
			for _, a := range regAsks(c) {
				want, _, _ := a.want(c, r)
				one, _, _ := a.ask(c, r)
				two, _, _ := a.ask(c, r)
				spoilRegister(one)
				if !sameRegister(two, want) {
					t.Fatalf("two answers of %s of %v share memory", a.name, r)
				}
				checkListsApart(t, a.name, two)
				a.check(t, c, r)
			}
		}
	}
}

// Refused too: the answer is the register as it was, and yet not its memory.
func TestRegisterRefusedSharesNothing(t *testing.T) {
	for _, c := range registerConfigs() {
		for _, a := range []regAsk{askOpen(nil), askOpen([]int{-1}), askClose(-1, 5), askClose(31, 5), askClose(4, 61), askClose(1, 1), askRegTrim(0), askRegTrim(at(31, 1))} {
			for _, r := range fewRegisters(c) {
				own := cloneRegister(r)
				got, _, ok := a.ask(c, own)
				spoilRegister(own)
				if ok || !sameRegister(got, r) {
					t.Fatalf("%s of %v: became %v", a.name, r, got)
				}
				checkListsApart(t, a.name, got)
				spoilRegister(got)
				a.refuses(t, c, r)
			}
		}
	}
}

// An answer stays as it was told, whatever is done to the argument afterwards.
func TestRegisterAnswerStays(t *testing.T) {
	for _, c := range registerConfigs() {
		for _, r := range fewRegisters(c) {
			for _, a := range regAsks(c) {
				want, _, _ := a.want(c, r)
				own, ownConfig := cloneRegister(r), impl.Config{Domains: slices.Clone(c.Domains), Copies: c.Copies}
				got, _, _ := a.ask(ownConfig, own)
				spoilRegister(own)
				spoilNumbers(ownConfig.Domains)
				a.ask(c, registerOf(c, 5, 2, at(3, 3)))
				if !sameRegister(got, want) {
					t.Fatalf("%s of %v: became %v", a.name, r, got)
				}
			}
			for epoch := 1; epoch <= len(r.Eras); epoch++ {
				own := cloneRegister(r)
				one, two := impl.EraNodes(own, epoch), impl.EraNodes(own, epoch)
				spoilRegister(own)
				spoilNumbers(one)
				if !slices.Equal(two, r.Eras[epoch-1].Nodes) {
					t.Fatalf("EraNodes of %v became %v", r, two)
				}
			}
		}
	}
}

// One memory may be the domains, the nodes of every era, and the nodes that are opened with.
func TestRegisterOneMemory(t *testing.T) {
	for _, size := range []int{1, 2, 4, lastEpoch - 1} {
		same := []int{0, 1, 2, 3}
		c := impl.Config{Domains: same, Copies: 2}
		var r impl.Register
		for range size {
			r.Eras = append(r.Eras, openEra(same...))
		}
		for _, a := range append(regAsks(c), askOpen(same), askOpen(same[:2]), askOpen(same[1:3]), askClose(size, 60)) {
			want, wantEpoch, wantOk := a.want(c, r)
			got, epoch, ok := a.ask(c, r)
			if ok != wantOk || epoch != wantEpoch || !sameRegister(got, want) {
				t.Fatalf("%s of one memory: %v, %d, %v", a.name, got, epoch, ok)
			}
			checkListsApart(t, a.name, got)
			spoilRegister(got)
			if !slices.Equal(same, []int{0, 1, 2, 3}) {
				t.Fatalf("%s wrote into it: %v", a.name, same)
			}
		}
	}
}

// Nothing is kept from call to call: an answer is the same whatever was asked ahead of it.
func TestRegisterAgain(t *testing.T) {
	c := conf(2, 0, 0, 1, 2)
	for range 3 {
		for _, a := range regAsks(c) {
			a.check(t, c, registerOf(c, 4, 2, at(2, 7)))
			a.check(t, c, impl.Register{})
			a.check(t, c, impl.Register{Trim: -1})
			a.check(t, conf(1, 5), registerOf(conf(1, 5), 2, 0, 0))
		}
		checkFirst(t, registerOf(c, 4, 2, 0), 3)
		checkEraNodes(t, registerOf(c, 4, 2, 0))
	}
}
