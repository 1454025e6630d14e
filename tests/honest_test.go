package tests

import (
	"math/rand"
	"runtime"
	"slices"
	"strconv"
	"strings"
	"sync"
	"testing"

	"loop.example/g00178/impl"
)

// deedsBy does a deed: by the model of deeds, or by WorldDo itself.
type deedsBy func(impl.World, impl.Deed) (impl.World, int)

func bothDeedsBy() []deedsBy {
	return []deedsBy{doIs, impl.WorldDo}
}

// ifDone leaves the world as it was, where the deed is not done.
func (do deedsBy) ifDone(w impl.World, d impl.Deed) impl.World {
	if next, code := do(w, d); code == wdDone {
		return next
	}
	return w
}

// nodesLeft are those of an epoch that are not lost.
func nodesLeft(w impl.World, epoch int) []int {
	var list []int
	for node := range w.Stores {
		if slices.Contains(w.Register.Eras[epoch-1].Nodes, node) && !slices.Contains(w.Lost, node) {
			list = append(list, node)
		}
	}
	return list
}

// honestAdd is what HonestAdd must answer, by deeds one behind the other.
func (do deedsBy) honestAdd(w impl.World, writer int, data string) (impl.World, bool) {
	if !isWorld(w) {
		return impl.World{}, false
	}
	next, code := do(w, addDeed(writer, data))
	if code != wdDone {
		return deepCopy(w), false
	}
	epoch, off := next.Writers[writer].Epoch, len(next.Writers[writer].Words)
	for _, node := range nodesLeft(next, epoch) {
		next = do.ifDone(do.ifDone(next, storeDeed(writer, off, node)), syncDeed(node))
	}
	if slices.Contains(next.Sent, impl.Sent{At: at(epoch, off), Data: data, Sure: true}) {
		return next, true
	}
	return deepCopy(w), false
}

// honestMend is what HonestMend must answer.
func (do deedsBy) honestMend(w impl.World) (impl.World, bool) {
	if !isWorld(w) {
		return impl.World{}, false
	}
	now, isDone := w, true
	all := func(list ...impl.Deed) {
		for _, d := range list {
			if isDone {
				next, code := do(now, d)
				now, isDone = next, code == wdDone
			}
		}
	}
	if len(w.Mends) == 0 {
		all(mendDeed())
	}
	if isDone {
		nodes := nodesLeft(now, now.Mends[0].Epoch)
		for _, node := range nodes {
			all(sealDeed(node))
		}
		all(planDeed())
		for off := 1; isDone && off <= len(now.Mends[0].Wrote); off++ {
			for _, node := range nodes {
				all(fixDeed(off, node), syncDeed(node))
			}
		}
		all(closeDeed())
	}
	if !isDone {
		return deepCopy(w), false
	}
	return now, true
}

// honestRead is what HonestRead must answer.
func (do deedsBy) honestRead(w impl.World, reader int) (impl.World, int) {
	if !isWorld(w) {
		return impl.World{}, 0
	}
	now := deepCopy(w)
	for count := 0; ; count++ {
		next, code := do(now, readDeed(reader, 255))
		if code != wdDone {
			return now, count
		}
		now = next
	}
}

func checkHonestAdd(t *testing.T, w impl.World, writer int, data string) (impl.World, bool) {
	t.Helper()
	got, ok := impl.HonestAdd(w, writer, data)
	for _, do := range bothDeedsBy() {
		if want, wantOk := do.honestAdd(w, writer, data); ok != wantOk || !sameWorld(got, want) {
			t.Fatalf("HonestAdd of %s, %d, %q: %v, %s; want %v, %s", whole(w), writer, data, ok, whole(got), wantOk, whole(want))
		}
	}
	return got, ok
}

func checkHonestMend(t *testing.T, w impl.World) (impl.World, bool) {
	t.Helper()
	got, ok := impl.HonestMend(w)
	for _, do := range bothDeedsBy() {
		if want, wantOk := do.honestMend(w); ok != wantOk || !sameWorld(got, want) {
			t.Fatalf("HonestMend of %s: %v, %s; want %v, %s", whole(w), ok, whole(got), wantOk, whole(want))
		}
	}
	return got, ok
}

func checkHonestRead(t *testing.T, w impl.World, reader int) (impl.World, int) {
	t.Helper()
	got, count := impl.HonestRead(w, reader)
	for _, do := range bothDeedsBy() {
		if want, wantCount := do.honestRead(w, reader); count != wantCount || !sameWorld(got, want) {
			t.Fatalf("HonestRead of %s, %d: %d, %s; want %d, %s", whole(w), reader, count, whole(got), wantCount, whole(want))
		}
	}
	return got, count
}

// The six below are as the document has it, and not by the model; that one must say the same.

func checkAdded(t *testing.T, w impl.World, writer int, data string, change func(*impl.World)) impl.World {
	t.Helper()
	got, ok := checkHonestAdd(t, w, writer, data)
	if want := changedWorld(w, change); !ok || !sameWorld(got, want) || !impl.WorldOk(got) {
		t.Fatalf("HonestAdd of %s, %d, %q: %v, %s; want %s", whole(w), writer, data, ok, whole(got), whole(want))
	}
	return got
}

func checkNotAdded(t *testing.T, w impl.World, writer int, data string) {
	t.Helper()
	want := w
	if !isWorld(w) {
		want = impl.World{}
	}
	if got, ok := checkHonestAdd(t, w, writer, data); ok || !sameWorld(got, want) {
		t.Fatalf("HonestAdd of %s, %d, %q: %v, %s", whole(w), writer, data, ok, whole(got))
	}
}

func checkMended(t *testing.T, w impl.World, change func(*impl.World)) impl.World {
	t.Helper()
	got, ok := checkHonestMend(t, w)
	if want := changedWorld(w, change); !ok || !sameWorld(got, want) || !impl.WorldOk(got) {
		t.Fatalf("HonestMend of %s: %v, %s; want %s", whole(w), ok, whole(got), whole(want))
	}
	return got
}

func checkNotMended(t *testing.T, w impl.World) {
	t.Helper()
	want := w
	if !isWorld(w) {
		want = impl.World{}
	}
	if got, ok := checkHonestMend(t, w); ok || !sameWorld(got, want) {
		t.Fatalf("HonestMend of %s: %v, %s", whole(w), ok, whole(got))
	}
}

func checkReadTo(t *testing.T, w impl.World, reader int, epoch int, off int, told ...impl.Event) impl.World {
	t.Helper()
	got, count := checkHonestRead(t, w, reader)
	want := changedWorld(w, func(w *impl.World) {
		w.Readers[reader] = impl.Reader{Epoch: epoch, Off: off, Out: append(w.Readers[reader].Out, told...)}
	})
	if count != len(told) || !sameWorld(got, want) {
		t.Fatalf("HonestRead of %s, %d: %d, %s; want %s", whole(w), reader, count, whole(got), whole(want))
	}
	return got
}

func checkNotRead(t *testing.T, w impl.World, reader int) {
	t.Helper()
	want := w
	if !isWorld(w) {
		want = impl.World{}
	}
	if got, count := checkHonestRead(t, w, reader); count != 0 || !sameWorld(got, want) {
		t.Fatalf("HonestRead of %s, %d: %d, %s", whole(w), reader, count, whole(got))
	}
}

// All nodes have it then, also those that were not needed; the first that hold were told by.
func TestHonestAddKnown(t *testing.T) {
	w := after(t, emptyWorld(conf(2, 0, 1, 2)), openDeed(7))
	a, b := impl.Entry{At: at(1, 1), Data: "a"}, impl.Entry{At: at(1, 2), Data: "b"}
	w = checkAdded(t, w, 0, "a", func(w *impl.World) {
		w.Stores = []impl.Store{storeWith(a), storeWith(a), storeWith(a)}
		w.Writers[0].Words = []impl.Word{doneWord("a", 0, 1)}
		w.Sent = []impl.Sent{{At: at(1, 1), Data: "a", Sure: true}}
	})
	w = checkAdded(t, w, 0, "b", func(w *impl.World) {
		w.Stores = []impl.Store{storeWith(a, b), storeWith(a, b), storeWith(a, b)}
		w.Writers[0].Words = append(w.Writers[0].Words, doneWord("b", 0, 1))
		w.Sent = append(w.Sent, impl.Sent{At: at(1, 2), Data: "b", Sure: true})
	})
	none := impl.Entry{At: at(1, 3)}
	checkAdded(t, w, 0, "", func(w *impl.World) {
		w.Stores = []impl.Store{storeWith(a, b, none), storeWith(a, b, none), storeWith(a, b, none)}
		w.Writers[0].Words = append(w.Writers[0].Words, doneWord("", 0, 1))
		w.Sent = append(w.Sent, impl.Sent{At: at(1, 3), Sure: true})
	})
}

// Nodes of one domain are not enough, and nodes that are not of the epoch have no part in it.
func TestHonestAddNodes(t *testing.T) {
	t.Parallel()
	for _, c := range slices.Concat(smallConfigs(), registerConfigs()) {
		for mask := range 1 << len(c.Domains) {
			nodes := nodesOf(mask)
			if !isHeld(c, nodes) {
				continue
			}
			e := impl.Entry{At: at(1, 1), Data: "x"}
			enough := 1
			for !isHeld(c, nodes[:enough]) {
				enough++
			}
			checkAdded(t, after(t, emptyWorld(c), openDeed(mask)), 0, "x", func(w *impl.World) {
				for _, node := range nodes {
					w.Stores[node] = storeWith(e)
				}
				w.Writers[0].Words = []impl.Word{doneWord("x", nodes[:enough]...)}
				w.Sent = []impl.Sent{{At: at(1, 1), Data: "x", Sure: true}}
			})
		}
	}
}

// With nodes that are lost: it is sure just where the others hold, and else nothing is turned.
func TestHonestAddLost(t *testing.T) {
	for _, c := range []impl.Config{conf(2, 0, 1, 2), conf(2, 0, 0, 1, 2), conf(1, 0, 1), conf(3, 0, 1, 2, 3, 4)} {
		for mask := range 1 << len(c.Domains) {
			for lost := range 1 << len(c.Domains) {
				if !isHeld(c, nodesOf(mask)) {
					continue
				}
				w := after(t, emptyWorld(c), openDeed(mask))
				w.Lost, w.Torn = nodesOf(lost), isHeld(c, nodesOf(lost))
				got, ok := checkHonestAdd(t, w, 0, "x")
				if ok != isHeld(c, nodesOf(mask&^lost)) || !ok && !sameWorld(got, w) {
					t.Fatalf("%v, mask %d, lost %d: %v, %s", c, mask, lost, ok, whole(got))
				}
				for node, s := range got.Stores {
					if (len(s.Kept) == 1) != (ok && mask&^lost>>node&1 == 1) {
						t.Fatalf("%v, mask %d, lost %d: node %d has %v", c, mask, lost, node, s)
					}
				}
			}
		}
	}
}

// Each of as many writers as there can be has its own epoch; the one behind the last is not there.
func TestHonestAddWriters(t *testing.T) {
	w := after(t, emptyWorld(conf(2, 0, 1, 2, 3)), openDeed(15), openDeed(7), openDeed(14), openDeed(9))
	for writer, nodes := range [][]int{{0, 1, 2, 3}, {0, 1, 2}, {1, 2, 3}, {0, 3}} {
		x := impl.Entry{At: at(writer+1, 1), Data: "x"}
		checkAdded(t, w, writer, "x", func(w *impl.World) {
			for _, node := range nodes {
				w.Stores[node] = storeWith(x)
			}
			w.Writers[writer].Words = []impl.Word{doneWord("x", nodes[:2]...)}
			w.Sent = []impl.Sent{{At: x.At, Data: "x", Sure: true}}
		})
	}
	for _, writer := range []int{-1, 4, 5} {
		checkNotAdded(t, w, writer, "x")
	}
	// A writer that is dropped moves the others up.
	w = after(t, w, dropDeed(1))
	if got, ok := checkHonestAdd(t, w, 2, "x"); !ok || got.Sent[0].At != at(4, 1) {
		t.Errorf("%s", whole(got))
	}
	checkNotAdded(t, w, 3, "x")
}

// However many nodes of one domain are left, they do not hold; with one copy any node does.
func TestHonestAddOneDomain(t *testing.T) {
	w := after(t, emptyWorld(conf(2, 0, 0, 0, 1, 1)), openDeed(31))
	checkNotAdded(t, after(t, w, loseDeed(3), loseDeed(4)), 0, "x")
	checkNotAdded(t, after(t, w, loseDeed(0), loseDeed(1), loseDeed(2)), 0, "x")
	checkNotAdded(t, after(t, w, loseDeed(0), loseDeed(1), loseDeed(2), loseDeed(3)), 0, "x")
	x := impl.Entry{At: at(1, 1), Data: "x"}
	checkAdded(t, after(t, w, loseDeed(0), loseDeed(1), loseDeed(3)), 0, "x", func(w *impl.World) {
		w.Stores[2], w.Stores[4] = storeWith(x), storeWith(x)
		w.Writers[0].Words = []impl.Word{doneWord("x", 2, 4)}
		w.Sent = []impl.Sent{{At: x.At, Data: "x", Sure: true}}
	})
	one := after(t, emptyWorld(conf(1, 0, 0, 0)), openDeed(7), loseDeed(0), loseDeed(2))
	checkAdded(t, one, 0, "x", func(w *impl.World) {
		w.Stores[1] = storeWith(x)
		w.Writers[0].Words = []impl.Word{doneWord("x", 1)}
		w.Sent = []impl.Sent{{At: x.At, Data: "x", Sure: true}}
	})
	checkNotAdded(t, after(t, one, loseDeed(1)), 0, "x")
}

// What speaks against the deed of adding speaks against all: there is nothing sent then, whatever is sure there already.
func TestHonestAddRefused(t *testing.T) {
	w := twoWorld()
	for _, writer := range append(wrongNumbers(), 2, 3, 4) {
		checkNotAdded(t, w, writer, "x")
		checkNotAdded(t, w, writer, strings.Repeat("x", mostData+1))
	}
	for _, data := range tooMuchData() {
		checkNotAdded(t, w, 0, data)
	}
	for size := range mostData + 3 {
		if _, ok := checkHonestAdd(t, w, 1, strings.Repeat("x", size)); ok != (size <= mostData) {
			t.Fatalf("%d bytes: %v", size, ok)
		}
	}
	sent := changedWorld(sureWorld(), func(w *impl.World) { w.Writers[0].Words = w.Writers[0].Words[:1] })
	checkNotAdded(t, sent, 0, "b")
	checkNotAdded(t, sent, 0, "x")
	c := conf(2, 0, 1, 2, 0)
	for _, row := range someRows() {
		w := changedWorld(twoWorld(), func(w *impl.World) { w.Writers, w.Sent = []impl.Writer{writerOf(c, 1, row), {Epoch: 2}}, nil })
		if _, ok := checkHonestAdd(t, w, 0, "x"); ok != (len(row) < lastOff && strings.Count(row, "o") < mostOpen) {
			t.Fatalf("%q: %v", row, ok)
		}
	}
	for size := mostSent - 2; size <= mostSent; size++ {
		w := worldOfSent(3, sentUpTo(2, size)...)
		w.Writers = []impl.Writer{{Epoch: 3}}
		if _, ok := checkHonestAdd(t, w, 0, "x"); ok != (size < mostSent) {
			t.Fatalf("%d were sent: %v", size, ok)
		}
	}
}

// A node that refuses does not hinder the others; it is synced all the same.
func TestHonestAddNodeRefuses(t *testing.T) {
	x, c := impl.Entry{At: at(1, 3), Data: "x"}, impl.Entry{At: at(2, 1), Data: "c"}
	done := func(w *impl.World, nodes ...int) {
		w.Writers[0].Words = append(w.Writers[0].Words, doneWord("x", nodes...))
		w.Sent = slices.Insert(w.Sent, 2, impl.Sent{At: at(1, 3), Data: "x", Sure: true})
	}
	// Node 1 is sealed: it refuses the word, and yet keeps what came to it, and tells it.
	w := storesAre(twoWorld(), 1, nil, c)
	w.Stores[1].Seal = 1
	checkAdded(t, w, 0, "x", func(w *impl.World) {
		w.Stores[0], w.Stores[1], w.Stores[2] = storeWith(x), impl.Store{Kept: []impl.Entry{c}, Seal: 1}, storeWith(x)
		w.Writers[1].Words[0].Acks = []int{1}
		done(w, 0, 2)
	})
	// Node 0 has no room for what comes, and has it behind that.
	w = changedWorld(twoWorld(), func(w *impl.World) { w.Stores[0].Late = entriesFrom(300, mostLate) })
	w = checkAdded(t, w, 0, "x", func(w *impl.World) {
		w.Stores[0], w.Stores[1], w.Stores[2] = storeWith(entriesFrom(300, mostLate)...), storeWith(x), storeWith(x)
		done(w, 1, 2)
	})
	y := impl.Entry{At: at(1, 4), Data: "y"}
	checkAdded(t, w, 0, "y", func(w *impl.World) {
		w.Stores[0], w.Stores[1], w.Stores[2] = storeWith(append([]impl.Entry{y}, entriesFrom(300, mostLate)...)...), storeWith(x, y), storeWith(x, y)
		w.Writers[0].Words = append(w.Writers[0].Words, doneWord("y", 0, 1))
		w.Sent = slices.Insert(w.Sent, 3, impl.Sent{At: at(1, 4), Data: "y", Sure: true})
	})
	// Node 2 can keep no more: the word comes to it, and does not last.
	w = changedWorld(twoWorld(), func(w *impl.World) { w.Stores[2].Kept = entriesFrom(300, mostKept) })
	checkAdded(t, w, 0, "x", func(w *impl.World) {
		w.Stores[0], w.Stores[1], w.Stores[2].Late = storeWith(x), storeWith(x), []impl.Entry{x}
		done(w, 0, 1)
	})
	// Two that refuse are too many.
	w.Stores[1].Seal = 1
	checkNotAdded(t, w, 0, "x")
	checkNotAdded(t, changedWorld(twoWorld(), func(w *impl.World) { w.Stores[0].Seal, w.Stores[1].Seal = 1, 9 }), 0, "x")
}

// Words that wait from before stay so, but those that lie on a node already; they do not hinder it to be sure of this one.
func TestHonestAddOthers(t *testing.T) {
	a, x := impl.Entry{At: at(1, 1), Data: "a"}, impl.Entry{At: at(1, 3), Data: "x"}
	w := storesAre(storesAre(twoWorld(), 0, nil, a), 2, []impl.Entry{a})
	checkAdded(t, w, 0, "x", func(w *impl.World) {
		w.Stores[0], w.Stores[1], w.Stores[2] = storeWith(a, x), storeWith(x), storeWith(a, x)
		w.Writers[0] = writerWith(1, doneWord("a", 0, 2), openWord("b"), doneWord("x", 0, 1))
		w.Sent = slices.Insert(w.Sent, 2, impl.Sent{At: at(1, 3), Data: "x", Sure: true})
		w.Sent[0].Sure = true
	})
	y := impl.Entry{At: at(2, 2), Data: "y"}
	checkAdded(t, twoWorld(), 1, "y", func(w *impl.World) {
		w.Stores[1], w.Stores[2], w.Stores[3] = storeWith(y), storeWith(y), storeWith(y)
		w.Writers[1] = writerWith(2, openWord("c"), doneWord("y", 1, 2))
		w.Sent = append(w.Sent, impl.Sent{At: at(2, 2), Data: "y", Sure: true})
	})
}

func TestHonestBadWorld(t *testing.T) {
	for _, w := range badWorlds() {
		checkNotMended(t, w)
		for _, x := range []int{-1, 0, 1, 2} {
			checkNotAdded(t, w, x, "x")
			checkNotAdded(t, w, x, strings.Repeat("x", mostData+1))
			checkNotRead(t, w, x)
		}
	}
}

// As many as an epoch has places for, one behind the other, and read to their end.
func TestHonestAddMany(t *testing.T) {
	w := after(t, emptyWorld(conf(2, 0, 1, 2)), openDeed(7))
	var told []impl.Event
	for off := 1; off <= lastOff; off++ {
		next, ok := impl.HonestAdd(w, 0, strconv.Itoa(off))
		if !ok || impl.SureOf(next, 1) != off {
			t.Fatalf("offset %d: %s", off, whole(next))
		}
		w = next
		told = append(told, toldData(off, strconv.Itoa(off)))
	}
	checkNotAdded(t, w, 0, "x")
	w = checkReadTo(t, w, 1, 1, lastOff+1, told...)
	checkNotRead(t, w, 1)
	w = checkReadTo(t, w, 0, 1, lastOff+1, told...)
	checkVerdicts(t, w, allSo)
}

func TestHonestReadKnown(t *testing.T) {
	a, b := toldData(1, "a"), toldData(2, "b")
	for reader := range 2 {
		checkNotRead(t, twoWorld(), reader)
		w := checkReadTo(t, sureWorld(), reader, 1, 3, a, b)
		checkNotRead(t, w, reader)
		checkReadTo(t, w, 1-reader, 1, 3, a, b)
		// Behind what is closed it goes on, and behind what is given up.
		w.Register.Eras[0] = closedEra(2, 0, 1, 2)
		w.Writers[1].Words[0] = doneWord("c", 1, 2)
		w.Stores[1].Kept = append(w.Stores[1].Kept, impl.Entry{At: at(2, 1), Data: "c"})
		era, c := impl.Event{Kind: evEra, At: 2}, impl.Event{Kind: evData, At: at(2, 1), Data: "c"}
		w = checkReadTo(t, w, reader, 2, 2, era, c)
		checkReadTo(t, w, 1-reader, 2, 2, a, b, era, c)
		w.Register.Trim = at(1, 1)
		checkReadTo(t, w, 1-reader, 2, 2, impl.Event{Kind: evTrim, At: at(1, 1)}, b, era, c)
		w.Stores[1].Kept = w.Stores[1].Kept[:2]
		checkReadTo(t, w, 1-reader, 2, 2, impl.Event{Kind: evTrim, At: at(1, 1)}, b, era, impl.Event{Kind: evLoss, At: at(2, 1)})
	}
	for _, w := range []impl.World{sureWorld(), twoWorld(), fiveWorld(), emptyWorld(conf(1, 0))} {
		for _, reader := range append(wrongNumbers(), 2, 3) {
			checkNotRead(t, w, reader)
		}
	}
}

// Where too few answer it stops; what was told ahead of that stays told.
func TestHonestReadFew(t *testing.T) {
	a, b := toldData(1, "a"), toldData(2, "b")
	for lost := range 16 {
		w := changedWorld(sureWorld(), func(w *impl.World) {
			w.Lost, w.Torn = nodesOf(lost), isHeld(w.Config, nodesOf(lost))
			for _, node := range w.Lost {
				w.Stores[node] = impl.Store{}
			}
		})
		if isHeld(w.Config, nodesOf(lost&7)) {
			checkNotRead(t, w, 0)
			continue
		}
		checkReadTo(t, w, 0, 1, 3, a, b)
		w.Register.Eras = append(w.Register.Eras[:1], openEra(0, 1, 2, 3))
		w.Register.Eras[0].Closed, w.Register.Eras[0].Last = true, 2
		checkReadTo(t, w, 0, 2, 1, a, b, impl.Event{Kind: evEra, At: 2})
	}
}

// It comes to its end where a reader can tell no more, and all eight nodes are asked.
func TestHonestReadMost(t *testing.T) {
	c := conf(4, 0, 1, 2, 3, 4, 5, 6, 7)
	w := emptyWorld(c)
	for range lastEpoch {
		w.Register.Eras = append(w.Register.Eras, closedEra(lastOff, nodesUpTo(8)...))
	}
	w.Register.Eras[lastEpoch-1] = openEra(nodesUpTo(8)...)
	w.Stores[7] = storeWith(entriesFrom(0, mostKept)...)
	for told := mostOut; told >= 0; told -= 8 {
		w.Readers[1].Out = someEvents(told)
		got, count := checkHonestRead(t, w, 1)
		if count != mostOut-told || len(got.Readers[1].Out) != mostOut {
			t.Fatalf("%d were told: %d more", told, count)
		}
	}
	w.Readers[1].Out = nil
	w, _ = impl.HonestRead(w, 1)
	// An epoch has an event of its end, too.
	for i, e := range w.Readers[1].Out {
		kept := nthEntry(i - i/61)
		want := impl.Event{Kind: evData, At: kept.At, Data: kept.Data}
		switch {
		case i%61 == 60:
			want = impl.Event{Kind: evEra, At: 2 + i/61}
		case kept.Hole:
			want = impl.Event{Kind: evHole, At: kept.At}
		}
		if e != want {
			t.Fatalf("%d: %v, not %v", i, e, want)
		}
	}
}

// A reader goes over several epochs, some of which have nothing, in one go; it stops at the one that is open.
func TestHonestReadEpochs(t *testing.T) {
	w := impl.World{}
	var told []impl.Event
	for epoch, words := range [][]string{{"a", "b"}, nil, {"c"}, nil, nil, {"d", "e", "f"}} {
		if epoch == 0 {
			w = emptyWorld(conf(2, 0, 1, 2))
		} else {
			told = append(told, impl.Event{Kind: evEra, At: epoch + 1})
		}
		w = after(t, w, openDeed(7))
		for i, word := range words {
			next, ok := checkHonestAdd(t, w, len(w.Writers)-1, word)
			if !ok {
				t.Fatalf("%q of %s", word, whole(w))
			}
			told = append(told, impl.Event{Kind: evData, At: at(epoch+1, i+1), Data: word})
			w = next
		}
		if epoch > 0 {
			next, ok := checkHonestMend(t, w)
			if !ok {
				t.Fatalf("%s", whole(w))
			}
			w = after(t, next, dropDeed(0))
		}
	}
	for reader := range 2 {
		checkReadTo(t, w, reader, 6, 4, told...)
	}
	// What is given up is left out, whatever epochs lie in it.
	w = after(t, w, trimDeed(at(3, 1)))
	checkReadTo(t, w, 0, 6, 4, append([]impl.Event{{Kind: evTrim, At: at(3, 1)}}, told[5:]...)...)
	w = after(t, w, trimDeed(at(6, 2)))
	checkReadTo(t, w, 1, 6, 4, impl.Event{Kind: evTrim, At: at(6, 2)}, impl.Event{Kind: evData, At: at(6, 3), Data: "f"})
	w = after(t, w, trimDeed(at(6, lastOff)))
	w = checkReadTo(t, w, 1, 6, lastOff+1, impl.Event{Kind: evTrim, At: at(6, lastOff)})
	checkNotRead(t, w, 1)
}

func mendedData(off int, by int, data string) impl.Entry {
	return impl.Entry{At: at(1, off), Wave: by, Data: data}
}

func mendedHole(off int, by int) impl.Entry {
	return impl.Entry{At: at(1, off), Wave: by, Hole: true}
}

// leftWorld is of three nodes, and of two epochs: of the first, "a" lies on all nodes, "b" on node 1, "c" on none, and "d" is late at node 2.
func leftWorld(t *testing.T) impl.World {
	t.Helper()
	w := after(t, emptyWorld(conf(2, 0, 1, 2)), openDeed(7))
	w, _ = impl.HonestAdd(w, 0, "a")
	return after(t, w, addDeed(0, "b"), storeDeed(0, 2, 1), syncDeed(1), addDeed(0, "c"), addDeed(0, "d"), storeDeed(0, 4, 2), openDeed(7))
}

// mendedStore has what a mend of leftWorld writes.
func mendedStore(by int) impl.Store {
	return impl.Store{Kept: []impl.Entry{mendedData(1, by, "a"), mendedData(2, by, "b"), mendedHole(3, by), mendedData(4, by, "d")}, Seal: by - 1}
}

// What any node had is written to all, what was late too; what none had is a hole. Writers and what was sent stay as they are.
func TestHonestMendKnown(t *testing.T) {
	w := leftWorld(t)
	w = checkMended(t, w, func(w *impl.World) {
		w.Stores = []impl.Store{mendedStore(2), mendedStore(2), mendedStore(2)}
		w.Register.Eras[0] = closedEra(4, 0, 1, 2)
	})
	want := []impl.Sent{{At: at(1, 1), Data: "a", Sure: true}, {At: at(1, 2), Data: "b"}, {At: at(1, 3), Data: "c"}, {At: at(1, 4), Data: "d"}}
	if !slices.Equal(w.Sent, want) || len(w.Mends) != 0 {
		t.Fatalf("%s", whole(w))
	}
	checkNotMended(t, w)
	checkReadTo(t, w, 0, 2, 1, toldData(1, "a"), toldData(2, "b"), impl.Event{Kind: evHole, At: at(1, 3)}, toldData(4, "d"), impl.Event{Kind: evEra, At: 2})
}

// There is nothing to mend where no epoch is left, and else the first that is open is closed, and no other one.
func TestHonestMendEpochs(t *testing.T) {
	for _, c := range registerConfigs() {
		checkNotMended(t, emptyWorld(c))
		for _, size := range []int{1, 2, 3, 7, lastEpoch} {
			for closed := range size {
				w := emptyWorld(c)
				w.Register = registerOf(c, size, closed, 0)
				if closed == size-1 {
					checkNotMended(t, w)
					continue
				}
				checkMended(t, w, func(w *impl.World) {
					w.Register.Eras[closed].Closed = true
					for _, node := range w.Register.Eras[closed].Nodes {
						w.Stores[node].Seal = size - 1
					}
				})
			}
		}
	}
}

// One behind the other, up to the last one, each from its own nodes.
func TestHonestMendInARow(t *testing.T) {
	w := emptyWorld(conf(2, 0, 1, 2, 3))
	for epoch, mask := range []int{15, 7, 14, 11} {
		w = after(t, w, openDeed(mask))
		for range epoch {
			w, _ = checkHonestAdd(t, w, epoch, "x")
		}
	}
	for epoch := 1; epoch <= 3; epoch++ {
		next, ok := checkHonestMend(t, w)
		if !ok || impl.FirstOpen(next.Register) != epoch+1 || next.Register.Eras[epoch-1].Last != epoch-1 {
			t.Fatalf("epoch %d: %v, %s", epoch, ok, whole(next))
		}
		w = next
	}
	checkNotMended(t, w)
	w, _ = impl.HonestRead(w, 0)
	if r := w.Readers[0]; r.Epoch != 4 || r.Off != 4 || len(r.Out) != 9 {
		t.Errorf("%v", r)
	}
}

// A mend that is there goes on where it is; once it is planned no node can be sealed for it, and nothing is done.
func TestHonestMendBegun(t *testing.T) {
	w := leftWorld(t)
	want, _ := impl.HonestMend(w)
	begun := []impl.Deed{mendDeed(), sealDeed(1), sealDeed(2), sealDeed(0)}
	for size := range len(begun) + 1 {
		if got, ok := checkHonestMend(t, after(t, w, begun[:size]...)); !ok || !sameWorld(got, want) {
			t.Fatalf("behind %v: %v, %s", begun[:size], ok, whole(got))
		}
	}
	rest := []impl.Deed{planDeed(), fixDeed(1, 0), syncDeed(0), fixDeed(1, 1), fixDeed(2, 1), fixDeed(3, 1), fixDeed(4, 1), syncDeed(1), fixDeed(2, 0), fixDeed(3, 0), fixDeed(4, 0), syncDeed(0)}
	w = after(t, w, begun...)
	for size := 1; size <= len(rest); size++ {
		checkNotMended(t, after(t, w, rest[:size]...))
	}
	w = after(t, w, rest...)
	if !impl.MendReady(w.Config, w.Mends[0]) {
		t.Fatalf("%s is not ready", whole(w))
	}
	// The rest of it is only to be closed, and nothing is left to mend then.
	checkNotMended(t, after(t, w, closeDeed()))
	// All of its nodes may be lost: what is planned is not planned again.
	checkNotMended(t, after(t, w, loseDeed(0), loseDeed(1), loseDeed(2)))
}

// What a node had that was sealed and is lost since is written all the same; it counts among those that were sealed.
func TestHonestMendLostSince(t *testing.T) {
	w := after(t, emptyWorld(conf(2, 0, 1, 2)), openDeed(7), addDeed(0, "a"), storeDeed(0, 1, 0), syncDeed(0), openDeed(7))
	sealed := after(t, w, mendDeed(), sealDeed(0), loseDeed(0))
	mended := impl.Store{Kept: []impl.Entry{mendedData(1, 2, "a")}, Seal: 1}
	got := checkMended(t, sealed, func(w *impl.World) {
		w.Stores[1], w.Stores[2] = mended, mended
		w.Register.Eras[0], w.Mends = closedEra(1, 0, 1, 2), nil
	})
	checkReadTo(t, got, 1, 2, 1, toldData(1, "a"), impl.Event{Kind: evEra, At: 2})
	// Not sealed, it took with it what it alone had.
	checkMended(t, after(t, w, loseDeed(0)), func(w *impl.World) {
		w.Stores[1].Seal, w.Stores[2].Seal = 1, 1
		w.Register.Eras[0] = closedEra(0, 0, 1, 2)
	})
	// Two nodes that were sealed are enough for the plan, and yet one node that is left does not hold.
	two := after(t, w, mendDeed(), sealDeed(0), sealDeed(1), loseDeed(0), loseDeed(1))
	checkNotMended(t, two)
	// Filled again it is a node like the others.
	got, ok := checkHonestMend(t, after(t, sealed, fillDeed(0)))
	if !ok || !sameStore(got.Stores[0], mended) || len(got.Lost) != 0 {
		t.Fatalf("%v, %s", ok, whole(got))
	}
	// Where nothing was seen there is nothing to hold: those that were sealed are enough, also when all are lost.
	none := after(t, emptyWorld(conf(2, 0, 1, 2)), openDeed(7), openDeed(7), mendDeed(), sealDeed(0), sealDeed(1), loseDeed(0), loseDeed(1), loseDeed(2))
	checkMended(t, none, func(w *impl.World) { w.Register.Eras[0], w.Mends = closedEra(0, 0, 1, 2), nil })
	checkNotMended(t, after(t, emptyWorld(conf(2, 0, 1, 2)), openDeed(7), openDeed(7), mendDeed(), sealDeed(0), loseDeed(0), loseDeed(1), loseDeed(2)))
}

// With nodes that are lost: it is closed just where the others are enough, and hold if there is anything to write.
func TestHonestMendLost(t *testing.T) {
	closed := map[bool]int{}
	for _, c := range []impl.Config{conf(2, 0, 1, 2), conf(2, 0, 0, 1), conf(2, 0, 0, 1, 2), conf(1, 0, 1), conf(3, 0, 1, 2, 3, 3), conf(1, 4)} {
		for mask := range 1 << len(c.Domains) {
			if !isHeld(c, nodesOf(mask)) {
				continue
			}
			empty := after(t, emptyWorld(c), openDeed(mask))
			written, _ := checkHonestAdd(t, empty, 0, "x")
			empty, written = after(t, empty, openDeed(mask)), after(t, written, openDeed(mask))
			for lost := range 1 << len(c.Domains) {
				left := nodesOf(mask &^ lost)
				var list []impl.Deed
				for _, node := range nodesOf(lost) {
					list = append(list, loseDeed(node))
				}
				enough := isEnough(c, nodesOf(mask), left)
				closed[checkMendLost(t, after(t, empty, list...), enough, 0)]++
				closed[checkMendLost(t, after(t, written, list...), enough && isHeld(c, left), 1)]++
			}
		}
	}
	if closed[true] < 100 || closed[false] < 100 {
		t.Errorf("%v", closed)
	}
}

// checkMendLost asks for the one word of the epoch, if it has one, to lie on each node that is left.
func checkMendLost(t *testing.T, w impl.World, want bool, last int) bool {
	t.Helper()
	got, ok := checkHonestMend(t, w)
	if ok != want || !ok && !sameWorld(got, w) || ok && !sameEra(got.Register.Eras[0], closedEra(last, w.Register.Eras[0].Nodes...)) {
		t.Fatalf("HonestMend of %s: %v, %s; want %v", whole(w), ok, whole(got), want)
	}
	if holders := impl.HoldersOf(got, at(1, 1)); ok && last == 1 && !slices.Equal(holders, nodesLeft(w, 1)) {
		t.Fatalf("HonestMend of %s: %v have it", whole(w), holders)
	}
	return ok
}

// Nodes of one domain may be enough to know that nothing was written, and yet not to write.
func TestHonestMendOneDomain(t *testing.T) {
	w := after(t, emptyWorld(conf(2, 0, 0, 1)), openDeed(7), openDeed(7), loseDeed(2))
	checkMended(t, w, func(w *impl.World) {
		w.Stores[0].Seal, w.Stores[1].Seal = 1, 1
		w.Register.Eras[0] = closedEra(0, 0, 1, 2)
	})
	checkNotMended(t, after(t, w, addDeed(0, "x"), storeDeed(0, 1, 1)))
	checkNotMended(t, after(t, emptyWorld(conf(2, 0, 0, 1)), openDeed(7), openDeed(7), loseDeed(0), loseDeed(2)))
}

// A node that can't do its part hinders all, as it is not lost.
func TestHonestMendNodeRefuses(t *testing.T) {
	b, x := impl.Entry{At: at(1, 2), Data: "b"}, impl.Entry{At: at(2, 1), Data: "x"}
	w := storesAre(storesAre(twoWorld(), 0, []impl.Entry{b}), 1, []impl.Entry{b})
	written := []impl.Entry{mendedHole(1, 2), mendedData(2, 2, "b")}
	mended := func(w *impl.World) {
		for node := range 3 {
			w.Stores[node] = impl.Store{Kept: written, Seal: 1}
		}
		w.Register.Eras[0] = closedEra(2, 0, 1, 2)
	}
	checkMended(t, w, mended)
	for node := range 4 {
		// Sealed up to the epoch that mends it takes nothing of that one; where nothing is to be written it need not.
		sealed := changedWorld(w, func(w *impl.World) { w.Stores[node].Seal = 2 })
		empty := changedWorld(twoWorld(), func(w *impl.World) { w.Stores[node].Seal = 2 })
		// No room for what is late, for what is to be written, and just enough of it.
		late := changedWorld(w, func(w *impl.World) {
			w.Stores[node] = impl.Store{Kept: entriesFrom(300, mostKept), Late: []impl.Entry{x}}
		})
		full := changedWorld(w, func(w *impl.World) { w.Stores[node].Kept = entriesFrom(300, mostKept-1) })
		ahead := changedWorld(w, func(w *impl.World) { w.Stores[node].Kept = []impl.Entry{{At: at(1, 1), Wave: 2, Data: "n"}} })
		if node == 3 {
			// It is not of the epoch: nothing is asked of it, and what is late there stays so.
			for _, w := range []impl.World{sealed, late, full, ahead} {
				checkMended(t, w, mended)
			}
			continue
		}
		for _, w := range []impl.World{sealed, late, full, ahead} {
			checkNotMended(t, w)
		}
		checkMended(t, empty, func(w *impl.World) {
			for i := range 3 {
				w.Stores[i].Seal = max(1, w.Stores[i].Seal)
			}
			w.Register.Eras[0] = closedEra(0, 0, 1, 2)
		})
	}
	most := changedWorld(w, func(w *impl.World) { w.Stores[1].Kept = entriesFrom(300, mostKept-2) })
	checkMended(t, most, func(w *impl.World) {
		mended(w)
		w.Stores[1].Kept = slices.Concat(written, entriesFrom(300, mostKept-2))
	})
	// What lies there already takes no more room.
	there := changedWorld(w, func(w *impl.World) { w.Stores[0].Kept = append(w.Stores[0].Kept, entriesFrom(300, mostKept-2)...) })
	checkMended(t, there, func(w *impl.World) {
		mended(w)
		w.Stores[0].Kept = slices.Concat(written, entriesFrom(300, mostKept-2))
	})
}

// A word of the epoch that mends is told on by the syncs, where anything is written; by the seals alone it is not.
func TestHonestMendTells(t *testing.T) {
	c := impl.Entry{At: at(2, 1), Data: "c"}
	w := storesAre(storesAre(twoWorld(), 1, nil, c), 2, nil, c)
	sealed := impl.Store{Kept: []impl.Entry{c}, Seal: 1}
	checkMended(t, w, func(w *impl.World) {
		w.Stores[0].Seal, w.Stores[1], w.Stores[2] = 1, sealed, sealed
		w.Register.Eras[0] = closedEra(0, 0, 1, 2)
	})
	a := impl.Entry{At: at(1, 1), Data: "a"}
	mended := impl.Store{Kept: []impl.Entry{mendedData(1, 2, "a"), c}, Seal: 1}
	checkMended(t, storesAre(w, 0, nil, a), func(w *impl.World) {
		w.Stores[0], w.Stores[1], w.Stores[2] = impl.Store{Kept: mended.Kept[:1], Seal: 1}, mended, mended
		w.Register.Eras[0] = closedEra(1, 0, 1, 2)
		w.Writers[1].Words[0] = doneWord("c", 1, 2)
		w.Sent[2].Sure = true
	})
}

// An epoch that was opened since takes the mend away, at each of its steps: the later one mends, and what the earlier one wrote is what it goes by.
func TestHonestMendOpenedSince(t *testing.T) {
	w := leftWorld(t)
	steps := []impl.Deed{mendDeed(), sealDeed(0), sealDeed(1), planDeed(), fixDeed(1, 0), syncDeed(0), fixDeed(1, 1), fixDeed(2, 1), syncDeed(1), fixDeed(2, 0), syncDeed(0)}
	for size := range len(steps) + 1 {
		opened := after(t, after(t, w, steps[:size]...), openDeed(7))
		// Node 2 is sealed with the others here, so that "d" is seen, whatever was planned before.
		checkMended(t, opened, func(w *impl.World) {
			w.Stores = []impl.Store{mendedStore(3), mendedStore(3), mendedStore(3)}
			w.Register.Eras[0] = closedEra(4, 0, 1, 2)
		})
	}
	// A hole that the earlier one wrote on a node stands over what another node has.
	hole := after(t, emptyWorld(conf(2, 0, 1, 2)), lackingEpoch()...)
	hole = after(t, hole, fixDeed(1, 1), syncDeed(1), openDeed(7))
	mended := impl.Store{Kept: []impl.Entry{mendedHole(1, 3), mendedData(2, 3, "b")}, Seal: 2}
	hole = checkMended(t, hole, func(w *impl.World) {
		w.Stores = []impl.Store{mended, mended, mended}
		w.Register.Eras[0] = closedEra(2, 0, 1, 2)
	})
	// The epoch between is the next one to be mended.
	checkMended(t, hole, func(w *impl.World) { w.Register.Eras[1] = closedEra(0, 0, 1, 2) })
}

// As many offsets and nodes as there can be; with one word at the last offset alone the others are holes.
func TestHonestMendMost(t *testing.T) {
	c := conf(4, 0, 1, 2, 3, 4, 5, 6, 7)
	w := emptyWorld(c)
	w.Register.Eras = []impl.Era{openEra(nodesUpTo(8)...), openEra(nodesUpTo(8)...)}
	for off := 1; off <= lastOff; off++ {
		node := off % 8
		w.Stores[node].Kept = append(w.Stores[node].Kept, impl.Entry{At: at(1, off), Data: strconv.Itoa(off)})
	}
	one := changedWorld(w, func(w *impl.World) {
		clear(w.Stores)
		w.Stores[5].Late = []impl.Entry{{At: at(1, lastOff), Data: "last"}}
	})
	var all, holes []impl.Entry
	for off := 1; off <= lastOff; off++ {
		all, holes = append(all, mendedData(off, 2, strconv.Itoa(off))), append(holes, mendedHole(off, 2))
	}
	holes[lastOff-1] = mendedData(lastOff, 2, "last")
	for _, x := range []struct {
		left impl.World
		kept []impl.Entry
	}{{w, all}, {one, holes}} {
		got, ok := impl.HonestMend(x.left)
		want := changedWorld(x.left, func(w *impl.World) {
			for node := range w.Stores {
				w.Stores[node] = impl.Store{Kept: x.kept, Seal: 1}
			}
			w.Register.Eras[0] = closedEra(lastOff, nodesUpTo(8)...)
		})
		if !ok || !sameWorld(got, want) {
			t.Fatalf("%v, %s", ok, whole(got))
		}
	}
}

// At many worlds, against deeds one behind the other.
func TestHonestGrid(t *testing.T) {
	sure, told, closed := 0, 0, 0
	for _, w := range append(someWorlds(), deedWorlds()...) {
		for _, x := range []int{-1, 0, 1, 2, 3, 4} {
			if _, ok := checkHonestAdd(t, w, x, "new"); ok {
				sure++
			}
			_, count := checkHonestRead(t, w, x)
			told += count
		}
		if _, ok := checkHonestMend(t, w); ok {
			closed++
		}
	}
	if sure < 20 || told < 60 || closed < 8 {
		t.Errorf("%d were sure, %d told, %d closed", sure, told, closed)
	}
}

// checkHonestSent: what was sent is there with its Data, and what is Sure is so.
func checkHonestSent(t *testing.T, before impl.World, after impl.World) {
	t.Helper()
	for _, was := range before.Sent {
		i := slices.IndexFunc(after.Sent, func(s impl.Sent) bool { return s.At == was.At })
		if i < 0 || after.Sent[i].Data != was.Data || was.Sure && !after.Sent[i].Sure {
			t.Fatalf("%v became another: %v", was, after.Sent)
		}
	}
}

// The three below are promise 15 without a model, for worlds that came by deeds from a new one: there no store is full.

// addIsDue is so where a writer has room for a word, and the nodes that are left and not sealed hold.
func addIsDue(w impl.World, writer int) bool {
	if writer >= len(w.Writers) {
		return false
	}
	x := w.Writers[writer]
	nodes := slices.DeleteFunc(nodesLeft(w, x.Epoch), func(node int) bool { return w.Stores[node].Seal >= x.Epoch || len(w.Stores[node].Late) == mostLate })
	isSent := slices.ContainsFunc(w.Sent, func(s impl.Sent) bool { return s.At == at(x.Epoch, len(x.Words)+1) })
	return len(x.Words) < lastOff && openOf(x) < mostOpen && len(w.Sent) < mostSent && !isSent && isHeld(w.Config, nodes)
}

func checkAddPromise(t *testing.T, w impl.World, writer int, data string) (impl.World, bool) {
	t.Helper()
	got, ok := checkHonestAdd(t, w, writer, data)
	if ok != addIsDue(w, writer) || !ok && !sameWorld(got, w) || !impl.WorldOk(got) {
		t.Fatalf("HonestAdd of %s, %d: %v, %s", whole(w), writer, ok, whole(got))
	}
	checkHonestSent(t, w, got)
	if !ok {
		return got, false
	}
	place := at(w.Writers[writer].Epoch, len(w.Writers[writer].Words)+1)
	if !slices.Contains(got.Sent, impl.Sent{At: place, Data: data, Sure: true}) || !got.Writers[writer].Words[len(w.Writers[writer].Words)].Done {
		t.Fatalf("HonestAdd of %s, %d: true, and not sure: %s", whole(w), writer, whole(got))
	}
	holders := impl.HoldersOf(got, place)
	for _, node := range holders {
		if e, _ := impl.StoreGet(got.Stores[node], place); e != (impl.Entry{At: place, Data: data}) {
			t.Fatalf("node %d has %v", node, e)
		}
	}
	if !isHeld(w.Config, holders) {
		t.Fatalf("HonestAdd of %s, %d: it lies on %v", whole(w), writer, holders)
	}
	return got, true
}

// mendIsDue is so where there is an epoch to mend, and nothing planned yet; the nodes that are left, with those that were sealed before, are enough, and those that are left hold, if there is anything to write.
func mendIsDue(w impl.World) bool {
	first := firstOpenIs(w.Register)
	if first == 0 || first == len(w.Register.Eras) {
		return false
	}
	left := nodesLeft(w, first)
	sealed, isSeen := slices.Clone(left), false
	for _, m := range w.Mends {
		if m.Planned {
			return false
		}
		sealed, isSeen = append(sealed, m.Sealed...), len(m.Seen) > 0
	}
	slices.Sort(sealed)
	for _, node := range left {
		isSeen = isSeen || slices.ContainsFunc(slices.Concat(w.Stores[node].Kept, w.Stores[node].Late), func(e impl.Entry) bool { return e.At/epochStep == first })
	}
	return isEnough(w.Config, w.Register.Eras[first-1].Nodes, slices.Compact(sealed)) && (!isSeen || isHeld(w.Config, left))
}

func checkMendPromise(t *testing.T, w impl.World) (impl.World, bool) {
	t.Helper()
	got, ok := checkHonestMend(t, w)
	if ok != mendIsDue(w) || !ok && !sameWorld(got, w) || !impl.WorldOk(got) {
		t.Fatalf("HonestMend of %s: %v, %s", whole(w), ok, whole(got))
	}
	checkHonestSent(t, w, got)
	if !ok {
		return got, false
	}
	first := firstOpenIs(w.Register)
	era := got.Register.Eras[first-1]
	if closedOf(got.Register) != closedOf(w.Register)+1 || !era.Closed || len(got.Mends) != 0 {
		t.Fatalf("HonestMend of %s: true, and not closed: %s", whole(w), whole(got))
	}
	for _, s := range got.Sent {
		if s.Sure && s.At > w.Register.Trim && s.At/epochStep == first && s.At%epochStep > era.Last {
			t.Fatalf("HonestMend of %s: %v is above %d", whole(w), s, era.Last)
		}
	}
	for off := 1; off <= era.Last; off++ {
		if holders := impl.HoldersOf(got, at(first, off)); !isHeld(w.Config, holders) {
			t.Fatalf("HonestMend of %s: offset %d lies on %v", whole(w), off, holders)
		}
	}
	return got, true
}

// checkReadPromise: with enough nodes of each epoch it is at its end, behind all that is closed and all that is sure, if it can tell so much.
func checkReadPromise(t *testing.T, w impl.World, reader int) (impl.World, int) {
	t.Helper()
	got, count := checkHonestRead(t, w, reader)
	if again, code := impl.WorldDo(got, readDeed(reader, 255)); code == wdDone || !sameWorld(again, got) {
		t.Fatalf("behind HonestRead of %s, %d: %d, %s", whole(w), reader, code, whole(again))
	}
	r := got.Readers[reader]
	if count != len(r.Out)-len(w.Readers[reader].Out) || !sameReader(got.Readers[1-reader], w.Readers[1-reader]) {
		t.Fatalf("HonestRead of %s, %d: %d, %s", whole(w), reader, count, whole(got))
	}
	allEnough := true
	for i, e := range w.Register.Eras {
		allEnough = allEnough && isEnough(w.Config, e.Nodes, nodesLeft(w, i+1))
	}
	first := max(1, firstOpenIs(w.Register))
	isAtEnd := r.Epoch > first || r.Epoch == first && r.Off > sureOfIs(w, first)
	if allEnough && !isAtEnd && len(r.Out) < mostOut {
		t.Fatalf("HonestRead of %s, %d: it is at %d, %d", whole(w), reader, r.Epoch, r.Off)
	}
	return got, count
}

// In the midst of rows of deeds: what is honest keeps its promise, and those of deeds and judges.
func TestHonestDrawnRows(t *testing.T) {
	t.Parallel()
	sure, told, closed := 0, 0, map[bool]int{}
	for seed := range 60 {
		drawn := rand.New(rand.NewSource(int64(seed)))
		w := emptyWorld(deedConfigs()[seed%6])
		step := []func(*rand.Rand, impl.World) impl.Deed{mixedStep, carefulStep, recklessStep}[seed%3]
		for range 120 {
			switch drawn.Intn(8) {
			case 0:
				var ok bool
				if w, ok = checkAddPromise(t, w, drawn.Intn(len(w.Writers)+1), "h"+strconv.Itoa(drawn.Intn(100))); ok {
					sure++
				}
			case 1:
				var count int
				w, count = checkReadPromise(t, w, drawn.Intn(2))
				told += count
			case 2:
				before := w
				var ok bool
				w, ok = checkMendPromise(t, w)
				if closed[ok]++; ok && drawn.Intn(2) == 0 {
					w = before
				}
			case 3:
				if len(w.Register.Eras) < 2 || drawn.Intn(8) == 0 {
					w, _ = impl.WorldDo(w, openDeed(1<<len(w.Stores)-1))
				}
			default:
				w, _ = impl.WorldDo(w, step(drawn, w))
			}
			checkVerdicts(t, w, allSo)
		}
	}
	if sure < 200 || told < 200 || closed[true] < 60 || closed[false] < 60 {
		t.Errorf("%d were sure, %d told, closed: %v", sure, told, closed)
	}
}

// honestAnswers are all that can be asked of a world, in a fixed order.
func honestAnswers(w impl.World) []impl.World {
	mended, _ := impl.HonestMend(w)
	list := []impl.World{mended}
	for x := -1; x <= 2; x++ {
		added, _ := impl.HonestAdd(w, x, "x")
		read, _ := impl.HonestRead(w, x)
		list = append(list, added, read)
	}
	return list
}

func honestAnswersAre(w impl.World) []impl.World {
	do := deedsBy(doIs)
	mended, _ := do.honestMend(w)
	list := []impl.World{mended}
	for x := -1; x <= 2; x++ {
		added, _ := do.honestAdd(w, x, "x")
		read, _ := do.honestRead(w, x)
		list = append(list, added, read)
	}
	return list
}

func honestWorlds(t *testing.T) []impl.World {
	t.Helper()
	w := leftWorld(t)
	return append(deedWorlds(), w, after(t, w, mendDeed(), sealDeed(2)), after(t, w, loseDeed(0)), after(t, w, loseDeed(0), loseDeed(1)))
}

func TestHonestWritesNothing(t *testing.T) {
	for _, w := range honestWorlds(t) {
		laid := layDown(w)
		before := laid.look()
		all := memoryOf(laid.wholes...)
		for i, got := range honestAnswers(laid.given) {
			if list := memoryOf(got); shareMemory(list, all) || !areApart(list) {
				t.Fatalf("one answers what it was given, or one thing twice: %d, %s", i, whole(w))
			}
		}
		if !laid.isStill(before) {
			t.Fatalf("one wrote into what it was given: %s", whole(w))
		}
	}
}

// Two answers share nothing, and an answer stays as it was told, whatever is done to the arguments afterwards.
func TestHonestSharesNothing(t *testing.T) {
	for _, w := range honestWorlds(t) {
		laid := layDown(w)
		one, two := honestAnswers(laid.given), honestAnswers(laid.given)
		laid.spoil()
		for i, want := range honestAnswersAre(w) {
			if shareMemory(memoryOf(one[i]), memoryOf(two[i])) {
				t.Fatalf("two answers share memory: %d, %s", i, whole(w))
			}
			spoilAll(one[i])
			if !sameWorld(two[i], want) {
				t.Fatalf("an answer became another: %d, %s", i, whole(w))
			}
		}
	}
}

// Nothing is kept from call to call, and many may call at once.
func TestHonestAgain(t *testing.T) {
	worlds := honestWorlds(t)
	var all sync.WaitGroup
	for seed := range 4 {
		all.Add(1)
		go func() {
			defer all.Done()
			for _, i := range rand.New(rand.NewSource(int64(seed))).Perm(len(worlds)) {
				if !slices.EqualFunc(honestAnswers(worlds[i]), honestAnswersAre(worlds[i]), sameWorld) {
					t.Errorf("%s", whole(worlds[i]))
					return
				}
			}
		}()
	}
	all.Wait()
}

// Whichever node is ready first: with one that runs at a time, and with many, a run is the same each time.
func TestHonestSameEachTime(t *testing.T) {
	before := runtime.GOMAXPROCS(0)
	defer runtime.GOMAXPROCS(before)
	w := after(t, emptyWorld(conf(3, 0, 1, 2, 3, 4, 5, 6, 7)), openDeed(255))
	run := func() impl.World {
		now, _ := impl.HonestAdd(w, 0, "a")
		now, _ = impl.HonestAdd(now, 0, "b")
		now = after(t, now, addDeed(0, "c"), storeDeed(0, 3, 6), openDeed(126))
		now, ok := impl.HonestMend(now)
		now, count := impl.HonestRead(now, 1)
		if !ok || count != 4 {
			t.Fatalf("%v, %d, %s", ok, count, whole(now))
		}
		return now
	}
	want := run()
	for _, processors := range []int{1, 2, 3, 8} {
		runtime.GOMAXPROCS(processors)
		for i := range 25 {
			if got := run(); !sameWorld(got, want) {
				t.Fatalf("with %d, run %d: %s, not %s", processors, i, whole(got), whole(want))
			}
		}
	}
}

// Those who work together are gone when it is done, whatever came of it.
func TestHonestLeavesNobody(t *testing.T) {
	before := runtime.NumGoroutine()
	for range 20 {
		for _, w := range honestWorlds(t) {
			impl.HonestAdd(w, 0, "x")
			impl.HonestMend(w)
		}
	}
	for wait := 0; runtime.NumGoroutine() > before; wait++ {
		if wait == 1000000 {
			t.Fatalf("%d are there still", runtime.NumGoroutine()-before)
		}
		runtime.Gosched()
	}
}
