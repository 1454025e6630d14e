package tests

import (
	"math/rand"
	"runtime"
	"slices"
	"strconv"
	"strings"
	"sync"
	"testing"

	"loop.example/g00178/impl"
)

// doneIs leaves the world as it was, where the deed is not done.
func doneIs(w impl.World, d impl.Deed) impl.World {
	if next, code := doIs(w, d); code == wdDone {
		return next
	}
	return w
}

// honestAddIs is what HonestAdd must answer, by the model of deeds.
func honestAddIs(w impl.World, writer int, data string) (impl.World, bool) {
	if !isWorld(w) {
		return impl.World{}, false
	}
	next, code := doIs(w, addDeed(writer, data))
	if code != wdDone {
		return deepCopy(w), false
	}
	epoch, off := next.Writers[writer].Epoch, len(next.Writers[writer].Words)
	for node := range next.Stores {
		if slices.Contains(next.Register.Eras[epoch-1].Nodes, node) && !slices.Contains(next.Lost, node) {
			next = doneIs(doneIs(next, storeDeed(writer, off, node)), syncDeed(node))
		}
	}
	if slices.Contains(next.Sent, impl.Sent{At: at(epoch, off), Data: data, Sure: true}) {
		return next, true
	}
	return deepCopy(w), false
}

// honestReadIs is what HonestRead must answer.
func honestReadIs(w impl.World, reader int) (impl.World, int) {
	if !isWorld(w) {
		return impl.World{}, 0
	}
	now := deepCopy(w)
	for count := 0; ; count++ {
		next, code := doIs(now, readDeed(reader, 255))
		if code != wdDone {
			return now, count
		}
		now = next
	}
}

func checkHonestAdd(t *testing.T, w impl.World, writer int, data string) (impl.World, bool) {
	t.Helper()
	got, ok := impl.HonestAdd(w, writer, data)
	want, wantOk := honestAddIs(w, writer, data)
	if ok != wantOk || !sameWorld(got, want) {
		t.Fatalf("HonestAdd of %s, %d, %q: %v, %s; want %v, %s", whole(w), writer, data, ok, whole(got), wantOk, whole(want))
	}
	return got, ok
}

func checkHonestRead(t *testing.T, w impl.World, reader int) (impl.World, int) {
	t.Helper()
	got, count := impl.HonestRead(w, reader)
	want, wantCount := honestReadIs(w, reader)
	if count != wantCount || !sameWorld(got, want) {
		t.Fatalf("HonestRead of %s, %d: %d, %s; want %d, %s", whole(w), reader, count, whole(got), wantCount, whole(want))
	}
	return got, count
}

// The four below are as the document has it, and not by the model; that one must say the same.

func checkAdded(t *testing.T, w impl.World, writer int, data string, change func(*impl.World)) impl.World {
	t.Helper()
	got, ok := checkHonestAdd(t, w, writer, data)
	if want := changedWorld(w, change); !ok || !sameWorld(got, want) || !impl.WorldOk(got) {
		t.Fatalf("HonestAdd of %s, %d, %q: %v, %s; want %s", whole(w), writer, data, ok, whole(got), whole(want))
	}
	return got
}

func checkNotAdded(t *testing.T, w impl.World, writer int, data string) {
	t.Helper()
	want := w
	if !isWorld(w) {
		want = impl.World{}
	}
	if got, ok := checkHonestAdd(t, w, writer, data); ok || !sameWorld(got, want) {
		t.Fatalf("HonestAdd of %s, %d, %q: %v, %s", whole(w), writer, data, ok, whole(got))
	}
}

func checkReadTo(t *testing.T, w impl.World, reader int, epoch int, off int, told ...impl.Event) impl.World {
	t.Helper()
	got, count := checkHonestRead(t, w, reader)
	want := changedWorld(w, func(w *impl.World) {
		w.Readers[reader] = impl.Reader{Epoch: epoch, Off: off, Out: append(w.Readers[reader].Out, told...)}
	})
	if count != len(told) || !sameWorld(got, want) {
		t.Fatalf("HonestRead of %s, %d: %d, %s; want %s", whole(w), reader, count, whole(got), whole(want))
	}
	return got
}

func checkNotRead(t *testing.T, w impl.World, reader int) {
	t.Helper()
	want := w
	if !isWorld(w) {
		want = impl.World{}
	}
	if got, count := checkHonestRead(t, w, reader); count != 0 || !sameWorld(got, want) {
		t.Fatalf("HonestRead of %s, %d: %d, %s", whole(w), reader, count, whole(got))
	}
}

// All nodes have it then, also those that were not needed; the first that hold were told by.
func TestHonestAddKnown(t *testing.T) {
	w := after(t, emptyWorld(conf(2, 0, 1, 2)), openDeed(7))
	a, b := impl.Entry{At: at(1, 1), Data: "a"}, impl.Entry{At: at(1, 2), Data: "b"}
	w = checkAdded(t, w, 0, "a", func(w *impl.World) {
		w.Stores = []impl.Store{storeWith(a), storeWith(a), storeWith(a)}
		w.Writers[0].Words = []impl.Word{doneWord("a", 0, 1)}
		w.Sent = []impl.Sent{{At: at(1, 1), Data: "a", Sure: true}}
	})
	w = checkAdded(t, w, 0, "b", func(w *impl.World) {
		w.Stores = []impl.Store{storeWith(a, b), storeWith(a, b), storeWith(a, b)}
		w.Writers[0].Words = append(w.Writers[0].Words, doneWord("b", 0, 1))
		w.Sent = append(w.Sent, impl.Sent{At: at(1, 2), Data: "b", Sure: true})
	})
	none := impl.Entry{At: at(1, 3)}
	checkAdded(t, w, 0, "", func(w *impl.World) {
		w.Stores = []impl.Store{storeWith(a, b, none), storeWith(a, b, none), storeWith(a, b, none)}
		w.Writers[0].Words = append(w.Writers[0].Words, doneWord("", 0, 1))
		w.Sent = append(w.Sent, impl.Sent{At: at(1, 3), Sure: true})
	})
}

// Nodes of one domain are not enough, and nodes that are not of the epoch have no part in it.
func TestHonestAddNodes(t *testing.T) {
	for _, c := range slices.Concat(smallConfigs(), registerConfigs()) {
		for mask := range 1 << len(c.Domains) {
			nodes := nodesOf(mask)
			if !isHeld(c, nodes) {
				continue
			}
			e := impl.Entry{At: at(1, 1), Data: "x"}
			enough := 1
			for !isHeld(c, nodes[:enough]) {
				enough++
			}
			checkAdded(t, after(t, emptyWorld(c), openDeed(mask)), 0, "x", func(w *impl.World) {
				for _, node := range nodes {
					w.Stores[node] = storeWith(e)
				}
				w.Writers[0].Words = []impl.Word{doneWord("x", nodes[:enough]...)}
				w.Sent = []impl.Sent{{At: at(1, 1), Data: "x", Sure: true}}
			})
		}
	}
}

// With nodes that are lost: it is sure just where the others hold, and else nothing is turned.
func TestHonestAddLost(t *testing.T) {
	for _, c := range []impl.Config{conf(2, 0, 1, 2), conf(2, 0, 0, 1, 2), conf(1, 0, 1), conf(3, 0, 1, 2, 3, 4)} {
		for mask := range 1 << len(c.Domains) {
			for lost := range 1 << len(c.Domains) {
				if !isHeld(c, nodesOf(mask)) {
					continue
				}
				w := after(t, emptyWorld(c), openDeed(mask))
				w.Lost, w.Torn = nodesOf(lost), isHeld(c, nodesOf(lost))
				got, ok := checkHonestAdd(t, w, 0, "x")
				if ok != isHeld(c, nodesOf(mask&^lost)) || !ok && !sameWorld(got, w) {
					t.Fatalf("%v, mask %d, lost %d: %v, %s", c, mask, lost, ok, whole(got))
				}
				for node, s := range got.Stores {
					if (len(s.Kept) == 1) != (ok && mask&^lost>>node&1 == 1) {
						t.Fatalf("%v, mask %d, lost %d: node %d has %v", c, mask, lost, node, s)
					}
				}
			}
		}
	}
}

// What speaks against the deed of adding speaks against all: there is nothing sent then, whatever is sure there already.
func TestHonestAddRefused(t *testing.T) {
	w := twoWorld()
	for _, writer := range append(wrongNumbers(), 2, 3, 4) {
		checkNotAdded(t, w, writer, "x")
		checkNotAdded(t, w, writer, strings.Repeat("x", mostData+1))
	}
	for _, data := range tooMuchData() {
		checkNotAdded(t, w, 0, data)
	}
	for size := range mostData + 3 {
		if _, ok := checkHonestAdd(t, w, 1, strings.Repeat("x", size)); ok != (size <= mostData) {
			t.Fatalf("%d bytes: %v", size, ok)
		}
	}
	sent := changedWorld(sureWorld(), func(w *impl.World) { w.Writers[0].Words = w.Writers[0].Words[:1] })
	checkNotAdded(t, sent, 0, "b")
	checkNotAdded(t, sent, 0, "x")
	c := conf(2, 0, 1, 2, 0)
	for _, row := range someRows() {
		w := changedWorld(twoWorld(), func(w *impl.World) { w.Writers, w.Sent = []impl.Writer{writerOf(c, 1, row), {Epoch: 2}}, nil })
		if _, ok := checkHonestAdd(t, w, 0, "x"); ok != (len(row) < lastOff && strings.Count(row, "o") < mostOpen) {
			t.Fatalf("%q: %v", row, ok)
		}
	}
	for size := mostSent - 2; size <= mostSent; size++ {
		w := worldOfSent(3, sentUpTo(2, size)...)
		w.Writers = []impl.Writer{{Epoch: 3}}
		if _, ok := checkHonestAdd(t, w, 0, "x"); ok != (size < mostSent) {
			t.Fatalf("%d were sent: %v", size, ok)
		}
	}
}

// A node that refuses does not hinder the others; it is synced all the same.
func TestHonestAddNodeRefuses(t *testing.T) {
	x, c := impl.Entry{At: at(1, 3), Data: "x"}, impl.Entry{At: at(2, 1), Data: "c"}
	done := func(w *impl.World, nodes ...int) {
		w.Writers[0].Words = append(w.Writers[0].Words, doneWord("x", nodes...))
		w.Sent = slices.Insert(w.Sent, 2, impl.Sent{At: at(1, 3), Data: "x", Sure: true})
	}
	// Node 1 is sealed: it refuses the word, and yet keeps what came to it, and tells it.
	w := storesAre(twoWorld(), 1, nil, c)
	w.Stores[1].Seal = 1
	checkAdded(t, w, 0, "x", func(w *impl.World) {
		w.Stores[0], w.Stores[1], w.Stores[2] = storeWith(x), impl.Store{Kept: []impl.Entry{c}, Seal: 1}, storeWith(x)
		w.Writers[1].Words[0].Acks = []int{1}
		done(w, 0, 2)
	})
	// Node 0 has no room for what comes, and has it behind that.
	w = changedWorld(twoWorld(), func(w *impl.World) { w.Stores[0].Late = entriesFrom(300, mostLate) })
	w = checkAdded(t, w, 0, "x", func(w *impl.World) {
		w.Stores[0], w.Stores[1], w.Stores[2] = storeWith(entriesFrom(300, mostLate)...), storeWith(x), storeWith(x)
		done(w, 1, 2)
	})
	y := impl.Entry{At: at(1, 4), Data: "y"}
	checkAdded(t, w, 0, "y", func(w *impl.World) {
		w.Stores[0], w.Stores[1], w.Stores[2] = storeWith(append([]impl.Entry{y}, entriesFrom(300, mostLate)...)...), storeWith(x, y), storeWith(x, y)
		w.Writers[0].Words = append(w.Writers[0].Words, doneWord("y", 0, 1))
		w.Sent = slices.Insert(w.Sent, 3, impl.Sent{At: at(1, 4), Data: "y", Sure: true})
	})
	// Node 2 can keep no more: the word comes to it, and does not last.
	w = changedWorld(twoWorld(), func(w *impl.World) { w.Stores[2].Kept = entriesFrom(300, mostKept) })
	checkAdded(t, w, 0, "x", func(w *impl.World) {
		w.Stores[0], w.Stores[1], w.Stores[2].Late = storeWith(x), storeWith(x), []impl.Entry{x}
		done(w, 0, 1)
	})
	// Two that refuse are too many.
	w.Stores[1].Seal = 1
	checkNotAdded(t, w, 0, "x")
	checkNotAdded(t, changedWorld(twoWorld(), func(w *impl.World) { w.Stores[0].Seal, w.Stores[1].Seal = 1, 9 }), 0, "x")
}

// Words that wait from before stay so, but those that lie on a node already; they do not hinder it to be sure of this one.
func TestHonestAddOthers(t *testing.T) {
	a, x := impl.Entry{At: at(1, 1), Data: "a"}, impl.Entry{At: at(1, 3), Data: "x"}
	w := storesAre(storesAre(twoWorld(), 0, nil, a), 2, []impl.Entry{a})
	checkAdded(t, w, 0, "x", func(w *impl.World) {
		w.Stores[0], w.Stores[1], w.Stores[2] = storeWith(a, x), storeWith(x), storeWith(a, x)
		w.Writers[0] = writerWith(1, doneWord("a", 0, 2), openWord("b"), doneWord("x", 0, 1))
		w.Sent = slices.Insert(w.Sent, 2, impl.Sent{At: at(1, 3), Data: "x", Sure: true})
		w.Sent[0].Sure = true
	})
	y := impl.Entry{At: at(2, 2), Data: "y"}
	checkAdded(t, twoWorld(), 1, "y", func(w *impl.World) {
		w.Stores[1], w.Stores[2], w.Stores[3] = storeWith(y), storeWith(y), storeWith(y)
		w.Writers[1] = writerWith(2, openWord("c"), doneWord("y", 1, 2))
		w.Sent = append(w.Sent, impl.Sent{At: at(2, 2), Data: "y", Sure: true})
	})
}

func TestHonestBadWorld(t *testing.T) {
	for _, w := range badWorlds() {
		for _, x := range []int{-1, 0, 1, 2} {
			checkNotAdded(t, w, x, "x")
			checkNotAdded(t, w, x, strings.Repeat("x", mostData+1))
			checkNotRead(t, w, x)
		}
	}
}

// As many as an epoch has places for, one behind the other, and read to their end.
func TestHonestAddMany(t *testing.T) {
	w := after(t, emptyWorld(conf(2, 0, 1, 2)), openDeed(7))
	var told []impl.Event
	for off := 1; off <= lastOff; off++ {
		next, ok := impl.HonestAdd(w, 0, strconv.Itoa(off))
		if !ok || impl.SureOf(next, 1) != off {
			t.Fatalf("offset %d: %s", off, whole(next))
		}
		w = next
		told = append(told, toldData(off, strconv.Itoa(off)))
	}
	checkNotAdded(t, w, 0, "x")
	w = checkReadTo(t, w, 1, 1, lastOff+1, told...)
	checkNotRead(t, w, 1)
	w = checkReadTo(t, w, 0, 1, lastOff+1, told...)
	checkVerdicts(t, w, allSo)
}

func TestHonestReadKnown(t *testing.T) {
	a, b := toldData(1, "a"), toldData(2, "b")
	for reader := range 2 {
		checkNotRead(t, twoWorld(), reader)
		w := checkReadTo(t, sureWorld(), reader, 1, 3, a, b)
		checkNotRead(t, w, reader)
		checkReadTo(t, w, 1-reader, 1, 3, a, b)
		// Behind what is closed it goes on, and behind what is given up.
		w.Register.Eras[0] = closedEra(2, 0, 1, 2)
		w.Writers[1].Words[0] = doneWord("c", 1, 2)
		w.Stores[1].Kept = append(w.Stores[1].Kept, impl.Entry{At: at(2, 1), Data: "c"})
		era, c := impl.Event{Kind: evEra, At: 2}, impl.Event{Kind: evData, At: at(2, 1), Data: "c"}
		w = checkReadTo(t, w, reader, 2, 2, era, c)
		checkReadTo(t, w, 1-reader, 2, 2, a, b, era, c)
		w.Register.Trim = at(1, 1)
		checkReadTo(t, w, 1-reader, 2, 2, impl.Event{Kind: evTrim, At: at(1, 1)}, b, era, c)
		w.Stores[1].Kept = w.Stores[1].Kept[:2]
		checkReadTo(t, w, 1-reader, 2, 2, impl.Event{Kind: evTrim, At: at(1, 1)}, b, era, impl.Event{Kind: evLoss, At: at(2, 1)})
	}
	for _, w := range []impl.World{sureWorld(), twoWorld(), fiveWorld(), emptyWorld(conf(1, 0))} {
		for _, reader := range append(wrongNumbers(), 2, 3) {
			checkNotRead(t, w, reader)
		}
	}
}

// Where too few answer it stops; what was told ahead of that stays told.
func TestHonestReadFew(t *testing.T) {
	a, b := toldData(1, "a"), toldData(2, "b")
	for lost := range 16 {
		w := changedWorld(sureWorld(), func(w *impl.World) {
			w.Lost, w.Torn = nodesOf(lost), isHeld(w.Config, nodesOf(lost))
			for _, node := range w.Lost {
				w.Stores[node] = impl.Store{}
			}
		})
		if isHeld(w.Config, nodesOf(lost&7)) {
			checkNotRead(t, w, 0)
			continue
		}
		checkReadTo(t, w, 0, 1, 3, a, b)
		w.Register.Eras = append(w.Register.Eras[:1], openEra(0, 1, 2, 3))
		w.Register.Eras[0].Closed, w.Register.Eras[0].Last = true, 2
		checkReadTo(t, w, 0, 2, 1, a, b, impl.Event{Kind: evEra, At: 2})
	}
}

// It comes to its end where a reader can tell no more, and all eight nodes are asked.
func TestHonestReadMost(t *testing.T) {
	c := conf(4, 0, 1, 2, 3, 4, 5, 6, 7)
	w := emptyWorld(c)
	for range lastEpoch {
		w.Register.Eras = append(w.Register.Eras, closedEra(lastOff, nodesUpTo(8)...))
	}
	w.Register.Eras[lastEpoch-1] = openEra(nodesUpTo(8)...)
	w.Stores[7] = storeWith(entriesFrom(0, mostKept)...)
	for told := mostOut; told >= 0; told -= 8 {
		w.Readers[1].Out = someEvents(told)
		got, count := checkHonestRead(t, w, 1)
		if count != mostOut-told || len(got.Readers[1].Out) != mostOut {
			t.Fatalf("%d were told: %d more", told, count)
		}
	}
	w.Readers[1].Out = nil
	w, _ = impl.HonestRead(w, 1)
	// An epoch has an event of its end, too.
	for i, e := range w.Readers[1].Out {
		kept := nthEntry(i - i/61)
		want := impl.Event{Kind: evData, At: kept.At, Data: kept.Data}
		switch {
		case i%61 == 60:
			want = impl.Event{Kind: evEra, At: 2 + i/61}
		case kept.Hole:
			want = impl.Event{Kind: evHole, At: kept.At}
		}
		if e != want {
			t.Fatalf("%d: %v, not %v", i, e, want)
		}
	}
}

// At many worlds, against the model.
func TestHonestGrid(t *testing.T) {
	sure, told := 0, 0
	for _, w := range append(someWorlds(), deedWorlds()...) {
		for _, x := range []int{-1, 0, 1, 2, 3, 4} {
			if _, ok := checkHonestAdd(t, w, x, "new"); ok {
				sure++
			}
			_, count := checkHonestRead(t, w, x)
			told += count
		}
	}
	if sure < 20 || told < 60 {
		t.Errorf("%d were sure, %d told", sure, told)
	}
}

// In the midst of rows of deeds, against the model; and what is honest keeps the promises of deeds and judges.
func TestHonestDrawnRows(t *testing.T) {
	sure, told := 0, 0
	for seed := range 40 {
		drawn := rand.New(rand.NewSource(int64(seed)))
		w := emptyWorld(deedConfigs()[seed%6])
		for range 120 {
			before := w
			switch drawn.Intn(6) {
			case 0:
				var ok bool
				if w, ok = checkHonestAdd(t, w, drawn.Intn(len(w.Writers)+1), "h"+strconv.Itoa(drawn.Intn(100))); ok {
					sure++
				}
			case 1:
				var count int
				w, count = checkHonestRead(t, w, drawn.Intn(2))
				told += count
			default:
				w, _ = impl.WorldDo(w, mixedStep(drawn, w))
			}
			for i, s := range before.Sent {
				if was, now := s, w.Sent[slices.IndexFunc(w.Sent, func(x impl.Sent) bool { return x.At == s.At })]; was.Data != now.Data || was.Sure && !now.Sure {
					t.Fatalf("what was sent became another: %d, %v, %v", i, was, now)
				}
			}
			checkVerdicts(t, w, allSo)
		}
	}
	if sure < 200 || told < 200 {
		t.Errorf("%d were sure, %d told", sure, told)
	}
}

func TestHonestWritesNothing(t *testing.T) {
	for _, w := range deedWorlds() {
		laid := layDown(w)
		before := laid.look()
		all := memoryOf(laid.wholes...)
		for x := -1; x <= 2; x++ {
			added, _ := impl.HonestAdd(laid.given, x, "x")
			read, _ := impl.HonestRead(laid.given, x)
			if !laid.isStill(before) {
				t.Fatalf("one wrote into what it was given: %d, %s", x, whole(w))
			}
			for _, got := range []impl.World{added, read} {
				if list := memoryOf(got); shareMemory(list, all) || !areApart(list) {
					t.Fatalf("one answers what it was given, or one thing twice: %d, %s", x, whole(w))
				}
			}
		}
	}
}

// Two answers share nothing, and an answer stays as it was told, whatever is done to the arguments afterwards.
func TestHonestSharesNothing(t *testing.T) {
	for _, w := range deedWorlds() {
		for x := -1; x <= 2; x++ {
			laid := layDown(w)
			added, _ := impl.HonestAdd(laid.given, x, "x")
			again, _ := impl.HonestAdd(laid.given, x, "x")
			read, _ := impl.HonestRead(laid.given, x)
			reread, _ := impl.HonestRead(laid.given, x)
			if shareMemory(memoryOf(added), memoryOf(again)) || shareMemory(memoryOf(read), memoryOf(reread)) {
				t.Fatalf("two answers share memory: %d, %s", x, whole(w))
			}
			laid.spoil()
			spoilAll(added)
			spoilAll(read)
			wantAdded, _ := honestAddIs(w, x, "x")
			wantRead, _ := honestReadIs(w, x)
			if !sameWorld(again, wantAdded) || !sameWorld(reread, wantRead) {
				t.Fatalf("an answer became another: %d, %s", x, whole(w))
			}
		}
	}
}

// Nothing is kept from call to call, and many may call at once.
func TestHonestAgain(t *testing.T) {
	worlds := deedWorlds()
	var all sync.WaitGroup
	for seed := range 4 {
		all.Add(1)
		go func() {
			defer all.Done()
			drawn := rand.New(rand.NewSource(int64(seed)))
			for _, i := range drawn.Perm(3 * len(worlds)) {
				w, x := worlds[i/3], i%3
				added, ok := impl.HonestAdd(w, x, "x")
				want, wantOk := honestAddIs(w, x, "x")
				read, count := impl.HonestRead(w, x)
				wantRead, wantCount := honestReadIs(w, x)
				if ok != wantOk || count != wantCount || !sameWorld(added, want) || !sameWorld(read, wantRead) {
					t.Errorf("%d of %s: %v, %d", x, whole(w), ok, count)
					return
				}
			}
		}()
	}
	all.Wait()
}

// Those who work together are gone when it is done, whatever came of it.
func TestHonestLeavesNobody(t *testing.T) {
	before := runtime.NumGoroutine()
	for range 20 {
		for _, w := range deedWorlds() {
			impl.HonestAdd(w, 0, "x")
		}
	}
	for wait := 0; runtime.NumGoroutine() > before; wait++ {
		if wait == 1000000 {
			t.Fatalf("%d are there still", runtime.NumGoroutine()-before)
		}
		runtime.Gosched()
	}
}
