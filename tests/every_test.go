package tests

import (
	"bytes"
	"fmt"
	"go/ast"
	"go/parser"
	"go/token"
	"maps"
	"math"
	"math/rand"
	"path/filepath"
	"reflect"
	"slices"
	"strings"
	"sync"
	"testing"

	"loop.example/g00178/impl"
)

// everyFunction has all functions of the document, chapter by chapter.
func everyFunction() map[string]any {
	return map[string]any{
		"PlaceMake": impl.PlaceMake, "PlaceOk": impl.PlaceOk, "EpochOf": impl.EpochOf, "OffOf": impl.OffOf, "PlaceText": impl.PlaceText, "PlaceRead": impl.PlaceRead,
		"PutNum": impl.PutNum, "GetNum": impl.GetNum, "PutText": impl.PutText, "GetText": impl.GetText,
		"EntryOk": impl.EntryOk, "EntryPack": impl.EntryPack, "EntryRead": impl.EntryRead, "Better": impl.Better,
		"ConfigOk": impl.ConfigOk, "NodesOk": impl.NodesOk, "SpanOf": impl.SpanOf, "Holds": impl.Holds, "Rest": impl.Rest, "Enough": impl.Enough,
		"MaskNodes": impl.MaskNodes, "NodesMask": impl.NodesMask, "Choose": impl.Choose,
		"StoreOk": impl.StoreOk, "StorePut": impl.StorePut, "StoreSync": impl.StoreSync, "StoreCrash": impl.StoreCrash, "StoreSeal": impl.StoreSeal, "StoreGet": impl.StoreGet, "StoreEra": impl.StoreEra, "StoreTrim": impl.StoreTrim, "StorePack": impl.StorePack, "StoreRead": impl.StoreRead,
		"RegOk": impl.RegOk, "RegOpen": impl.RegOpen, "FirstOpen": impl.FirstOpen, "RegClose": impl.RegClose, "RegTrim": impl.RegTrim, "EraNodes": impl.EraNodes,
		"WriterOk": impl.WriterOk, "WriterAdd": impl.WriterAdd, "WriterAck": impl.WriterAck, "WriterForget": impl.WriterForget, "WriterSure": impl.WriterSure,
		"MendOk": impl.MendOk, "MendNew": impl.MendNew, "MendSeal": impl.MendSeal, "MendPlan": impl.MendPlan, "MendEntry": impl.MendEntry, "MendAck": impl.MendAck, "MendForget": impl.MendForget, "MendReady": impl.MendReady,
		"ReaderOk": impl.ReaderOk, "ReaderNew": impl.ReaderNew, "ReaderNext": impl.ReaderNext,
		"LostOk": impl.LostOk, "Union": impl.Union, "Fill": impl.Fill,
		"WorldOk": impl.WorldOk, "WorldNew": impl.WorldNew, "SureOf": impl.SureOf, "HoldersOf": impl.HoldersOf,
		"DeedOk": impl.DeedOk, "WorldDo": impl.WorldDo, "WorldRun": impl.WorldRun,
		"JudgeOrder": impl.JudgeOrder, "JudgeTrue": impl.JudgeTrue, "JudgeKept": impl.JudgeKept, "JudgeWhole": impl.JudgeWhole, "JudgeSame": impl.JudgeSame, "JudgeAll": impl.JudgeAll,
		"HonestAdd": impl.HonestAdd, "HonestMend": impl.HonestMend, "HonestRead": impl.HonestRead,
		"DeedLine": impl.DeedLine, "DeedParse": impl.DeedParse, "EventText": impl.EventText, "WorldLine": impl.WorldLine, "Session": impl.Session,
		"ConfigPack": impl.ConfigPack, "ConfigRead": impl.ConfigRead, "RegPack": impl.RegPack, "RegRead": impl.RegRead, "WriterPack": impl.WriterPack, "WriterRead": impl.WriterRead, "ReaderPack": impl.ReaderPack, "ReaderRead": impl.ReaderRead,
		"LogOf": impl.LogOf, "LogAt": impl.LogAt, "ToldBy": impl.ToldBy,
	}
}

func everyName() []string {
	return slices.Sorted(maps.Keys(everyFunction()))
}

// No function of the program is left out here.
func TestEveryIsThere(t *testing.T) {
	files, err := filepath.Glob(filepath.Join("..", "impl", "*.go"))
	if err != nil || len(files) == 0 {
		t.Fatal("the program is not beside its tests", err)
	}
	var names []string
	for _, name := range files {
		if strings.HasSuffix(name, "_test.go") {
			continue
		}
		file, err := parser.ParseFile(token.NewFileSet(), name, nil, 0)
		if err != nil {
			t.Fatal(err)
		}
		for _, d := range file.Decls {
			if f, ok := d.(*ast.FuncDecl); ok && f.Recv == nil && f.Name.IsExported() {
				names = append(names, f.Name.Name)
			}
		}
	}
	slices.Sort(names)
	if !slices.Equal(names, everyName()) {
		t.Errorf("the program has %v; asked are %v", names, everyName())
	}
}

// call is one function with arguments.
type call struct {
	name string
	f    reflect.Value
	args []reflect.Value
}

func shownAll(list []reflect.Value) string {
	var all []any
	for _, x := range list {
		all = append(all, x.Interface())
	}
	return fmt.Sprintf("%.1200s", fmt.Sprintf("%+v", all))
}

func (c call) String() string {
	return c.name + " of " + shownAll(c.args)
}

// ask catches what should never be: a panic.
func (c call) ask(t *testing.T) []reflect.Value {
	t.Helper()
	defer func() {
		if x := recover(); x != nil {
			t.Errorf("%s panics: %v", c, x)
		}
	}()
	return c.f.Call(c.args)
}

// alike takes an empty list and nil as the same.
func alike(a reflect.Value, b reflect.Value) bool {
	switch a.Kind() {
	case reflect.Struct:
		for i := range a.NumField() {
			if !alike(a.Field(i), b.Field(i)) {
				return false
			}
		}
		return true
	case reflect.Slice:
		for i := range min(a.Len(), b.Len()) {
			if !alike(a.Index(i), b.Index(i)) {
				return false
			}
		}
		return a.Len() == b.Len()
	}
	return a.Equal(b)
}

func memoryIn(list []reflect.Value) []memory {
	var all []memory
	for _, x := range list {
		all = memoriesOf(all, x)
	}
	return all
}

// check is promise 19 of one call: it answers, it writes nothing into what it was given nor behind it, its answer is new memory, and the same again. It tells the answer.
func (c call) check(t *testing.T) []reflect.Value {
	t.Helper()
	want := c.ask(t)
	laid := &laid[any]{}
	own := call{name: c.name, f: c.f}
	for _, x := range c.args {
		to := reflect.New(x.Type()).Elem()
		laid.layInto(to, x)
		own.args = append(own.args, to)
	}
	before := laid.look()
	got := own.ask(t)
	if t.Failed() {
		t.FailNow()
	}
	if !laid.isStill(before) {
		t.Fatalf("%s wrote into what it was given", c)
	}
	mine := memoryIn(got)
	if shareMemory(mine, memoryOf(laid.wholes...)) || !areApart(mine) {
		t.Fatalf("%s answers what it was given, or one list twice", c)
	}
	laid.spoil()
	if !slices.EqualFunc(got, want, alike) {
		t.Fatalf("%s answers %s, and then %s", c, shownAll(want), shownAll(got))
	}
	return got
}

// edges has the values of a type that the document names: its limits, both sides of them, and what is wrong.
type edges map[reflect.Type][]reflect.Value

func addEdges[T any](to edges, lists ...[]T) {
	for _, x := range slices.Concat(lists...) {
		to[reflect.TypeFor[T]()] = append(to[reflect.TypeFor[T]()], reflect.ValueOf(x))
	}
}

func someTexts() []string {
	texts := slices.Concat(textsOfAllKinds()[:36], someLines(), someData())
	for _, size := range []int{mostData, mostData + 1, mostText, mostText + 1} {
		texts = append(texts, strings.Repeat("x", size), strings.Repeat("#\n", size)[:size])
	}
	return append(texts, strings.Repeat("\n", 200), strings.Repeat("\n", 201), "e1.1", "e30.60", "e31.1", "e1.61", "e01.1", "e1.1 ", "open 7\nadd 0 x\nstore 0 1 0\nsync 0\nread 0 255\nout 0\njudge")
}

// someForms are the bytes of all kinds of records, whole, with one more, and cut off.
func someForms() [][]byte {
	c := fiveConfig()
	list := [][]byte{impl.PutNum(0), impl.PutNum(math.MaxInt), impl.PutText(""), impl.PutText("ab"), entryForm(fewEntries()[0]), configRecord().form(c)}
	for _, s := range someStores()[:8] {
		b, _ := packIs(s)
		list = append(list, b)
	}
	for _, r := range smallRegisters() {
		list = append(list, registerRecord(c).form(r))
	}
	for _, w := range smallWriters() {
		list = append(list, writerRecord(c).form(w))
	}
	for _, r := range smallReaders() {
		list = append(list, readerRecord().form(r))
	}
	for _, b := range slices.Clone(list) {
		list = append(list, append(bytes.Clone(b), 0), b[:len(b)/2], b[:max(0, len(b)-1)])
	}
	return append(list, nil, []byte{}, bytes.Repeat([]byte{255}, 12), bytes.Repeat([]byte{128}, 9), []byte{128, 0}, bytes.Repeat([]byte{1}, 700))
}

func someNumbers() []int {
	list := slices.Concat(notPlaces(), nodesUpTo(10), someStarts(2), startsBelow(), []int{20, 21, 30, 31, 60, 61, 119, 120, 121, 200, 201, 255, 256, 1<<20 - 1, 1 << 20, 1 << 31, 1 << 32})
	return append(list, at(1, 1), at(1, 60), at(2, 3), at(30, 1), at(30, 60))
}

func makeEdges() edges {
	all := edges{}
	c := fiveConfig()
	addEdges(all, someNumbers())
	addEdges(all, someTexts())
	addEdges(all, someForms())
	addEdges(all, badLists(), heldLists(c), [][]int{nil, {0}, {7}, nodesUpTo(8)})
	addEdges(all, someConfigs()[:40], badConfigs())
	addEdges(all, fewEntries(), badEntries())
	addEdges(all, mendLists())
	addEdges(all, someStores(), badStores()[:60])
	addEdges(all, fewUnions())
	addEdges(all, fewRegisters(c), badRegisters(c))
	addEdges(all, fewWriters(c), badWriters(c)[:60])
	addEdges(all, fewMends(c), badMends(c)[:60])
	addEdges(all, someReaders(), badReaders(), packedReaders()[:8])
	addEdges(all, readLists(c, 1, 1), wrongAnswers(c)[:20])
	addEdges(all, fewWorlds(), deedWorlds(), logWorlds())
	addEdges(all, fewDeeds(), badDeeds())
	addEdges(all, [][]impl.Deed{nil, {}, fewDeeds(), badDeeds(), slices.Repeat(fewDeeds()[7:8], mostDeeds), slices.Repeat(fewDeeds()[7:8], mostDeeds+1)})
	addEdges(all, someEvents(30))
	return all
}

// hand draws arguments: most are parts of one world, so that they fit together, and some are at an edge.
type hand struct {
	drawn     *rand.Rand
	functions map[string]reflect.Value
	edges     edges
	worlds    []impl.World
	world     impl.World
}

// movedWorlds are right, and came by deeds from new ones.
func movedWorlds() []impl.World {
	var list []impl.World
	for seed := range 30 {
		count := 0
		drawnRow(seed, deedConfigs()[seed%6], 200, mixedStep, func(w impl.World) {
			if count++; count%25 == 0 {
				list = append(list, w)
			}
		})
	}
	return list
}

func newHand(seed int64) *hand {
	h := &hand{drawn: rand.New(rand.NewSource(seed)), functions: map[string]reflect.Value{}, edges: makeEdges(), worlds: movedWorlds()}
	for name, f := range everyFunction() {
		h.functions[name] = reflect.ValueOf(f)
	}
	return h
}

func pick[T any](drawn *rand.Rand, list []T) T {
	return list[drawn.Intn(len(list))]
}

// turn takes another world.
func (h *hand) turn() {
	h.world = pick(h.drawn, h.worlds)
	if h.drawn.Intn(5) == 0 {
		h.world = h.edge(reflect.TypeFor[impl.World]()).Interface().(impl.World)
	}
}

func (h *hand) edge(kind reflect.Type) reflect.Value {
	return pick(h.drawn, h.edges[kind])
}

func (h *hand) number() int {
	switch k := h.drawn.Intn(20); {
	case k < 3 && len(h.world.Lost) > 0:
		return pick(h.drawn, h.world.Lost)
	case k < 11:
		return h.drawn.Intn(9)
	case k < 13:
		return h.drawn.Intn(62)
	case k < 15:
		return h.drawn.Intn(1 << len(h.world.Stores))
	case k < 18:
		return at(1+h.drawn.Intn(3), 1+h.drawn.Intn(4))
	}
	return h.edge(reflect.TypeFor[int]()).Interface().(int)
}

func (h *hand) form() []byte {
	w := h.world
	list := [][]byte{configRecord().form(conf(2, 0, 1)), entryForm(h.entry()), h.edge(reflect.TypeFor[[]byte]()).Bytes()}
	if isWorld(w) {
		list = append(list, registerRecord(w.Config).form(w.Register), readerRecord().form(w.Readers[0]))
		for _, x := range w.Writers {
			list = append(list, writerRecord(w.Config).form(x))
		}
		for _, s := range w.Stores {
			b, _ := packIs(s)
			list = append(list, b)
		}
	}
	b := bytes.Clone(pick(h.drawn, list))
	if len(b) > 0 && h.drawn.Intn(4) == 0 {
		b[h.drawn.Intn(len(b))] += byte(1 + h.drawn.Intn(255))
	}
	return b
}

func (h *hand) entry() impl.Entry {
	if m := h.world.Mends; len(m) > 0 && h.drawn.Intn(2) == 0 {
		if e, ok := mendEntryIs(m[0], 1+h.drawn.Intn(3)); ok {
			return e
		}
	}
	return drawnEntry(h.drawn)
}

func (h *hand) text() string {
	switch h.drawn.Intn(4) {
	case 0:
		return drawnText(h.drawn)
	case 1:
		line, _ := lineIs(drawnLineDeed(h.drawn))
		return line
	case 2:
		return strings.Join(drawnLines(h.drawn, conf(2, 0, 1, 2), h.drawn.Intn(12)), "\n")
	}
	return impl.PlaceText(at(1+h.drawn.Intn(31), 1+h.drawn.Intn(61)))
}

func (h *hand) deeds() []impl.Deed {
	var list []impl.Deed
	if len(h.world.Stores) == 0 {
		return list
	}
	for range h.drawn.Intn(8) {
		list = append(list, drawnDeed(h.drawn, h.world))
	}
	return list
}

// from is a part of the world, if there is any; else one at an edge.
func from[T any](h *hand, list []T) any {
	if len(list) > 0 {
		return pick(h.drawn, list)
	}
	return h.edge(reflect.TypeFor[T]()).Interface()
}

func (h *hand) nodes() []int {
	lists := [][]int{h.world.Lost, h.world.Lost, nodesOf(h.drawn.Intn(1 << max(1, len(h.world.Stores)))), nodesUpTo(len(h.world.Stores))}
	for _, e := range h.world.Register.Eras {
		lists = append(lists, e.Nodes)
	}
	return pick(h.drawn, lists)
}

func (h *hand) answers() []impl.Answer {
	if !isConfig(h.world.Config) {
		return nil
	}
	return drawnAnswers(h.drawn, h.world.Config, impl.Reader{Epoch: 1 + h.drawn.Intn(2), Off: 1 + h.drawn.Intn(3)})
}

func (h *hand) part(kind reflect.Type) any {
	w := h.world
	switch reflect.Zero(kind).Interface().(type) {
	case int:
		return h.number()
	case string:
		return h.text()
	case []byte:
		return h.form()
	case []int:
		return h.nodes()
	case impl.Config:
		return w.Config
	case impl.Entry:
		return h.entry()
	case []impl.Entry:
		return impl.StoreEra(from(h, w.Stores).(impl.Store), 1+h.drawn.Intn(2))
	case impl.Store:
		return from(h, w.Stores)
	case []impl.Store:
		return w.Stores
	case impl.Register:
		return w.Register
	case impl.Writer:
		return from(h, w.Writers)
	case impl.Mend:
		return from(h, w.Mends)
	case impl.Reader:
		return from(h, w.Readers)
	case []impl.Answer:
		return h.answers()
	case impl.World:
		return w
	case impl.Deed:
		return from(h, h.deeds())
	case []impl.Deed:
		return h.deeds()
	case impl.Event:
		return from(h, slices.Concat(from(h, w.Readers).(impl.Reader).Out, someEvents(4)))
	}
	return nil
}

func (h *hand) draw(name string) call {
	h.turn()
	c := call{name: name, f: h.functions[name]}
	for i := range c.f.Type().NumIn() {
		kind := c.f.Type().In(i)
		x := h.edge(kind)
		if h.drawn.Intn(8) > 0 {
			x = reflect.ValueOf(h.part(kind))
		}
		c.args = append(c.args, x)
	}
	return c
}

// Each edge of each argument, with the others as they are drawn.
func TestEveryAtEdges(t *testing.T) {
	t.Parallel()
	h := newHand(1)
	for _, name := range everyName() {
		one := h.draw(name)
		one.check(t)
		for i, arg := range one.args {
			for _, x := range h.edges[arg.Type()] {
				c := h.draw(name)
				c.args[i] = x
				c.check(t)
			}
		}
	}
}

// Drawn arguments: each function has another answer at some than at others, and what may be false is both; but for the one that is given nothing.
func TestEveryDrawn(t *testing.T) {
	t.Parallel()
	h := newHand(2)
	for _, name := range everyName() {
		answers, flags := map[string]int{}, map[bool]int{}
		for range 500 {
			got := h.draw(name).check(t)
			answers[shownAll(got)]++
			if flag := got[len(got)-1]; flag.Kind() == reflect.Bool {
				flags[flag.Bool()]++
			}
		}
		if (len(answers) < 2 || len(flags) == 1) && name != "ReaderNew" {
			t.Errorf("%s had too few answers: %d, %v", name, len(answers), flags)
		}
	}
}

// Whatever else is asked, and by whom: each call has the answer that it had when it was asked alone, of the very same arguments.
func TestEveryAtOnce(t *testing.T) {
	h := newHand(3)
	var calls []call
	var want [][]reflect.Value
	for _, name := range everyName() {
		for range 12 {
			c := h.draw(name)
			calls = append(calls, c)
			want = append(want, c.ask(t))
		}
	}
	const atOnce = 4
	wrong := [atOnce]string{}
	var group sync.WaitGroup
	for who := range atOnce {
		group.Go(func() {
			for _, i := range rand.New(rand.NewSource(int64(who))).Perm(len(calls)) {
				if got := calls[i].ask(t); !slices.EqualFunc(got, want[i], alike) {
					wrong[who] = calls[i].String()
				}
			}
		})
	}
	group.Wait()
	for _, what := range wrong {
		if what != "" {
			t.Errorf("another answer, asked at once with others: %s", what)
		}
	}
}
