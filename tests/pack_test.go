package tests

import (
	"bytes"
	"encoding/binary"
	"fmt"
	"math"
	"math/rand"
	"slices"
	"strings"
	"sync"
	"testing"

	"loop.example/g00178/impl"
)

// What a piece of a record's bytes is tells which mistakes can be made in it.
const (
	pieceNumber = iota
	pieceCount
	pieceFlag
	pieceLength
	pieceBytes
)

// piece is one number of a record's bytes, or the bytes of a text behind its length.
type piece struct {
	what int
	x    int
	text string
}

func (p piece) form() []byte {
	if p.what == pieceBytes {
		return []byte(p.text)
	}
	return binary.AppendUvarint(nil, uint64(p.x))
}

func numberPiece(x int) piece { return piece{what: pieceNumber, x: x} }

func countPiece(x int) piece { return piece{what: pieceCount, x: x} }

func flagPiece(isSo bool) piece {
	if isSo {
		return piece{what: pieceFlag, x: 1}
	}
	return piece{what: pieceFlag}
}

func textPieces(s string) []piece {
	return []piece{{what: pieceLength, x: len(s)}, {what: pieceBytes, text: s}}
}

func listPieces(list []int) []piece {
	pieces := []piece{countPiece(len(list))}
	for _, x := range list {
		pieces = append(pieces, numberPiece(x))
	}
	return pieces
}

func joined(pieces []piece) []byte {
	var b []byte
	for _, p := range pieces {
		b = append(b, p.form()...)
	}
	return b
}

// looseBytes are read in any form of a number, and with any flag: whether that was the right form is asked afterwards.
type looseBytes struct {
	rest    []byte
	isShort bool
}

func (l *looseBytes) num() int {
	x, size := binary.Uvarint(l.rest)
	if size <= 0 {
		l.rest, l.isShort = nil, true
		return 0
	}
	l.rest = l.rest[size:]
	return int(x)
}

func (l *looseBytes) text() string {
	size := l.num()
	if size < 0 || size > len(l.rest) {
		l.rest, l.isShort = nil, true
		return ""
	}
	s := string(l.rest[:size])
	l.rest = l.rest[size:]
	return s
}

func looseList[T any](l *looseBytes, item func(*looseBytes) T) []T {
	var list []T
	for left := l.num(); left > 0 && !l.isShort; left-- {
		list = append(list, item(l))
	}
	return list
}

// recordKind has the two functions of one kind of record, and a model of the tests' own: what is right, its pieces, and how bytes are read loosely.
type recordKind[T any] struct {
	name   string
	pack   func(T) ([]byte, bool)
	read   func([]byte) (T, bool)
	right  func(T) bool
	pieces func(T) []piece
	loose  func(*looseBytes) T
	same   func(T, T) bool
}

func configRecord() recordKind[impl.Config] {
	return recordKind[impl.Config]{
		name: "Config", pack: impl.ConfigPack, read: impl.ConfigRead, right: isConfig, same: sameConfig,
		pieces: func(c impl.Config) []piece { return append(listPieces(c.Domains), numberPiece(c.Copies)) },
		loose: func(l *looseBytes) impl.Config {
			domains := looseList(l, (*looseBytes).num)
			return impl.Config{Domains: domains, Copies: l.num()}
		},
	}
}

func registerPieces(r impl.Register) []piece {
	pieces := []piece{numberPiece(r.Trim), countPiece(len(r.Eras))}
	for _, e := range r.Eras {
		pieces = append(append(pieces, listPieces(e.Nodes)...), flagPiece(e.Closed), numberPiece(e.Last))
	}
	return pieces
}

func looseRegister(l *looseBytes) impl.Register {
	trim := l.num()
	eras := looseList(l, func(l *looseBytes) impl.Era {
		nodes := looseList(l, (*looseBytes).num)
		closed := l.num()
		return impl.Era{Nodes: nodes, Closed: closed != 0, Last: l.num()}
	})
	return impl.Register{Eras: eras, Trim: trim}
}

func registerRecord(c impl.Config) recordKind[impl.Register] {
	return recordKind[impl.Register]{
		name: fmt.Sprintf("Reg of %.120s", fmt.Sprint(c)), pieces: registerPieces, loose: looseRegister, same: sameRegister,
		pack:  func(r impl.Register) ([]byte, bool) { return impl.RegPack(c, r) },
		read:  func(b []byte) (impl.Register, bool) { return impl.RegRead(c, b) },
		right: func(r impl.Register) bool { return isRegister(c, r) },
	}
}

func writerPieces(w impl.Writer) []piece {
	pieces := []piece{numberPiece(w.Epoch), countPiece(len(w.Words))}
	for _, x := range w.Words {
		pieces = append(append(pieces, textPieces(x.Data)...), listPieces(x.Acks)...)
	}
	return pieces
}

func looseWriter(l *looseBytes, c impl.Config) impl.Writer {
	epoch := l.num()
	words := looseList(l, func(l *looseBytes) impl.Word {
		data := l.text()
		acks := looseList(l, (*looseBytes).num)
		return impl.Word{Data: data, Acks: acks, Done: isHeld(c, acks)}
	})
	return impl.Writer{Epoch: epoch, Words: words}
}

func writerRecord(c impl.Config) recordKind[impl.Writer] {
	return recordKind[impl.Writer]{
		name: fmt.Sprintf("Writer of %.120s", fmt.Sprint(c)), pieces: writerPieces, same: sameWriter,
		pack:  func(w impl.Writer) ([]byte, bool) { return impl.WriterPack(c, w) },
		read:  func(b []byte) (impl.Writer, bool) { return impl.WriterRead(c, b) },
		right: func(w impl.Writer) bool { return isWriter(c, w) },
		loose: func(l *looseBytes) impl.Writer { return looseWriter(l, c) },
	}
}

func isPackedReader(r impl.Reader) bool {
	for _, e := range r.Out {
		if !slices.Contains([]int{evData, evHole, evLoss, evEra, evTrim}, e.Kind) || e.At < 0 || len(e.Data) > mostData {
			return false
		}
	}
	return isReader(r)
}

func readerPieces(r impl.Reader) []piece {
	pieces := []piece{numberPiece(r.Epoch), numberPiece(r.Off), countPiece(len(r.Out))}
	for _, e := range r.Out {
		pieces = append(append(pieces, numberPiece(e.Kind), numberPiece(e.At)), textPieces(e.Data)...)
	}
	return pieces
}

func looseReader(l *looseBytes) impl.Reader {
	epoch := l.num()
	off := l.num()
	out := looseList(l, func(l *looseBytes) impl.Event {
		kind := l.num()
		place := l.num()
		return impl.Event{Kind: kind, At: place, Data: l.text()}
	})
	return impl.Reader{Epoch: epoch, Off: off, Out: out}
}

func readerRecord() recordKind[impl.Reader] {
	return recordKind[impl.Reader]{
		name: "Reader", pack: impl.ReaderPack, read: impl.ReaderRead, right: isPackedReader, pieces: readerPieces, loose: looseReader, same: sameReader,
	}
}

func (k recordKind[T]) form(x T) []byte {
	return joined(k.pieces(x))
}

// readIs is what the Read must answer: what was read loosely counts only if it is right, and its form is the very bytes.
func (k recordKind[T]) readIs(b []byte) (T, bool) {
	l := looseBytes{rest: b}
	x := k.loose(&l)
	if l.isShort || !k.right(x) || !bytes.Equal(k.form(x), b) {
		var none T
		return none, false
	}
	return x, true
}

func (k recordKind[T]) checkPack(t *testing.T, x T) bool {
	t.Helper()
	b, ok := k.pack(x)
	if !k.right(x) {
		if len(b) != 0 || ok {
			t.Fatalf("%sPack(%s): %.200q, %v; it is not right", k.name, shown(x), b, ok)
		}
		return false
	}
	if want := k.form(x); !ok || !bytes.Equal(b, want) {
		t.Fatalf("%sPack(%s): %.200q, %v; want %.200q", k.name, shown(x), b, ok, want)
	}
	if back, isRead := k.read(b); !isRead || !k.same(back, x) {
		t.Fatalf("%sRead(%.200q): %s, %v; it was %s", k.name, b, shown(back), isRead, shown(x))
	}
	return true
}

func (k recordKind[T]) checkRead(t *testing.T, b []byte) bool {
	t.Helper()
	want, wantOk := k.readIs(b)
	x, ok := k.read(b)
	if ok != wantOk || !k.same(x, want) {
		t.Fatalf("%sRead(%.200q): %s, %v; want %s, %v", k.name, b, shown(x), ok, shown(want), wantOk)
	}
	if again, isPacked := k.pack(x); ok && (!isPacked || !bytes.Equal(again, b)) {
		t.Fatalf("%sRead(%.200q) is packed as %.200q, %v", k.name, b, again, isPacked)
	}
	return ok
}

// The three below are as the document has it, and not by the model; that one must say the same.

func (k recordKind[T]) packs(t *testing.T, x T, want string) {
	t.Helper()
	if b, ok := k.pack(x); !ok || string(b) != want {
		t.Fatalf("%sPack(%s): %.200q, %v; want %.200q", k.name, shown(x), b, ok, want)
	}
	if back, ok := k.read([]byte(want)); !ok || !k.same(back, x) {
		t.Fatalf("%sRead(%.200q): %s, %v; want %s", k.name, want, shown(back), ok, shown(x))
	}
	if !k.checkPack(t, x) || !k.checkRead(t, []byte(want)) {
		t.Fatalf("the model has nothing of %s", shown(x))
	}
}

func (k recordKind[T]) refuses(t *testing.T, x T) {
	t.Helper()
	if b, ok := k.pack(x); len(b) != 0 || ok || k.checkPack(t, x) {
		t.Fatalf("%sPack(%s): %.200q, %v", k.name, shown(x), b, ok)
	}
}

func (k recordKind[T]) readsNone(t *testing.T, b []byte) {
	t.Helper()
	var none T
	if x, ok := k.read(b); ok || !k.same(x, none) || k.checkRead(t, b) {
		t.Fatalf("%sRead(%.200q): %s, %v", k.name, b, shown(x), ok)
	}
}

// isWritable is so where no number is below 0: others have no bytes, right or not.
func isWritable(pieces []piece) bool {
	return !slices.ContainsFunc(pieces, func(p piece) bool { return p.x < 0 })
}

// refusesBoth asks for the bytes of what is not right, too: they are in form, and yet of no record.
func (k recordKind[T]) refusesBoth(t *testing.T, x T) {
	t.Helper()
	k.refuses(t, x)
	if isWritable(k.pieces(x)) {
		k.readsNone(t, k.form(x))
	}
}

// packedReader is right, and so is all that it told; someEvents has other things.
func packedReader(epoch int, off int, told int) impl.Reader {
	r := impl.Reader{Epoch: epoch, Off: off}
	data := someData()
	for i := range told {
		r.Out = append(r.Out, impl.Event{Kind: 1 + i%5, At: []int{at(1+i%30, 1+i%60), 0, 2, math.MaxInt, 127, 128}[i%6], Data: data[i*7%len(data)]})
	}
	return r
}

func packedReaders() []impl.Reader {
	list := []impl.Reader{{Epoch: 1, Off: 1}, {Epoch: lastEpoch + 1, Off: lastOff + 1, Out: []impl.Event{}}}
	for i, told := range []int{0, 1, 2, 3, 5, 6, 17, 60, 119, mostOut} {
		list = append(list, packedReader(1+i*3, 1+i*6, told), packedReader(lastEpoch+1-i, lastOff+1-i, told))
	}
	return list
}

func TestRecordKnown(t *testing.T) {
	configRecord().packs(t, conf(2, 0, 1), "\x02\x00\x01\x02")
	configRecord().packs(t, conf(1, 0), "\x01\x00\x01")
	configRecord().packs(t, conf(4, 7, 6, 5, 4, 3, 2, 1, 0), "\x08\x07\x06\x05\x04\x03\x02\x01\x00\x04")
	configRecord().packs(t, conf(4, 7, 7, 7, 7, 7, 7, 7, 7), "\x08\x07\x07\x07\x07\x07\x07\x07\x07\x04")
	c := conf(2, 0, 0, 1)
	registerRecord(c).packs(t, impl.Register{}, "\x00\x00")
	registerRecord(c).packs(t, impl.Register{Eras: []impl.Era{openEra(0, 2)}}, "\x00\x01\x02\x00\x02\x00\x00")
	registerRecord(c).packs(t, impl.Register{Eras: []impl.Era{closedEra(0, 0, 2), closedEra(60, 0, 1, 2), openEra(1, 2), openEra(0, 2)}}, "\x00\x04\x02\x00\x02\x01\x00\x03\x00\x01\x02\x01\x3c\x02\x01\x02\x00\x00\x02\x00\x02\x00\x00")
	registerRecord(c).packs(t, impl.Register{Eras: []impl.Era{openEra(0, 2), openEra(0, 2)}, Trim: at(2, 5)}, "\x85\x80\x80\x80\x20\x02\x02\x00\x02\x00\x00\x02\x00\x02\x00\x00")
	writerRecord(c).packs(t, impl.Writer{Epoch: 1}, "\x01\x00")
	writerRecord(c).packs(t, writerWith(30, openWord("")), "\x1e\x01\x00\x00")
	writerRecord(c).packs(t, writerWith(3, doneWord("a\xff\n", 0, 2), openWord("", 0, 1), doneWord("", 0, 1, 2), openWord("\x00", 2)), "\x03\x04\x03a\xff\n\x02\x00\x02\x00\x02\x00\x01\x00\x03\x00\x01\x02\x01\x00\x01\x02")
	readerRecord().packs(t, impl.ReaderNew(), "\x01\x01\x00")
	readerRecord().packs(t, impl.Reader{Epoch: 31, Off: 61}, "\x1f\x3d\x00")
	told := []impl.Event{{Kind: evTrim, At: at(1, 1)}, {Kind: evData, At: at(1, 2), Data: "hi"}, {Kind: evHole, At: at(1, 3)}, {Kind: evEra, At: 2}, {Kind: evLoss, At: 0, Data: " "}}
	readerRecord().packs(t, impl.Reader{Epoch: 2, Off: 1, Out: told}, "\x02\x01\x05\x05\x81\x80\x80\x80\x10\x00\x01\x82\x80\x80\x80\x10\x02hi\x02\x83\x80\x80\x80\x10\x00\x04\x02\x00\x03\x00\x01 ")
}

func TestConfigPackSome(t *testing.T) {
	for _, c := range someConfigs() {
		configRecord().packs(t, c, string(configRecord().form(c)))
	}
	for _, c := range badConfigs() {
		configRecord().refusesBoth(t, c)
	}
}

// One number at a time is another: how many nodes there are, each domain, Copies.
func TestConfigPackEdges(t *testing.T) {
	k := configRecord()
	for size := range mostNodes + 5 {
		c := conf(2, make([]int, size)...)
		if size >= 1 && size <= mostNodes {
			k.packs(t, c, string(k.form(c)))
		} else {
			k.refusesBoth(t, c)
		}
		for node := range min(size, mostNodes) {
			for _, domain := range append(wrongNumbers(), nodesUpTo(mostNodes)...) {
				other := conf(2, slices.Clone(c.Domains)...)
				other.Domains[node] = domain
				k.checkPack(t, other)
				if domain < 0 || domain > lastDomain || size > mostNodes {
					k.refusesBoth(t, other)
				}
			}
		}
	}
	for _, copies := range append(wrongNumbers(), 0, 1, 2, 3, 4, 5, 6, 7) {
		if c := conf(copies, 0, 1, 2, 3, 4); copies >= 1 && copies <= mostCopies {
			k.packs(t, c, string(k.form(c)))
		} else {
			k.refusesBoth(t, c)
		}
	}
}

func TestRegPackSome(t *testing.T) {
	for _, c := range registerConfigs() {
		k := registerRecord(c)
		for _, r := range someRegisters(c) {
			k.packs(t, r, string(k.form(r)))
		}
		for _, r := range badRegisters(c) {
			k.refusesBoth(t, r)
		}
	}
}

// Each choice of what is closed, each Last and each Trim, at each era.
func TestRegPackEdges(t *testing.T) {
	c := conf(2, 0, 0, 1, 2)
	k := registerRecord(c)
	for mask := range 32 {
		var r impl.Register
		for i := range 5 {
			r.Eras = append(r.Eras, impl.Era{Nodes: []int{i % 2, 2 + i%2}, Closed: mask>>i&1 == 1})
		}
		if isRight := mask&(mask+1) == 0 && mask != 31; k.checkPack(t, r) != isRight || k.checkRead(t, k.form(r)) != isRight {
			t.Errorf("closed by %b: not %v", mask, isRight)
		}
	}
	for i := range 4 {
		for _, last := range []int{math.MinInt, -1, 0, 1, 59, 60, 61, 127, 128, 256, epochStep, epochStep + 1, math.MaxInt} {
			r := registerOf(c, 4, 2, at(2, 7))
			r.Eras[i].Last = last
			if last == 0 || i < 2 && last > 0 && last <= lastOff {
				k.packs(t, r, string(k.form(r)))
			} else {
				k.refusesBoth(t, r)
			}
		}
	}
	for _, trim := range append(append(notPlaces(), somePlaces()...), at(1, 1), at(3, 60), at(4, 1), at(4, 60), at(5, 1)) {
		if r := registerOf(c, 4, 2, trim); trim == 0 || isPlaceUpTo(trim, 4) {
			k.packs(t, r, string(k.form(r)))
		} else {
			k.refusesBoth(t, r)
		}
	}
	for _, nodes := range slices.Concat(wrongLists(c), heldLists(c)) {
		for i := range 3 {
			if r := changedEra(registerOf(c, 3, 1, 0), i, func(e *impl.Era) { e.Nodes = nodes }); isHeld(c, nodes) {
				k.packs(t, r, string(k.form(r)))
			} else {
				k.refusesBoth(t, r)
			}
		}
	}
}

func TestWriterPackSome(t *testing.T) {
	for _, c := range append(writerConfigs(), unheldConfigs()...) {
		k := writerRecord(c)
		some, bad := []impl.Writer{writerWith(1, openWord("a", 0)), writerWith(1, openWord("")), {Epoch: 7}}, []impl.Writer{writerWith(0, openWord("a", 0)), writerWith(1, doneWord("a", 0))}
		if len(heldLists(c)) > 0 {
			some, bad = someWriters(c), badWriters(c)
		}
		for _, w := range some {
			if len(heldLists(c)) > 0 || isWriter(c, w) {
				k.packs(t, w, string(k.form(w)))
			}
		}
		for _, w := range bad {
			if isWriter(c, w) {
				continue
			}
			k.refuses(t, w)
			checkWriterForm(t, c, w)
		}
	}
}

// checkWriterForm reads what a writer would have as bytes: where just Done is not right, they are those of another one, which is.
func checkWriterForm(t *testing.T, c impl.Config, w impl.Writer) {
	t.Helper()
	k := writerRecord(c)
	if !isWritable(k.pieces(w)) {
		return
	}
	told := cloneWriter(w)
	for i, x := range told.Words {
		told.Words[i].Done = isHeld(c, x.Acks)
	}
	if isWriter(c, told) {
		k.packs(t, told, string(k.form(w)))
	} else {
		k.readsNone(t, k.form(w))
	}
}

func TestWriterPackData(t *testing.T) {
	c := conf(2, 0, 1)
	k := writerRecord(c)
	for _, data := range someData() {
		for _, w := range []impl.Writer{writerWith(2, openWord(data)), writerWith(2, doneWord(data, 0, 1), openWord(data, 1)), writerWith(2, openWord(""), doneWord(data, 0, 1), openWord("x"))} {
			k.packs(t, w, string(k.form(w)))
		}
	}
	for _, data := range tooMuchData() {
		for _, w := range []impl.Writer{writerWith(2, openWord(data)), writerWith(2, doneWord(data, 0, 1), openWord("")), writerWith(2, openWord(""), openWord(data, 1))} {
			k.refusesBoth(t, w)
		}
	}
	for b := range 256 {
		w := writerWith(1, openWord(string([]byte{byte(b)})), openWord(string([]byte{byte(b), byte(b)})))
		k.packs(t, w, string(k.form(w)))
	}
}

// Each list of nodes as Acks, with Done and without.
func TestWriterPackAcks(t *testing.T) {
	for _, c := range append(writerConfigs(), unheldConfigs()...) {
		k := writerRecord(c)
		for mask := range 256 {
			acks := nodesOf(mask)
			for _, done := range []bool{false, true} {
				w := writerWith(5, openWord(""), impl.Word{Data: "x", Acks: acks, Done: done}, openWord("y"))
				if areNodes(c, acks) && isHeld(c, acks) == done {
					k.packs(t, w, string(k.form(w)))
				} else {
					k.refuses(t, w)
					checkWriterForm(t, c, w)
				}
			}
		}
		for _, acks := range wrongLists(c) {
			if w := writerWith(5, openWord("x", acks...)); !areNodes(c, acks) {
				k.refusesBoth(t, w)
			}
		}
	}
}

func TestWriterPackEpochs(t *testing.T) {
	k := writerRecord(conf(1, 0))
	for _, epoch := range append(wrongNumbers(), 0, 1, 2, 17, 29, 30, 31, 32, 33) {
		if w := writerWith(epoch, openWord("a"), doneWord("b", 0)); epoch >= 1 && epoch <= lastEpoch {
			k.packs(t, w, string(k.form(w)))
		} else {
			k.refusesBoth(t, w)
		}
	}
}

func TestReaderPackSome(t *testing.T) {
	k := readerRecord()
	for _, r := range packedReaders() {
		k.packs(t, r, string(k.form(r)))
	}
	for _, r := range badReaders() {
		k.refusesBoth(t, r)
		k.refusesBoth(t, packedReader(r.Epoch, r.Off, len(r.Out)))
	}
	for _, r := range someReaders() {
		if len(r.Out) > 0 {
			k.refusesBoth(t, r) // someEvents has kinds that are none
		}
	}
}

func TestReaderPackEdges(t *testing.T) {
	k := readerRecord()
	for _, x := range append(wrongNumbers(), 0, 1, 2, 29, 30, 31, 32, 59, 60, 61, 62) {
		for _, told := range []int{0, 1, 5} {
			k.checkPack(t, packedReader(x, 1, told))
			k.checkPack(t, packedReader(1, x, told))
			if x < 1 || x > lastEpoch+1 {
				k.refusesBoth(t, packedReader(x, 1, told))
			}
			if x < 1 || x > lastOff+1 {
				k.refusesBoth(t, packedReader(1, x, told))
			}
		}
	}
	for told := range mostOut + 4 {
		if r := packedReader(3, 3, told); told <= mostOut {
			k.packs(t, r, string(k.form(r)))
		} else {
			k.refusesBoth(t, r)
		}
	}
}

// One event is another, the first, the last and one between.
func TestReaderPackEvents(t *testing.T) {
	t.Parallel()
	k := readerRecord()
	check := func(e impl.Event, isRight bool) {
		t.Helper()
		for _, told := range []int{1, 3, mostOut} {
			for _, i := range []int{0, told / 2, told - 1} {
				r := packedReader(2, 9, told)
				r.Out[i] = e
				if isRight {
					k.packs(t, r, string(k.form(r)))
				} else {
					k.refusesBoth(t, r)
				}
			}
		}
	}
	for _, kind := range append(wrongNumbers(), 0, 1, 2, 3, 4, 5, 6, 7) {
		check(impl.Event{Kind: kind, At: at(2, 2)}, kind >= 1 && kind <= 5)
		check(impl.Event{Kind: kind}, kind >= 1 && kind <= 5)
	}
	for _, place := range slices.Concat(notPlaces(), numbersOfAllSizes(), somePlaces()) {
		check(impl.Event{Kind: 1 + place&3, At: place, Data: "x"}, place >= 0)
	}
	for kind := 1; kind <= 5; kind++ {
		for _, data := range someData() {
			check(impl.Event{Kind: kind, At: 3, Data: data}, true)
		}
		for _, data := range tooMuchData() {
			check(impl.Event{Kind: kind, At: 3, Data: data}, false)
		}
		check(impl.Event{Kind: kind, At: -1}, false)
		check(impl.Event{Kind: kind, At: 0}, true)
		check(impl.Event{Kind: kind, At: math.MaxInt}, true)
	}
	check(impl.Event{}, false)
}

// Whatever is right by one config is none by a config that is not ConfigOk.
func TestRecordBadConfig(t *testing.T) {
	good := conf(1, 0, 1)
	for _, c := range badConfigs() {
		for _, r := range someRegisters(good) {
			registerRecord(c).refusesBoth(t, r)
		}
		for _, w := range someWriters(good) {
			writerRecord(c).refusesBoth(t, w)
		}
	}
	for _, c := range unheldConfigs() {
		registerRecord(c).packs(t, impl.Register{}, "\x00\x00")
		registerRecord(c).refusesBoth(t, impl.Register{Eras: []impl.Era{openEra(nodesUpTo(len(c.Domains))...)}})
	}
}

// The same bytes, read with another config: fewer nodes, other domains, other Copies.
func TestRecordOtherConfig(t *testing.T) {
	registers := registerRecord(conf(2, 0, 0, 1, 2))
	b := registers.form(impl.Register{Eras: []impl.Era{closedEra(5, 0, 2), openEra(1, 2, 3)}, Trim: at(1, 3)})
	for _, one := range []struct {
		config  impl.Config
		isRight bool
	}{
		{conf(2, 0, 0, 1, 2), true}, {conf(1, 0, 0, 1, 2), true}, {conf(2, 0, 0, 1, 2, 7), true}, {conf(2, 3, 3, 4, 4), true}, {conf(2, 1, 2, 0, 0, 0, 0, 0, 0), true},
		{conf(2, 0, 0, 1), false}, {conf(3, 0, 0, 1, 2), false}, {conf(2, 0, 1, 0, 0), false}, {conf(2, 0, 0, 0, 0), false}, {conf(0, 0, 0, 1, 2), false}, {conf(5, 0, 0, 1, 2), false}, {conf(2, 0, 0, 1, 8), false}, {impl.Config{}, false},
	} {
		if registerRecord(one.config).checkRead(t, b) != one.isRight {
			t.Errorf("a register by %v: not %v", one.config, one.isRight)
		}
	}
	// What is Done by one config need not be so by another, and is right by both.
	words := func(first bool, second bool) impl.Writer {
		return writerWith(3, impl.Word{Data: "a", Acks: []int{0, 1}, Done: first}, impl.Word{Data: "b", Acks: []int{1, 2}, Done: second}, openWord("c"))
	}
	b = writerRecord(conf(2, 0, 0, 1)).form(words(false, true))
	for _, one := range []struct {
		config        impl.Config
		first, second bool
	}{
		{conf(2, 0, 0, 1), false, true}, {conf(2, 0, 1, 1), true, false}, {conf(2, 0, 1, 0), true, true}, {conf(2, 3, 3, 3), false, false}, {conf(1, 3, 3, 3), true, true}, {conf(3, 0, 1, 2), false, false}, {conf(2, 0, 0, 1, 5, 6), false, true},
	} {
		writerRecord(one.config).packs(t, words(one.first, one.second), string(b))
	}
	for _, c := range []impl.Config{conf(2, 0, 1), conf(1, 0), conf(0, 0, 0, 1), conf(2, 0, 0, 9), {}} {
		writerRecord(c).readsNone(t, b)
	}
	// Seven words with one node each: too many that are not done, unless one node is enough.
	seven := writerWith(1, slices.Repeat([]impl.Word{doneWord("x", 1)}, 7)...)
	writerRecord(conf(1, 0, 1)).packs(t, seven, string(joined(writerPieces(seven))))
	writerRecord(conf(2, 0, 1)).readsNone(t, joined(writerPieces(seven)))
}

// nearNumbers has what a number may be taken for.
func nearNumbers(x int) []int {
	return []int{x - 1, x + 1, x + 2, x + 127, x + 128, x + 256, x + 1<<32, 0, 1, 2, 3, 6, 7, 8, 30, 31, 60, 61, 127, 128, 200, 300, 16384, 1 << 32, at(1, 1), 1 << 62, math.MaxInt - 1, math.MaxInt}
}

func with(pieces []piece, i int, b []byte) []byte {
	return slices.Concat(joined(pieces[:i]), b, joined(pieces[i+1:]))
}

// checkSize goes over bytes that end too soon, or too late; what stands in the room behind would end the record.
func (k recordKind[T]) checkSize(t *testing.T, x T) {
	t.Helper()
	b := k.form(x)
	for size := range b {
		k.readsNone(t, b[:size])
		k.readsNone(t, bytes.Clone(b[:size]))
		k.checkRead(t, b[size+1:])
	}
	for c := range 256 {
		k.readsNone(t, append(bytes.Clone(b), byte(c)))
		k.checkRead(t, append([]byte{byte(c)}, b...))
	}
	for _, side := range fillings() {
		if len(side) > 0 {
			k.readsNone(t, slices.Concat(b, side))
		}
	}
	k.readsNone(t, slices.Concat(b, b))
}

// checkNumbers puts each number into forms that are too long, and in its place other numbers.
func (k recordKind[T]) checkNumbers(t *testing.T, x T) {
	t.Helper()
	pieces := k.pieces(x)
	whole := len(joined(pieces))
	for i, p := range pieces {
		if p.what == pieceBytes {
			continue
		}
		longer := p.form()
		for len(longer) < 13 {
			longer[len(longer)-1] += 128
			longer = append(longer, 0)
			k.readsNone(t, with(pieces, i, longer))
		}
		for _, high := range []uint64{1 << 63, 1<<63 + 1<<32, math.MaxUint64 - math.MaxInt} {
			k.readsNone(t, with(pieces, i, binary.AppendUvarint(nil, high|uint64(p.x))))
		}
		k.readsNone(t, with(pieces, i, bytes.Repeat([]byte{255}, 9)))
		k.readsNone(t, with(pieces, i, append(bytes.Repeat([]byte{128}, 40), 1)))
		for _, other := range nearNumbers(p.x) {
			if other < 0 {
				continue
			}
			b := with(pieces, i, binary.AppendUvarint(nil, uint64(other)))
			k.checkRead(t, b)
			isTooMuch := (p.what == pieceCount || p.what == pieceLength) && other > whole+9
			if isTooMuch || p.what == pieceFlag && other > 1 {
				k.readsNone(t, b)
			}
		}
	}
}

// checkPieces leaves each one out, puts it in twice, and lets two stand in each other's place.
func (k recordKind[T]) checkPieces(t *testing.T, x T) {
	t.Helper()
	pieces := k.pieces(x)
	for i := range pieces {
		k.checkRead(t, with(pieces, i, nil))
		k.checkRead(t, with(pieces, i, slices.Concat(pieces[i].form(), pieces[i].form())))
		if i > 0 {
			swapped := slices.Clone(pieces)
			swapped[i], swapped[i-1] = swapped[i-1], swapped[i]
			k.checkRead(t, joined(swapped))
		}
	}
}

func (k recordKind[T]) checkEveryByte(t *testing.T, x T) {
	t.Helper()
	b := k.form(x)
	for i := range b {
		for c := range 256 {
			changed := bytes.Clone(b)
			changed[i] = byte(c)
			k.checkRead(t, changed)
		}
		k.checkRead(t, slices.Delete(bytes.Clone(b), i, i+1))
	}
}

func (k recordKind[T]) checkMistakes(t *testing.T, list ...T) {
	t.Helper()
	k.readsNone(t, nil)
	k.readsNone(t, []byte{})
	k.readsNone(t, bytes.Repeat([]byte{255}, 1<<16))
	k.readsNone(t, bytes.Repeat([]byte{128}, 1<<16))
	k.readsNone(t, make([]byte, 1<<16))
	for _, x := range list {
		k.packs(t, x, string(k.form(x)))
		k.checkSize(t, x)
		k.checkNumbers(t, x)
		k.checkPieces(t, x)
		k.checkEveryByte(t, x)
	}
}

func smallRegisters() []impl.Register {
	return []impl.Register{
		{}, {Eras: []impl.Era{openEra(0, 2)}}, {Eras: []impl.Era{openEra(1, 3)}, Trim: at(1, 60)},
		{Eras: []impl.Era{closedEra(5, 0, 2), closedEra(0, 0, 1, 2, 3), closedEra(60, 1, 2), openEra(2, 3), openEra(0, 1, 3)}, Trim: at(2, 7)},
	}
}

func smallWriters() []impl.Writer {
	return []impl.Writer{
		{Epoch: 1}, writerWith(30, openWord("")), writerWith(2, doneWord("hi", 0, 3)),
		writerWith(7, openWord("a\x00\xff", 0, 1), doneWord("", 0, 1, 2, 3), doneWord("\x02\x00\x01", 1, 2), openWord("\x80\x80", 2), openWord(strings.Repeat("\x01", mostData))),
	}
}

func smallReaders() []impl.Reader {
	return []impl.Reader{{Epoch: 1, Off: 1}, {Epoch: 31, Off: 61, Out: []impl.Event{{Kind: evEra, At: 31}}}, packedReader(3, 4, 8)}
}

func TestConfigReadMistakes(t *testing.T) {
	configRecord().checkMistakes(t, conf(1, 0), conf(4, 7), conf(2, 1, 0, 1), conf(3, 0, 1, 2, 3, 4, 5, 6, 7))
}

func TestRegReadMistakes(t *testing.T) {
	registerRecord(fiveConfig()).checkMistakes(t, smallRegisters()...)
}

func TestWriterReadMistakes(t *testing.T) {
	writerRecord(fiveConfig()).checkMistakes(t, smallWriters()...)
}

func TestReaderReadMistakes(t *testing.T) {
	readerRecord().checkMistakes(t, smallReaders()...)
}

// A count or a length that is just above what is there, or far above it, is refused, and not gone through.
func TestRecordGreatCounts(t *testing.T) {
	t.Parallel()
	for _, count := range append(numbersOfAllSizes(), 121, 201, 1000) {
		great := string(binary.AppendUvarint(nil, uint64(count)))
		for _, left := range []int{0, 1, 2, 5, 8, 40, 200, 1000} {
			for _, side := range []string{strings.Repeat("\x00", left), strings.Repeat("\x01", left)} {
				configRecord().checkRead(t, []byte(great+side))
				for _, b := range []string{"\x00" + great + side, "\x00\x01" + great + side, "\x01\x01\x00" + great + side, "\x01\x01" + great + side, "\x01\x02\x00\x00" + great + side} {
					registerRecord(fiveConfig()).checkRead(t, []byte(b))
					writerRecord(fiveConfig()).checkRead(t, []byte(b))
					readerRecord().checkRead(t, []byte(b))
					readerRecord().checkRead(t, []byte("\x01"+b))
					readerRecord().checkRead(t, []byte("\x01\x01\x01\x01\x01"+great+side))
				}
			}
		}
	}
}

// All bytes of at most two, and longer ones of few values.
func TestRecordEveryShort(t *testing.T) {
	t.Parallel()
	c := conf(1, 0, 1)
	read := [4]int{}
	check := func(b []byte) {
		t.Helper()
		for i, isRead := range []bool{configRecord().checkRead(t, b), registerRecord(c).checkRead(t, b), writerRecord(c).checkRead(t, b), readerRecord().checkRead(t, b)} {
			if isRead {
				read[i]++
			}
		}
	}
	for x := range 1 << 16 {
		check([]byte{byte(x), byte(x >> 8)})
	}
	for _, values := range []string{"\x00\x01\x02\x03\x05\x80\x81", "\x00\x01\x02"} {
		count := 1
		for size := 0; count < 1<<18; size++ {
			for x := range count {
				var b []byte
				for range size {
					b = append(b, values[x%len(values)])
					x /= len(values)
				}
				check(b)
			}
			count *= len(values)
		}
	}
	for i, least := range []int{400, 40, 1000, 1000} {
		if read[i] < least {
			t.Errorf("only %v are read", read)
		}
	}
}

// drawnConfig is right, but for one of a few.
func drawnConfig(drawn *rand.Rand) impl.Config {
	c := conf(1 + drawn.Intn(mostCopies))
	span := 1 + drawn.Intn(mostNodes)
	for range 1 + drawn.Intn(mostNodes) {
		c.Domains = append(c.Domains, drawn.Intn(span))
	}
	switch drawn.Intn(30) {
	case 0:
		c.Copies = drawn.Intn(9) - 3
	case 1:
		c.Domains[drawn.Intn(len(c.Domains))] = drawn.Intn(20) - 6
	case 2:
		c.Domains = append(c.Domains, c.Domains...)
	}
	return c
}

// drawnNodes mostly hold, where nodes of that config can.
func drawnNodes(drawn *rand.Rand, c impl.Config) []int {
	if drawn.Intn(200) == 0 {
		return badLists()[drawn.Intn(len(badLists()))]
	}
	mask := drawn.Intn(256)
	if drawn.Intn(3) > 0 {
		mask |= drawn.Intn(256)
	}
	return nodesOf(mask & (1<<min(len(c.Domains), mostNodes) - 1))
}

func drawnRegister(drawn *rand.Rand, c impl.Config) impl.Register {
	var r impl.Register
	size := drawn.Intn(1 + drawn.Intn(lastEpoch+1))
	closed := drawn.Intn(size + 1)
	for i := range size {
		nodes := drawnNodes(drawn, c)
		for try := 0; try < 5 && !isHeld(c, nodes); try++ {
			nodes = drawnNodes(drawn, c)
		}
		e := openEra(nodes...)
		if i < closed {
			e.Closed, e.Last = true, drawn.Intn(lastOff+1)
		}
		r.Eras = append(r.Eras, e)
	}
	if size > 0 && drawn.Intn(2) == 0 {
		r.Trim = at(1+drawn.Intn(size), 1+drawn.Intn(lastOff))
	}
	switch drawn.Intn(60) {
	case 0:
		r.Trim = drawnNumber(drawn)
	case 1:
		if size > 0 {
			r.Eras[drawn.Intn(size)].Last = drawnNumber(drawn)
		}
	case 2:
		if size > 0 {
			r.Eras[drawn.Intn(size)].Closed = drawn.Intn(2) == 0
		}
	}
	return r
}

// drawnBytes are of any length up to one above the limit, and most often short.
func drawnBytes(drawn *rand.Rand) string {
	size := drawn.Intn(1 + drawn.Intn(mostData+1))
	if drawn.Intn(300) == 0 {
		size = mostData + drawn.Intn(3)
	}
	b := make([]byte, size)
	drawn.Read(b)
	return string(b)
}

func drawnPackedWriter(drawn *rand.Rand, c impl.Config) impl.Writer {
	w := impl.Writer{Epoch: 1 + drawn.Intn(lastEpoch)}
	open := 0
	for range drawn.Intn(1 + drawn.Intn(lastOff+1)) {
		word := impl.Word{Data: drawnBytes(drawn), Acks: drawnNodes(drawn, c)}
		for try := 0; try < 5 && open >= mostOpen && !isHeld(c, word.Acks); try++ {
			word.Acks = drawnNodes(drawn, c)
		}
		word.Done = isHeld(c, word.Acks)
		if !word.Done {
			open++
		}
		if open > mostOpen && drawn.Intn(20) > 0 {
			break
		}
		w.Words = append(w.Words, word)
	}
	switch drawn.Intn(60) {
	case 0:
		w.Epoch = drawnNumber(drawn)
	case 1:
		if len(w.Words) > 0 {
			i := drawn.Intn(len(w.Words))
			w.Words[i].Done = !w.Words[i].Done
		}
	}
	return w
}

func drawnPackedReader(drawn *rand.Rand) impl.Reader {
	r := impl.Reader{Epoch: 1 + drawn.Intn(lastEpoch+1), Off: 1 + drawn.Intn(lastOff+1)}
	for range drawn.Intn(1 + drawn.Intn(mostOut+1)) {
		e := impl.Event{Kind: 1 + drawn.Intn(5), At: drawn.Int() >> drawn.Intn(64), Data: drawnBytes(drawn)}
		if drawn.Intn(500) == 0 {
			e.Kind, e.At = drawn.Intn(9)-1, drawnNumber(drawn)
		}
		r.Out = append(r.Out, e)
	}
	if drawn.Intn(60) == 0 {
		r.Epoch, r.Off = drawnNumber(drawn), drawnNumber(drawn)
	}
	return r
}

// nearForm is a record's bytes with one thing in them that is another.
func nearForm(drawn *rand.Rand, pieces []piece) []byte {
	b := joined(pieces)
	i, from := drawn.Intn(len(pieces)), drawn.Intn(len(b))
	switch drawn.Intn(9) {
	case 0:
		b[from] = byte(drawn.Intn(256))
	case 1:
		b[from] = byte(drawn.Intn(4))
	case 2:
		b = slices.Delete(b, from, from+1)
	case 3:
		b = slices.Insert(b, from, byte(drawn.Intn(9)))
	case 4:
		b = b[:from]
	case 5:
		b = append(b, byte(drawn.Intn(3)))
	case 6:
		if p := pieces[i]; p.what != pieceBytes {
			near := nearNumbers(p.x)
			b = with(pieces, i, binary.AppendUvarint(nil, uint64(near[drawn.Intn(len(near))])))
		}
	case 7:
		if p := pieces[i]; p.what != pieceBytes {
			p.x = max(0, p.x+drawn.Intn(3)-1)
			b = with(pieces, i, p.form())
		}
	case 8:
		j := drawn.Intn(len(pieces))
		swapped := slices.Clone(pieces)
		swapped[i], swapped[j] = swapped[j], swapped[i]
		b = joined(swapped)
	}
	return b
}

// checkDrawn asks for promise 17 of one record and of what is nearly its bytes; it answers how many of them were right, and how many of the others were read.
func (k recordKind[T]) checkDrawn(t *testing.T, drawn *rand.Rand, x T) (int, int) {
	t.Helper()
	pieces := k.pieces(x)
	right, near := 0, 0
	if k.checkPack(t, x) {
		right++
	}
	if !isWritable(pieces) {
		return right, near
	}
	k.checkRead(t, joined(pieces))
	for range 12 {
		if k.checkRead(t, nearForm(drawn, pieces)) {
			near++
		}
	}
	return right, near
}

func TestRecordDrawn(t *testing.T) {
	t.Parallel()
	drawn := rand.New(rand.NewSource(17))
	var right, near [4]int
	for range 4000 {
		c := drawnConfig(drawn)
		counts := [4][2]int{}
		counts[0][0], counts[0][1] = configRecord().checkDrawn(t, drawn, c)
		counts[1][0], counts[1][1] = registerRecord(c).checkDrawn(t, drawn, drawnRegister(drawn, c))
		counts[2][0], counts[2][1] = writerRecord(c).checkDrawn(t, drawn, drawnPackedWriter(drawn, c))
		counts[3][0], counts[3][1] = readerRecord().checkDrawn(t, drawn, drawnPackedReader(drawn))
		for i, two := range counts {
			right[i] += two[0]
			near[i] += two[1]
		}
	}
	for i := range 4 {
		if right[i] < 1500 || right[i] > 3990 || near[i] < 1000 {
			t.Errorf("%v are right, %v that are near are read", right, near)
		}
	}
}

// Bytes that are drawn without any record; what is read of them is written as they were.
func TestRecordDrawnBytes(t *testing.T) {
	t.Parallel()
	drawn := rand.New(rand.NewSource(18))
	read := [4]int{}
	for range 200000 {
		c := fiveConfig()
		b := make([]byte, drawn.Intn(14))
		for i := range b {
			b[i] = byte(drawn.Intn(2 + drawn.Intn(6)))
			if drawn.Intn(30) == 0 {
				b[i] = byte(drawn.Intn(256))
			}
		}
		for i, isRead := range []bool{configRecord().checkRead(t, b), registerRecord(c).checkRead(t, b), writerRecord(c).checkRead(t, b), readerRecord().checkRead(t, b)} {
			if isRead {
				read[i]++
			}
		}
	}
	for _, count := range read {
		if count < 100 {
			t.Errorf("only %v are read", read)
		}
	}
}

// The parts of whole worlds are packed and read as they were.
func TestRecordWorlds(t *testing.T) {
	for _, w := range append(someWorlds(), deedWorlds()...) {
		if !isWorld(w) {
			continue
		}
		configRecord().packs(t, w.Config, string(configRecord().form(w.Config)))
		registers, writers := registerRecord(w.Config), writerRecord(w.Config)
		registers.packs(t, w.Register, string(registers.form(w.Register)))
		for _, one := range w.Writers {
			writers.packs(t, one, string(writers.form(one)))
		}
		for _, r := range w.Readers {
			readerRecord().checkPack(t, r)
		}
	}
}

// checkLeft asks that neither the record nor its bytes nor the config is written, the spare room behind them too, and that no answer shares memory with them.
func checkLeft[T any](t *testing.T, c impl.Config, kind func(impl.Config) recordKind[T], x T) {
	t.Helper()
	config, record := layDown(c), layDown(x)
	configBefore, recordBefore := config.look(), record.look()
	k := kind(config.given)
	b, ok := k.pack(record.given)
	if !config.isStill(configBefore) || !record.isStill(recordBefore) {
		t.Fatalf("%sPack(%s) wrote into what it was given", k.name, shown(x))
	}
	if shareMemory(memoryOf(b), memoryOf(append(config.wholes, record.wholes...)...)) {
		t.Fatalf("%sPack(%s) answers what it was given", k.name, shown(x))
	}
	spoil(b)
	if ok != k.right(x) || !record.isStill(recordBefore) {
		t.Fatalf("%sPack(%s): %v, or its answer is what it was given", k.name, shown(x), ok)
	}
	if !isWritable(k.pieces(x)) {
		return
	}
	given, whole := bytesWithRoom(k.form(x))
	before := bytes.Clone(whole)
	got, ok := k.read(given)
	want, wantOk := k.readIs(k.form(x))
	if !config.isStill(configBefore) || !bytes.Equal(whole, before) {
		t.Fatalf("%sRead(%.200q) wrote into what it was given", k.name, given)
	}
	if mine := memoryOf(got); shareMemory(mine, memoryOf(append(config.wholes, whole)...)) || !areApart(mine) {
		t.Fatalf("%sRead(%.200q) answers what it was given, or two lists of it share memory", k.name, given)
	}
	spoil(whole)
	config.spoil()
	if ok != wantOk || !k.same(got, want) {
		t.Fatalf("%sRead(%.200q) became %s", k.name, before, shown(got))
	}
}

// checkApart asks that two answers of the same call share no memory.
func (k recordKind[T]) checkApart(t *testing.T, x T) {
	t.Helper()
	one, _ := k.pack(x)
	two, ok := k.pack(x)
	spoil(one)
	if want := k.form(x); ok && !bytes.Equal(two, want) {
		t.Fatalf("two answers of %sPack(%s) share memory", k.name, shown(x))
	}
	if !isWritable(k.pieces(x)) {
		return
	}
	b := k.form(x)
	first, _ := k.read(b)
	second, _ := k.read(b)
	if shareMemory(memoryOf(first), memoryOf(second)) {
		t.Fatalf("two answers of %sRead(%.200q) share memory", k.name, b)
	}
	k.checkPack(t, x)
	k.checkRead(t, b)
}

func TestRecordLeaves(t *testing.T) {
	for _, c := range append(someConfigs(), badConfigs()...) {
		checkLeft(t, c, func(impl.Config) recordKind[impl.Config] { return configRecord() }, c)
		configRecord().checkApart(t, c)
	}
	for _, c := range registerConfigs() {
		for _, r := range slices.Concat(someRegisters(c), badRegisters(c), smallRegisters()) {
			checkLeft(t, c, registerRecord, r)
			registerRecord(c).checkApart(t, r)
		}
		for _, w := range slices.Concat(someWriters(c), badWriters(c), smallWriters()) {
			checkLeft(t, c, writerRecord, w)
			writerRecord(c).checkApart(t, w)
		}
	}
	for _, r := range slices.Concat(packedReaders(), badReaders(), someReaders(), smallReaders()) {
		checkLeft(t, conf(1, 0), func(impl.Config) recordKind[impl.Reader] { return readerRecord() }, r)
		readerRecord().checkApart(t, r)
	}
}

// Bytes that end too soon or are wrong in the midst are not written either.
func TestRecordLeavesBytes(t *testing.T) {
	c := fiveConfig()
	for _, b := range [][]byte{configRecord().form(c), registerRecord(c).form(smallRegisters()[3]), writerRecord(c).form(smallWriters()[3]), readerRecord().form(smallReaders()[2])} {
		for size := range b {
			given, whole := bytesWithRoom(b[:size])
			before := bytes.Clone(whole)
			one, _ := impl.ConfigRead(given)
			two, _ := impl.RegRead(c, given)
			three, _ := impl.WriterRead(c, given)
			four, _ := impl.ReaderRead(given)
			if !bytes.Equal(whole, before) || !sameConfig(c, fiveConfig()) {
				t.Fatalf("%.200q is written", given)
			}
			if shareMemory(memoryOf(one, two, three, four), memoryOf(whole, c)) {
				t.Fatalf("%.200q: an answer is what was given", given)
			}
		}
	}
}

// All lists of a record may be one memory, and the config's too.
func TestRecordOneMemory(t *testing.T) {
	numbers := []int{0, 1, 2, 3}
	c := impl.Config{Domains: numbers, Copies: 2}
	r := impl.Register{Eras: []impl.Era{{Nodes: numbers, Closed: true, Last: 3}, {Nodes: numbers[:2]}, {Nodes: numbers[1:]}}}
	w := writerWith(1, doneWord("a", numbers...), openWord("b", numbers[:1]...), doneWord("c", numbers[2:]...))
	for range 2 {
		configRecord().packs(t, c, "\x04\x00\x01\x02\x03\x02")
		registerRecord(c).packs(t, r, "\x00\x03\x04\x00\x01\x02\x03\x01\x03\x02\x00\x01\x00\x00\x03\x01\x02\x03\x00\x00")
		writerRecord(c).packs(t, w, "\x01\x03\x01a\x04\x00\x01\x02\x03\x01b\x01\x00\x01c\x02\x02\x03")
	}
	if !slices.Equal(numbers, nodesUpTo(4)) {
		t.Errorf("written: %v", numbers)
	}
}

// packAsks asks all eight of what is right, of what is not, and of bytes that are nearly right; each tells an answer as a text.
func packAsks() []func() string {
	var asks []func() string
	c := fiveConfig()
	for _, x := range append(someConfigs()[:8], badConfigs()[:8]...) {
		asks = append(asks, asksOf(configRecord(), x)...)
	}
	for _, x := range append(someRegisters(c)[:8], badRegisters(c)[:8]...) {
		asks = append(asks, asksOf(registerRecord(c), x)...)
	}
	for _, x := range append(someWriters(c)[:12], badWriters(c)[:8]...) {
		asks = append(asks, asksOf(writerRecord(c), x)...)
	}
	for _, x := range append(packedReaders()[:12], badReaders()[:8]...) {
		asks = append(asks, asksOf(readerRecord(), x)...)
	}
	return asks
}

func asksOf[T any](k recordKind[T], x T) []func() string {
	b := k.form(x)
	answer := func(what ...any) string { return fmt.Sprintf("%s %q", k.name, fmt.Sprint(what...)) }
	return []func() string{
		func() string { packed, ok := k.pack(x); return answer(packed, ok) },
		func() string { got, ok := k.read(b); return answer(got, ok) },
		func() string { got, ok := k.read(b[:len(b)/2]); return answer(got, ok) },
	}
}

// Nothing is kept from call to call: an answer is the same whatever was asked ahead of it.
func TestRecordAgain(t *testing.T) {
	asks := packAsks()
	var want []string
	for _, ask := range asks {
		want = append(want, ask())
	}
	for seed := range 10 {
		for _, i := range rand.New(rand.NewSource(int64(seed))).Perm(len(asks)) {
			if got := asks[i](); got != want[i] {
				t.Fatalf("%s; it was %s", got, want[i])
			}
		}
	}
}

// Several ask the same at once, of the same arguments.
func TestRecordAtOnce(t *testing.T) {
	asks := packAsks()
	var want []string
	for _, ask := range asks {
		want = append(want, ask())
	}
	const atOnce = 4
	wrong := [atOnce]string{}
	var group sync.WaitGroup
	for who := range atOnce {
		group.Go(func() {
			for range 10 {
				for i, ask := range asks {
					if got := ask(); got != want[i] {
						wrong[who] = got
					}
				}
			}
		})
	}
	group.Wait()
	for _, what := range wrong {
		if what != "" {
			t.Error(what)
		}
	}
}
