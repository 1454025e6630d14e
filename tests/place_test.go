package tests

import (
	"fmt"
	"math"
	"strings"
	"testing"

	"loop.example/g00178/impl"
)

// The document's numbers, written out here so that a changed constant is seen.
const (
	epochStep = 4294967296
	lastEpoch = 30
	lastOff   = 60
)

// textsOfPlaces has the text of every place, worked out without the program.
func textsOfPlaces() map[string]int {
	all := map[string]int{}
	for epoch := 1; epoch <= lastEpoch; epoch++ {
		for off := 1; off <= lastOff; off++ {
			all[fmt.Sprintf("e%d.%d", epoch, off)] = epochStep*epoch + off
		}
	}
	return all
}

func checkNoPlace(t *testing.T, x int) {
	t.Helper()
	if impl.PlaceOk(x) {
		t.Errorf("PlaceOk(%d) is true", x)
	}
	if e, o := impl.EpochOf(x), impl.OffOf(x); e != 0 || o != 0 {
		t.Errorf("epoch and offset of %d: %d, %d", x, e, o)
	}
	if s := impl.PlaceText(x); s != "" {
		t.Errorf("PlaceText(%d) = %q", x, s)
	}
}

// checkRead holds PlaceRead against the texts of all places: just those are read.
func checkRead(t *testing.T, all map[string]int, s string) {
	t.Helper()
	want, wantOk := all[s]
	if x, ok := impl.PlaceRead(s); x != want || ok != wantOk {
		short := s
		if len(short) > 60 {
			short = short[:60] + ".."
		}
		t.Errorf("PlaceRead(%q) = %d, %v; want %d, %v", short, x, ok, want, wantOk)
	}
}

func TestPlaceLimits(t *testing.T) {
	if impl.MaxEpoch != lastEpoch || impl.MaxOff != lastOff {
		t.Error("limits", impl.MaxEpoch, impl.MaxOff)
	}
}

func TestPlaceKnown(t *testing.T) {
	for _, k := range []struct {
		epoch, off, number int
		text               string
	}{
		{1, 1, 4294967297, "e1.1"},
		{1, 60, 4294967356, "e1.60"},
		{2, 5, 8589934597, "e2.5"},
		{7, 10, 30064771082, "e7.10"},
		{30, 1, 128849018881, "e30.1"},
		{30, 60, 128849018940, "e30.60"},
	} {
		if x, ok := impl.PlaceMake(k.epoch, k.off); !ok || x != k.number {
			t.Errorf("PlaceMake(%d, %d) = %d, %v", k.epoch, k.off, x, ok)
		}
		if s := impl.PlaceText(k.number); s != k.text {
			t.Errorf("PlaceText(%d) = %q", k.number, s)
		}
		if x, ok := impl.PlaceRead(k.text); !ok || x != k.number {
			t.Errorf("PlaceRead(%q) = %d, %v", k.text, x, ok)
		}
	}
}

func TestPlaceEvery(t *testing.T) {
	seen := map[string]int{}
	for epoch := 1; epoch <= lastEpoch; epoch++ {
		for off := 1; off <= lastOff; off++ {
			x, ok := impl.PlaceMake(epoch, off)
			if !ok || x != epochStep*epoch+off || !impl.PlaceOk(x) {
				t.Fatalf("place of %d, %d: %d, %v", epoch, off, x, ok)
			}
			if e, o := impl.EpochOf(x), impl.OffOf(x); e != epoch || o != off {
				t.Fatalf("parts of %d: %d, %d", x, e, o)
			}
			s := impl.PlaceText(x)
			if want := fmt.Sprintf("e%d.%d", epoch, off); s != want {
				t.Fatalf("text of %d: %q, want %q", x, s, want)
			}
			if y, ok := impl.PlaceRead(s); !ok || y != x {
				t.Fatalf("%q is read as %d, %v; want %d", s, y, ok, x)
			}
			if y, twice := seen[s]; twice {
				t.Fatalf("%q is the text of %d and of %d", s, x, y)
			}
			seen[s] = x
		}
	}
}

func TestPlaceOrder(t *testing.T) {
	type parts struct{ epoch, off int }
	var all []parts
	for epoch := 1; epoch <= lastEpoch; epoch++ {
		for _, off := range []int{1, 2, 9, 10, 31, 59, lastOff} {
			all = append(all, parts{epoch, off})
		}
	}
	for _, a := range all {
		for _, b := range all {
			x, _ := impl.PlaceMake(a.epoch, a.off)
			y, _ := impl.PlaceMake(b.epoch, b.off)
			less := a.epoch < b.epoch || a.epoch == b.epoch && a.off < b.off
			if (x < y) != less || (x == y) != (a == b) {
				t.Fatalf("order of %v and %v: %d and %d", a, b, x, y)
			}
		}
	}
	last := 0
	for epoch := 1; epoch <= lastEpoch; epoch++ {
		for off := 1; off <= lastOff; off++ {
			x, _ := impl.PlaceMake(epoch, off)
			if x <= last {
				t.Fatalf("%d, %d is not above the place ahead of it", epoch, off)
			}
			last = x
		}
	}
}

func TestPlaceMakeEdges(t *testing.T) {
	// Among them numbers whose sum or product wraps round to that of a place.
	numbers := []int{
		math.MinInt, math.MinInt + 1, -1 << 32, -epochStep + 1, -61, -60, -31, -30, -2, -1, 0,
		1, 2, 29, 30, 31, 32, 59, 60, 61, 62, 100, 255, 256, 257,
		epochStep - 1, epochStep, epochStep + 1, 2*epochStep + 1, 1<<31 - 1, 1 << 31, 1<<31 + 1,
		1<<62 + 1, math.MaxInt - 1, math.MaxInt,
	}
	for _, epoch := range numbers {
		for _, off := range numbers {
			want, wantOk := 0, false
			if epoch >= 1 && epoch <= lastEpoch && off >= 1 && off <= lastOff {
				want, wantOk = epochStep*epoch+off, true
			}
			if x, ok := impl.PlaceMake(epoch, off); x != want || ok != wantOk {
				t.Errorf("PlaceMake(%d, %d) = %d, %v; want %d, %v", epoch, off, x, ok, want, wantOk)
			}
		}
	}
}

func TestPlaceNone(t *testing.T) {
	for _, x := range []int{
		math.MinInt, math.MinInt + 1, math.MinInt + epochStep + 1, -2*epochStep - 5, -epochStep - 1,
		-epochStep, -epochStep + 1, -60, -1, 0, 1, 7, 60, 61, epochStep - 1, epochStep,
		1<<40 + 1, 1<<61 + epochStep + 1, 1<<62 + epochStep + 1,
		math.MaxInt - 1, math.MaxInt,
	} {
		checkNoPlace(t, x)
	}
	for epoch := 0; epoch <= lastEpoch+2; epoch++ {
		base := epochStep * epoch
		for _, off := range []int{0, lastOff + 1, lastOff + 2, 255, 1 << 16, 1<<31 + 1, epochStep - 1} {
			checkNoPlace(t, base+off)
		}
		if epoch < 1 || epoch > lastEpoch {
			checkNoPlace(t, base+1)
			checkNoPlace(t, base+lastOff)
		}
		for off := 1; off <= lastOff; off++ {
			checkNoPlace(t, -(base + off))
		}
	}
}

func TestPlaceReadNone(t *testing.T) {
	all := textsOfPlaces()
	for _, s := range []string{
		"", "e", ".", "e.", "e1", "e1.", "e.1", "1.1", ".1", "e11", "e1.1e", "e1.e1",
		"e0.1", "e1.0", "e0.0", "e31.1", "e1.61", "e30.61", "e31.60", "e100.1", "e1.100",
		"e01.1", "e1.01", "e001.1", "e1.00", "e00.1", "e030.1", "e1.060", "e1.000000000000000000000001",
		"e+1.1", "e1.+1", "e-1.1", "e1.-1", "+e1.1", "-e1.1", "e--1.1", "e1.-0", "e+0.1",
		" e1.1", "e 1.1", "e1 .1", "e1. 1", "e1.1 ", "e1.1\n", "e1.1\r\n", "e1.1\t", "\te1.1", "e1.1\x00", "\x00e1.1",
		"E1.1", "x1.1", "ee1.1", "e1..1", "e1.1.", "e1.1.1", "e.1.1", "e1,1", "e1:1", "e1.1x", "e1.1.e1.1",
		"e0x1.1", "e1.0x1", "e1_0.1", "e1.1_0", "e1e0.1", "e1.1e0", "e1.a", "ea.1", "e/.1", "e:.1",
		"e4294967297.1", "e1.4294967297", "e1.18446744073709551617", "e18446744073709551617.1",
		"e9223372036854775807.1", "e9223372036854775808.1", "e1.-9223372036854775808", "e257.1", "e1.257",
		"e\u0661.1", "e1.\uff11", "\uff451.1", "e1\u30021", "e\xff.1", "e1.\xff", "\xff",
	} {
		if _, place := all[s]; place {
			t.Fatalf("%q is a place's", s)
		}
		checkRead(t, all, s)
	}
}

func TestPlaceReadLong(t *testing.T) {
	all := textsOfPlaces()
	for _, n := range []int{3, 10, 18, 19, 20, 21, 39, 1000, 200000} {
		for _, digit := range []string{"0", "1", "9"} {
			long := strings.Repeat(digit, n)
			for _, s := range []string{
				long, "e" + long, "e" + long + ".1", "e1." + long, "e" + long + "." + long,
				"e" + long + "1.1", "e1." + long + "1", "e1.1" + long, "e-" + long + ".1",
			} {
				checkRead(t, all, s)
			}
		}
		for _, other := range []string{"e", ".", " ", "e1.1", "-", "\x00", "\n"} {
			long := strings.Repeat(other, n)
			for _, s := range []string{long, "e1.1" + long, long + "e1.1", "e1" + long + ".1", "e1." + long + "1"} {
				checkRead(t, all, s)
			}
		}
	}
}

// A text with one byte changed, put in or left out is read only if it is a place's again.
func TestPlaceReadNear(t *testing.T) {
	all := textsOfPlaces()
	for _, s := range []string{"e1.1", "e2.5", "e9.9", "e10.10", "e29.59", "e30.60", "e30.1", "e3.60"} {
		for i := 0; i <= len(s); i++ {
			if i < len(s) {
				checkRead(t, all, s[:i]+s[i+1:])
			}
			for b := 0; b < 256; b++ {
				checkRead(t, all, s[:i]+string([]byte{byte(b)})+s[i:])
				if i < len(s) {
					checkRead(t, all, s[:i]+string([]byte{byte(b)})+s[i+1:])
				}
			}
		}
	}
}

// All texts of two numbers around the limits, with and without noughts ahead.
func TestPlaceReadNumbers(t *testing.T) {
	all := textsOfPlaces()
	read := 0
	for epoch := -2; epoch <= 110; epoch++ {
		for off := -2; off <= 110; off++ {
			for _, form := range []string{"e%d.%d", "e%02d.%d", "e%d.%02d", "e%+d.%d", "e%d.%+d", "e%3d.%d", "e%d.%-3d"} {
				s := fmt.Sprintf(form, epoch, off)
				checkRead(t, all, s)
				if _, ok := impl.PlaceRead(s); ok {
					read++
				}
			}
		}
	}
	// %d takes all places; %02d those of two digits in that part.
	if want := 30*60 + 21*60 + 30*51; read != want {
		t.Errorf("%d texts are read, want %d", read, want)
	}
}

// What is kept from call to call is nothing: an answer is the same whatever was asked ahead of it.
func TestPlaceAgain(t *testing.T) {
	for range 3 {
		if x, ok := impl.PlaceMake(31, 1); x != 0 || ok {
			t.Error("make", x, ok)
		}
		if x, ok := impl.PlaceRead("e4.7"); x != 4*epochStep+7 || !ok {
			t.Error("read", x, ok)
		}
		if x, ok := impl.PlaceRead("e4.7 "); x != 0 || ok {
			t.Error("read none", x, ok)
		}
		if impl.EpochOf(-1) != 0 || impl.OffOf(4*epochStep+7) != 7 || impl.PlaceText(4*epochStep+7) != "e4.7" {
			t.Error("parts")
		}
	}
}
