package impl

import (
	"strconv"
	"strings"
)

const (
	MaxEpoch = 30
	MaxOff   = 60
)

// epochStep lies far above MaxOff, so that the order of the numbers is the order of the places.
const epochStep = 4294967296

// logPlace is a place taken apart; its zero value stands for what is no place.
type logPlace struct {
	epoch int
	off   int
}

// checked is asked ahead of number, which would wrap round at parts beyond the limits.
func (p logPlace) checked() logPlace {
	if p.epoch < 1 || p.epoch > MaxEpoch || p.off < 1 || p.off > MaxOff {
		return logPlace{}
	}
	return p
}

func (p logPlace) isPlace() bool {
	return p != logPlace{}
}

func (p logPlace) number() int {
	return p.epoch*epochStep + p.off
}

func (p logPlace) text() string {
	if !p.isPlace() {
		return ""
	}
	return "e" + strconv.Itoa(p.epoch) + "." + strconv.Itoa(p.off)
}

// splitPlace takes numbers below 0 too: neither part of one is above 0.
func splitPlace(x int) logPlace {
	return logPlace{epoch: x / epochStep, off: x % epochStep}.checked()
}

// parsePlace reads freely and then asks for the very text, since a place has only one.
func parsePlace(s string) logPlace {
	epochText, offText, _ := strings.Cut(strings.TrimPrefix(s, "e"), ".")
	epoch, epochErr := strconv.Atoi(epochText)
	off, offErr := strconv.Atoi(offText)
	if epochErr != nil || offErr != nil {
		return logPlace{}
	}
	p := logPlace{epoch: epoch, off: off}.checked()
	if p.text() != s {
		return logPlace{}
	}
	return p
}

func PlaceMake(epoch int, off int) (int, bool) {
	p := logPlace{epoch: epoch, off: off}.checked()
	return p.number(), p.isPlace()
}

func PlaceOk(x int) bool {
	return splitPlace(x).isPlace()
}

func EpochOf(x int) int {
	return splitPlace(x).epoch
}

func OffOf(x int) int {
	return splitPlace(x).off
}

func PlaceText(x int) string {
	return splitPlace(x).text()
}

func PlaceRead(s string) (int, bool) {
	p := parsePlace(s)
	return p.number(), p.isPlace()
}
