package octet

import (
	"sync"

	"catenary/api"
)

const (
	kindSize = 1 // bytes of a frame's kind
	sumSize  = 2 // bytes of its sum
	allOnes  = 0xFFFF
	feedback = 0x1021 // what is exclusive-ored when the bit that falls out is 1
)

// steps tells what the upper four bits of a sum leave behind when all four have fallen out: with half a byte at a time 16 entries do. SumByTable alone reads it.
var (
	steps     [16]uint16
	stepsOnce sync.Once
)

// fillSteps makes the sum's table.
func fillSteps() {
	for i := range steps {
		steps[i] = doubled(uint16(i)<<12, 4)
	}
}

// doubled is a sum behind so many doublings.
func doubled(s uint16, times int) uint16 {
	for range times {
		fallen := s >> 15
		s = s<<1 ^ fallen*feedback
	}
	return s
}

// Sum is the sum of bytes.
func Sum(b []byte) int {
	s := uint16(allOnes)
	for _, x := range b {
		s = doubled(s^uint16(x)<<8, 8)
	}
	return int(s)
}

// SumByTable is what Sum is, half a byte at a time.
func SumByTable(b []byte) int {
	stepsOnce.Do(fillSteps)
	s := uint16(allOnes)
	for _, x := range b {
		s ^= uint16(x) << 8
		s = s<<4 ^ steps[s>>12]
		s = s<<4 ^ steps[s>>12]
	}
	return int(s)
}

// Seal makes a frame of a kind and a body.
func Seal(kind int, body []byte) ([]byte, api.Errno) {
	if !fits(kind, kindSize) {
		return nil, api.ErrArg
	}
	size := kindSize + len(body) + sumSize
	if size > api.MaxFrame {
		return nil, api.ErrLimit
	}
	out := digits(make([]byte, 0, size), kindSize, kind)
	out = append(out, body...)
	return digits(out, sumSize, Sum(out)), api.OK
}

// Open tells the kind and the body of a frame.
func Open(b []byte) (kind int, body []byte, e api.Errno) {
	if len(b) > api.MaxFrame {
		return 0, nil, api.ErrLimit
	}
	if len(b) < kindSize+sumSize {
		return 0, nil, api.ErrTrunc
	}
	end := len(b) - sumSize
	if number(b[end:]) != Sum(b[:end]) {
		return 0, nil, api.ErrSum
	}
	return number(b[:kindSize]), copyOf(b[kindSize:end], 0), api.OK
}
