package octet_test

import (
	"bytes"
	"testing"

	"catenary/api"
)

// spareByte fills the spare room of what is handed in: whoever writes there is seen.
const spareByte = 0xEE

// roomy is the bytes with spare room behind them.
func roomy(l ...byte) []byte {
	b := append(make([]byte, 0, len(l)+600), l...)
	spare := b[len(b):cap(b)]
	for i := range spare {
		spare[i] = spareByte
	}
	return b
}

// untouched fails unless b, made by roomy, is l still, with its spare room as it was.
func untouched(t *testing.T, b []byte, l ...byte) {
	t.Helper()
	if !bytes.Equal(b, l) {
		t.Errorf("what was handed in became % x, was % x", b, l)
	}
	for i, x := range b[len(b):cap(b)] {
		if x != spareByte {
			t.Fatalf("byte %d of the spare room was written", i)
		}
	}
}

// is fails unless the bytes were answered, without an error.
func is(t *testing.T, got []byte, e api.Errno, want ...byte) {
	t.Helper()
	if e != api.OK || !bytes.Equal(got, want) {
		t.Errorf("answered % x, error %d; asked for % x", got, e, want)
	}
}

// refused fails unless that error was answered, and nothing beside it.
func refused(t *testing.T, got []byte, e, want api.Errno) {
	t.Helper()
	if e != want || len(got) != 0 {
		t.Errorf("answered % x, error %d; asked for error %d", got, e, want)
	}
}

// row is n bytes, none like its neighbours.
func row(n int) []byte {
	b := make([]byte, n)
	for i := range b {
		b[i] = byte(i*37 + i>>8)
	}
	return b
}

// plainSum is the sum as the document says it, bit by bit.
func plainSum(b []byte) int {
	s := 0xFFFF
	for _, x := range b {
		s ^= int(x) << 8
		for range 8 {
			fallen := s & 0x8000
			s = s << 1 & 0xFFFF
			if fallen != 0 {
				s ^= 0x1021
			}
		}
	}
	return s
}
