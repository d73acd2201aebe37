package octet_test

import (
	"sync"
	"testing"

	"catenary/api"
	"catenary/octet"
)

// P1.1: the table is there for whoever asks first, whatever is asked for, and for those who ask behind.
func TestTableForTheFirst(t *testing.T) {
	for _, first := range [][]byte{[]byte("123456789"), nil, {0}, {255}, row(512)} {
		octet.ForgetSteps()
		for range 3 {
			if got, want := octet.SumByTable(first), plainSum(first); got != want {
				t.Errorf("of % x: %x, asked for %x", first, got, want)
			}
		}
		sums(t, []byte("123456789"), 0x29B1)
	}
}

// P1.1: the table is there also if many ask at once, none of them having asked ahead.
func TestTableAtOnce(t *testing.T) {
	for range 200 {
		octet.ForgetSteps()
		var all sync.WaitGroup
		got := make([]int, 16)
		for i := range got {
			all.Go(func() { got[i] = octet.SumByTable([]byte("123456789")) })
		}
		all.Wait()
		for _, s := range got {
			if s != 0x29B1 {
				t.Fatalf("%x", s)
			}
		}
	}
}

// P1.1: sums that many ask for at once, by the table and without it.
func TestSumsAtOnce(t *testing.T) {
	octet.ForgetSteps()
	var all sync.WaitGroup
	var plain, table [16]int
	for i := range plain {
		all.Go(func() { plain[i] = octet.Sum(row(i)) })
		all.Go(func() { table[i] = octet.SumByTable(row(i)) })
	}
	all.Wait()
	for i := range plain {
		if want := plainSum(row(i)); plain[i] != want || table[i] != want {
			t.Errorf("of %d bytes: %x, by the table %x, asked for %x", i, plain[i], table[i], want)
		}
	}
}

// P1.1, P1.2: the table stands beside: it is SumByTable's alone, and all other calls answer without it.
func TestTableStandsBeside(t *testing.T) {
	octet.SpoilSteps()
	defer octet.ForgetSteps()
	text := []byte("123456789")
	if s := octet.Sum(text); s != 0x29B1 {
		t.Errorf("%x", s)
	}
	if s := octet.SumByTable(text); s == 0x29B1 {
		t.Error("SumByTable does without the table")
	}
	f, e := octet.Seal(1, nil)
	is(t, f, e, 1, 0xF1, 0xD1)
	kind, body, e := octet.Open([]byte{1, 0xF1, 0xD1})
	is(t, body, e)
	if kind != 1 {
		t.Errorf("kind %d", kind)
	}
	b, e := octet.Put(nil, 2, 515)
	is(t, b, e, 2, 3)
	b, e = octet.Text(b, []byte("ab"))
	is(t, b, e, 2, 3, 0, 2, 'a', 'b')
	r := octet.Read(b)
	if r.Num(2) != 515 || string(r.Text()) != "ab" || r.End() != api.OK {
		t.Errorf("read something else: error %d", r.Err())
	}
}
