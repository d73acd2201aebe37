package mask_test

import (
	"math"
	"testing"

	"catenary/api"
	"catenary/mask"
)

// P7.1 to P7.4: the document's own examples.
func TestExamples(t *testing.T) {
	anything := mask.Any()
	fits(t, anything, point{3, 1, api.Header{5, 6, 7}}, true)
	dst := only(t, api.FieldDst, 255, 6)
	fits(t, dst, point{3, 1, api.Header{5, 6, 7}}, true)
	fits(t, dst, point{3, 1, api.Header{5, 7, 7}}, false)
	src := api.Mask{Port: -1, Bits: api.Header{255}, Is: api.Header{19}}
	meets(t, only(t, api.FieldSrc, 240, 16), only(t, api.FieldSrc, 15, 3), src, true)
	meets(t, api.Mask{Ver: 2, Port: -1}, api.Mask{Ver: 3, Port: -1}, api.Mask{}, false)
	covers(t, anything, only(t, api.FieldSrc, 1, 1), true)
	covers(t, only(t, api.FieldSrc, 1, 1), anything, false)
}

// P7.1: Any has the version 0, the port -1, no bits, and fits whatever there is.
func TestAny(t *testing.T) {
	if m := mask.Any(); m != (api.Mask{Port: -1}) {
		t.Errorf("%+v", m)
	}
	for _, p := range points(append(far, -1, 0, 1, 200), append(far, -1, 0, 4)) {
		fits(t, mask.Any(), p, true)
	}
}

// P7.1: a mask fits by its version, by its port and by its bits, each alone and all together.
func TestFits(t *testing.T) {
	all := points([]int{-1, 0, 1, 2, 200}, []int{-2, -1, 0, 1, 4})
	for _, m := range masks([]int{-1, 0, 1, 200}, []int{-2, -1, 0, 1, 4}) {
		for _, p := range all {
			fits(t, m, p, plainFits(m, p))
		}
	}
}

// P7.1: a version other than 0 is fitted by itself alone, by no other one, the 0 neither; so is a port other than -1, and the 0 is a port as others are.
func TestFitsOneVersionAndPort(t *testing.T) {
	for n := -300; n <= 300; n++ {
		for _, other := range []int{-300, -1, 0, 1, 4, 200, 256} {
			fits(t, api.Mask{Ver: n, Port: -1}, point{ver: other}, n == 0 || n == other)
			fits(t, api.Mask{Port: n}, point{port: other}, n == -1 || n == other)
		}
	}
	for _, n := range far {
		for _, other := range append(far, -1, 0, 1) {
			fits(t, api.Mask{Ver: n, Port: -1}, point{ver: other}, n == other)
			fits(t, api.Mask{Port: n}, point{port: other}, n == other)
		}
	}
}

// P7.1: of what bits are, only those that count do: each byte of bits, each byte of what they are, in each field.
func TestFitsBits(t *testing.T) {
	for field := range 3 {
		for bits := range 256 {
			for is := range 256 {
				m := api.Mask{Port: -1}
				m.Bits[field], m.Is[field] = uint8(bits), uint8(is)
				for _, turned := range []int{0, 1, 2, 4, 8, 16, 32, 64, 128, 255} {
					p := point{ver: 7, port: 3, h: api.Header{170, 85, 204}}
					p.h[field] = uint8(is ^ turned)
					fits(t, m, p, bits&turned == 0)
				}
			}
		}
	}
}

// P7.4: what is told of a field of Any is just that: those bits, what they are, and nothing of other fields.
func TestOnlyOfAny(t *testing.T) {
	for field := range 3 {
		for bits := range 256 {
			for is := range 256 {
				want := api.Mask{Port: -1}
				want.Bits[field], want.Is[field] = uint8(bits), uint8(bits&is)
				if m := only(t, field, uint8(bits), uint8(is)); m != want {
					t.Fatalf("field %d, bits %d, is %d: %+v", field, bits, is, m)
				}
			}
		}
	}
}

// P7.4: Only is Meet with what is told of the field, of whatever mask; none, if that says another thing.
func TestOnlyMeets(t *testing.T) {
	for _, m := range masks([]int{0, 1, 200, -1}, []int{-1, 0, 4, -2}) {
		for field := range 3 {
			for _, bits := range []uint8{0, 1, 6, 15, 240, 255} {
				for _, is := range []uint8{0, 1, 3, 6, 16, 19, 128, 255} {
					told := api.Mask{Port: -1}
					told.Bits[field], told.Is[field] = bits, is
					want, ok := plainMeet(m, told)
					if got, is := mask.Only(m, field, bits, is); got != want || is != ok {
						t.Errorf("%+v, field %d: %+v, %t; asked for %+v, %t", m, field, got, is, want, ok)
					}
				}
			}
		}
	}
}

// P7.4: a field may be told of twice, if both agree; told of no bits, a mask only loses what does not count.
func TestOnlyTwice(t *testing.T) {
	dst := only(t, api.FieldDst, 255, 6)
	if m, is := mask.Only(dst, api.FieldDst, 15, 6); m != dst || !is {
		t.Errorf("%+v, %t", m, is)
	}
	if m, is := mask.Only(dst, api.FieldDst, 1, 1); m != (api.Mask{}) || is {
		t.Errorf("%+v, %t", m, is)
	}
	loose := api.Mask{Ver: 3, Port: 2, Bits: api.Header{1, 0, 2}, Is: api.Header{3, 4, 1}}
	want := api.Mask{Ver: 3, Port: 2, Bits: api.Header{1, 0, 2}, Is: api.Header{1, 0, 0}}
	if m, is := mask.Only(loose, api.FieldTyp, 0, 255); m != want || !is {
		t.Errorf("%+v, %t", m, is)
	}
}

// P7.4: of a field that there is not nothing is told: false, and the zero mask.
func TestOnlyOfNoField(t *testing.T) {
	fields := append([]int{-1, -3, 3, 4, 255, -255, 1<<32 + 1, math.MinInt + 1}, far...)
	for _, field := range fields {
		for _, m := range []api.Mask{mask.Any(), {}, {Ver: 2, Port: 1, Bits: api.Header{255}, Is: api.Header{5}}} {
			if got, is := mask.Only(m, field, 255, 5); got != (api.Mask{}) || is {
				t.Errorf("field %d: %+v, %t", field, got, is)
			}
			if got, is := mask.Only(m, field, 0, 0); got != (api.Mask{}) || is {
				t.Errorf("field %d, no bits: %+v, %t", field, got, is)
			}
		}
	}
}
