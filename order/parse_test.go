package order_test

import (
	"bytes"
	"slices"
	"testing"

	"catenary/api"
	"catenary/octet"
	"catenary/order"
)

// whole is what bytes with b as their beginning are, if all were as long as they tell: how many bytes there are to be, or 0, if b ends ahead of what tells it.
func whole(b []byte) int {
	short := func(at int) int { return int(b[at])<<8 | int(b[at+1]) }
	if len(b) == 0 {
		return 0
	}
	switch b[0] {
	case 2, 3:
		if len(b) < 2 || b[1] != 1 {
			return 6
		}
		if len(b) < 15 {
			return 0
		}
		return 15 + 7*int(b[14])
	case 8:
		if len(b) < 3 {
			return 0
		}
		return 3 + short(1)
	case 4:
		return 2
	case 5:
		return 4
	case 6:
		return 5
	case 7:
		return 7
	case 9:
		return 3
	}
	return 1
}

// told is the order that bytes as long as they tell to be tell, whether it may be or not.
func told(b []byte) api.Order {
	short := func(b []byte) int { return int(b[0])<<8 | int(b[1]) }
	o := api.Order{Kind: int(b[0])}
	switch b[0] {
	case 2, 3:
		o.Rule = api.Rule{Kind: int(b[1]), Prio: short(b[2:]), To: int(b[4]), Port: int(b[5])}
		if b[1] == 1 {
			o.Rule.Match = api.Mask{Ver: int(b[6]), Port: int(b[7]) - 1, Bits: api.Header(b[8:11]), Is: api.Header(b[11:14])}
			for at := 15; at < len(b); at += 7 {
				set := [3]int{short(b[at+1:]) - 1, short(b[at+3:]) - 1, short(b[at+5:]) - 1}
				o.Rule.Outs = append(o.Rule.Outs, api.Out{Port: int(b[at]), Set: set})
			}
		}
	case 4:
		o.N = int(b[1])
	case 5:
		o.N, o.M = int(b[1]), short(b[2:])
	case 6:
		o.N = short(b[1:])<<16 | short(b[3:])
	case 7:
		o.N, o.M = short(b[1:])<<16|short(b[3:]), short(b[5:])
	case 8:
		kind, p, e := octet.Open(b[3:])
		if kind == api.FrameProbe && e == api.OK && len(p) == 6 {
			o.P = api.Probe{From: int(p[0]), FromPort: int(p[1]), To: int(p[2]), ToPort: int(p[3]), Nonce: short(p[4:])}
		}
	case 9:
		o.N, o.M = int(b[1]), int(b[2])
	}
	return o
}

// parses fails unless the bytes are refused as too short, or as none's, or are read as what they tell, and are just that order's.
func parses(t *testing.T, b []byte) {
	t.Helper()
	n := whole(b)
	if n == 0 || len(b) < n {
		refuses(t, b, api.ErrTrunc)
	} else if len(b) > n || !mayBe(told(b)) {
		refuses(t, b, api.ErrForm)
	} else {
		reads(t, b, told(b))
		same(t, written(t, told(b)), b)
	}
}

// P6.2: the document's own examples.
func TestParseExamples(t *testing.T) {
	refuses(t, []byte{6, 0}, api.ErrTrunc)
	refuses(t, []byte{10}, api.ErrForm)
	refuses(t, []byte{1, 0}, api.ErrForm)
}

// P6.2: orders of each kind are read.
func TestParse(t *testing.T) {
	for _, c := range samples(t) {
		reads(t, c.b, c.o)
	}
}

// P6.2: bytes that end too early, and bytes behind the end.
func TestParseOtherLengths(t *testing.T) {
	refuses(t, nil, api.ErrTrunc)
	refuses(t, []byte{}, api.ErrTrunc)
	for _, c := range samples(t) {
		for n := range c.b {
			refuses(t, c.b[:n], api.ErrTrunc)
		}
		for _, n := range []int{1, 2, 7, 255, 256, 512, 70000} {
			refuses(t, append(bytes.Clone(c.b), make([]byte, n)...), api.ErrForm)
		}
		refuses(t, append([]byte{0}, c.b...), api.ErrForm)
	}
}

// P6.2: bytes that are no order's, and end too early besides: that is told.
func TestParseWrongAndShort(t *testing.T) {
	for _, b := range [][]byte{
		{5, 9}, {5, 9, 0}, {9, 0}, {2}, {2, 0}, {2, 3}, {2, 3, 0, 0, 0}, {2, 2, 1, 1, 9}, {2, 1, 0, 0, 9, 9}, {8}, {8, 0}, {8, 0, 1}, {8, 255, 255, 2},
		{2, 1, 0, 0, 0, 0, 201, 9, 0, 0, 0, 1, 1, 1}, {2, 1, 0, 0, 0, 0, 0, 0, 0, 0, 0, 0, 0, 0, 9}, {2, 1, 0, 0, 0, 0, 0, 0, 0, 0, 0, 0, 0, 0, 255, 1, 2, 3},
	} {
		refuses(t, b, api.ErrTrunc)
		parses(t, b)
	}
}

// P6.2, P6.4: what each place may tell, and what not: just the orders that may be are read, and those have just these bytes.
func TestAllBytesOfAPlace(t *testing.T) {
	for _, c := range samples(t) {
		for place := range c.b {
			for value := range 256 {
				b := bytes.Clone(c.b)
				b[place] = byte(value)
				parses(t, b)
			}
		}
	}
}

// P6.2, P6.4: two places at once, so that a kind meets what others have.
func TestAllBytesOfTwoPlaces(t *testing.T) {
	for _, c := range samples(t) {
		for first := range c.b {
			for second := range first {
				for _, x := range []byte{0, 1, 2, 5, 255} {
					for _, y := range []byte{0, 1, 2, 3, 4, 8, 9} {
						b := bytes.Clone(c.b)
						b[first], b[second] = x, y
						parses(t, b)
					}
				}
			}
		}
	}
}

// P6.2, P6.4: all bytes up to three.
func TestAllShortBytes(t *testing.T) {
	for x := range 256 {
		parses(t, []byte{byte(x)})
		for y := range 256 {
			parses(t, []byte{byte(x), byte(y)})
			for _, z := range []byte{0, 1, 2, 200, 201, 255} {
				parses(t, []byte{byte(x), byte(y), z})
			}
		}
	}
}

// P6.2, P6.4: any number of outputs that a byte can tell, with just so many behind it.
func TestParseOutputs(t *testing.T) {
	for n := range 256 {
		b := slices.Concat([]byte{2}, dataBytes[:13], []byte{byte(n)}, bytes.Repeat([]byte{1, 0, 0, 1, 0, 0, 5}, n))
		parses(t, b)
		want := api.ErrForm
		if n <= 8 {
			want = api.OK
		}
		if _, e := order.Parse(b); e != want {
			t.Errorf("%d outputs: error %d, asked for %d", n, e, want)
		}
		refuses(t, b[:len(b)-1], api.ErrTrunc)
		refuses(t, append(b, 0), api.ErrForm)
	}
}

// P6.2: an OrdLink whose text is no probe's that was found is none, whatever is wrong with it.
func TestParseLinks(t *testing.T) {
	seal := func(kind int, body ...byte) []byte {
		b, _ := octet.Seal(kind, body)
		return b
	}
	link := func(text []byte) []byte {
		b, _ := octet.Text([]byte{8}, text)
		return b
	}
	good := seal(2, foundBody...)
	reads(t, link(good), api.Order{Kind: 8, P: found})
	bad := [][]byte{
		nil, {2}, {2, 0}, good[:8], append(bytes.Clone(good), 0), foundBody,
		make([]byte, 512), make([]byte, 513), make([]byte, 65535),
		seal(1, foundBody...), seal(3, foundBody...), seal(2), seal(2, 1, 2, 3, 4, 1), seal(2, 1, 2, 3, 4, 1, 2, 0),
		seal(2, 1, 2, 0, 0, 1, 2), // nobody found it
		seal(2, 0, 2, 3, 4, 1, 2), seal(2, 1, 5, 3, 4, 1, 2), seal(2, 1, 2, 7, 4, 1, 2), seal(2, 1, 2, 3, 0, 1, 2),
	}
	for place := range good {
		turned := bytes.Clone(good)
		turned[place] ^= 1
		bad = append(bad, turned)
	}
	for _, text := range bad {
		refuses(t, link(text), api.ErrForm)
	}
}

// P6.3: the bytes are only read, their spare room neither written, whether they are an order's or not.
func TestParseReadsAlone(t *testing.T) {
	l := [][]byte{{10}, {6, 0}, {1, 0}, {8, 0, 1, 2}}
	for _, c := range samples(t) {
		l = append(l, c.b)
	}
	for _, l := range l {
		b, room := roomy(l)
		was := bytes.Clone(room)
		o, _ := order.Parse(b)
		clear(o.Rule.Outs)
		same(t, room, was)
	}
}

// P6.3: what is read stays as it is, whatever becomes of the bytes, or of what else is read of them.
func TestWhatIsReadIsNewMemory(t *testing.T) {
	for _, c := range samples(t) {
		b := bytes.Clone(c.b)
		first, _ := order.Parse(b)
		second, _ := order.Parse(b)
		clear(first.Rule.Outs[:cap(first.Rule.Outs)])
		overwrite(b)
		if unlike(second, c.o) {
			t.Errorf("it became %+v, was %+v", second, c.o)
		}
	}
}
