package probe_test

import (
	"testing"

	"catenary/api"
	"catenary/probe"
)

// P4.3, P4.6: a probe that was found there tells where it came from as it did, and is not found anew.
func TestFound(t *testing.T) {
	for _, p := range unfound() {
		for to := 1; to <= 6; to++ {
			for port := 1; port <= 4; port++ {
				found, e := probe.Found(p, to, port)
				want := api.Probe{From: p.From, FromPort: p.FromPort, To: to, ToPort: port, Nonce: p.Nonce}
				if e != api.OK || found != want {
					t.Fatalf("%+v, found at %d, %d: %+v, error %d", p, to, port, found, e)
				}
				reads(t, written(t, found), want)
				notFound(t, found, to, port, api.ErrState)
				notFound(t, found, 1, 1, api.ErrState)
			}
		}
	}
}

// P4.3: a probe may be found where it came from: nothing says that it may not.
func TestFoundAtHome(t *testing.T) {
	found, e := probe.Found(api.Probe{From: 2, FromPort: 3, Nonce: 7}, 2, 3)
	if e != api.OK || found != (api.Probe{From: 2, FromPort: 3, To: 2, ToPort: 3, Nonce: 7}) {
		t.Errorf("%+v, error %d", found, e)
	}
}

// P4.3: nobody finds it outside of what there is, at 0 and 0 neither.
func TestFoundNowhere(t *testing.T) {
	p := api.Probe{From: 1, FromPort: 2, Nonce: 258}
	switches := append([]int{0, 7, 8, 255, 256, 257, 262}, outside...)
	ports := append([]int{0, 5, 6, 255, 256, 257, 260}, outside...)
	for _, to := range switches {
		for port := 1; port <= 4; port++ {
			notFound(t, p, to, port, api.ErrArg)
		}
		for _, port := range ports {
			notFound(t, p, to, port, api.ErrArg)
		}
	}
	for _, port := range ports {
		for to := 1; to <= 6; to++ {
			notFound(t, p, to, port, api.ErrArg)
		}
	}
}

// P4.3: what may not be has Check's error, that ahead of all; what is found already ErrState, that ahead of where it is to be found.
func TestFoundWrong(t *testing.T) {
	for _, p := range wrong() {
		notFound(t, p, 3, 4, api.ErrArg)
		notFound(t, p, 0, 0, api.ErrArg)
	}
	for _, to := range []int{-1, 0, 1, 6, 7} {
		for _, port := range []int{-1, 0, 1, 4, 5} {
			notFound(t, example, to, port, api.ErrState)
		}
	}
}

// P4.4: the probe that is handed in stays as it was.
func TestFoundReadsAlone(t *testing.T) {
	p := api.Probe{From: 1, FromPort: 2, Nonce: 258}
	probe.Found(p, 3, 4)
	probe.Check(p)
	probe.Bytes(p)
	if p != (api.Probe{From: 1, FromPort: 2, Nonce: 258}) {
		t.Errorf("it became %+v", p)
	}
}
