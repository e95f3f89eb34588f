package pay_test

import (
	"testing"

	"ephemerist/api"
	"ephemerist/pay"
)

// after returns the amount of money that is a farthing more.
func after(m api.PayMoney) api.PayMoney {
	switch {
	case m.Farthings < 3:
		return money(m.Pounds, m.Shillings, m.Pence, m.Farthings+1)
	case m.Pence < 11:
		return money(m.Pounds, m.Shillings, m.Pence+1, 0)
	case m.Shillings < 19:
		return money(m.Pounds, m.Shillings+1, 0, 0)
	}
	return money(m.Pounds+1, 0, 0, 0)
}

// P8.1: of all amounts of money, each is what it is counted as.
func TestAllMoney(t *testing.T) {
	m := api.PayMoney{}
	for n := range mostFarthings + 1 {
		counted, e := pay.Farthings(m)
		made, f := pay.Money(n)
		if e != api.OK || f != api.OK || counted != n || made != m {
			t.Fatal(n, m, counted, made, e, f)
		}
		m = after(m)
	}
	if m != money(1000, 0, 0, 0) {
		t.Error(m)
	}
}

// P8.1
func TestMoney(t *testing.T) {
	for n, m := range map[int]api.PayMoney{1069: money(1, 2, 3, 1), 0: {}, 47: money(0, 0, 11, 3), 48: money(0, 1, 0, 0), 959: money(0, 19, 11, 3), 960: money(1, 0, 0, 0), 959040: money(999, 0, 0, 0), 959999: money(999, 19, 11, 3)} {
		if got, e := pay.Farthings(m); e != api.OK || got != n {
			t.Error(m, got, e)
		}
		if got, e := pay.Money(n); e != api.OK || got != m {
			t.Error(n, got, e)
		}
	}
}

// P8.1
func TestBadMoney(t *testing.T) {
	for _, m := range badMoney() {
		if got, e := pay.Farthings(m); e != api.ErrArg || got != 0 {
			t.Error(m, got, e)
		}
	}
	for _, n := range list(-1, -960, mostFarthings+1, most, least) {
		if got, e := pay.Money(n); e != api.ErrArg || got != (api.PayMoney{}) {
			t.Error(n, got, e)
		}
	}
}
