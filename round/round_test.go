package round_test

import (
	"testing"

	"ephemerist/api"
	"ephemerist/round"
	"ephemerist/trial"
)

// P4.1
func TestTo(t *testing.T) {
	const value, unit = 1 << 40, 1 << 20
	for i, x := range []struct {
		value, unit int
		// down, up, near and even
		want []int
	}{
		{25, 10, list(2, 3, 3, 2)}, {35, 10, list(3, 4, 4, 4)}, {-25, 10, list(-3, -2, -2, -2)}, {-35, 10, list(-4, -3, -3, -4)}, {-21, 10, list(-3, -2, -2, -2)}, {5, 10, list(0, 1, 1, 0)}, {-5, 10, list(-1, 0, 0, 0)}, {15, 10, list(1, 2, 2, 2)}, {-15, 10, list(-2, -1, -1, -2)},
		// a whole number of units, and next to it
		{20, 10, list(2, 2, 2, 2)}, {-20, 10, list(-2, -2, -2, -2)}, {0, 10, list(0, 0, 0, 0)}, {19, 10, list(1, 2, 2, 2)}, {21, 10, list(2, 3, 2, 2)}, {-19, 10, list(-2, -1, -2, -2)}, {1, 10, list(0, 1, 0, 0)}, {-1, 10, list(-1, 0, 0, 0)},
		// next to half a unit
		{24, 10, list(2, 3, 2, 2)}, {26, 10, list(2, 3, 3, 3)}, {-24, 10, list(-3, -2, -2, -2)}, {-26, 10, list(-3, -2, -3, -3)}, {4, 9, list(0, 1, 0, 0)}, {5, 9, list(0, 1, 1, 1)}, {-4, 9, list(-1, 0, 0, 0)}, {-5, 9, list(-1, 0, -1, -1)}, {13, 9, list(1, 2, 1, 1)}, {14, 9, list(1, 2, 2, 2)},
		// units of 1 and 2
		{7, 1, list(7, 7, 7, 7)}, {-7, 1, list(-7, -7, -7, -7)}, {7, 2, list(3, 4, 4, 4)}, {5, 2, list(2, 3, 3, 2)}, {-7, 2, list(-4, -3, -3, -4)}, {-5, 2, list(-3, -2, -2, -2)}, {1, 2, list(0, 1, 1, 0)}, {-1, 2, list(-1, 0, 0, 0)},
		// as far as can be
		{value, 1, list(value, value, value, value)}, {-value, 1, list(-value, -value, -value, -value)}, {value, unit, list(unit, unit, unit, unit)}, {-value, unit, list(-unit, -unit, -unit, -unit)}, {value - 1, unit, list(unit-1, unit, unit, unit)}, {1 - value, unit, list(-unit, 1-unit, -unit, -unit)},
		{value - unit/2, unit, list(unit-1, unit, unit, unit)}, {unit/2 - value, unit, list(-unit, 1-unit, 1-unit, -unit)}, {unit / 2, unit, list(0, 1, 1, 0)}, {-unit / 2, unit, list(-1, 0, 0, 0)}, {1, unit, list(0, 1, 0, 0)}, {-1, unit, list(-1, 0, 0, 0)},
	} {
		for k, rule := range trial.List(down, up, near, even) {
			if got, e := round.To(x.value, x.unit, rule); e != api.OK || got != x.want[k] {
				t.Error(i, k, got, e)
			}
		}
	}
}

// P4.1
func TestToErrors(t *testing.T) {
	const value, unit = 1 << 40, 1 << 20
	for i, x := range []struct {
		value, unit int
		rule        api.RoundRule
	}{
		{value + 1, 1, down}, {-value - 1, 1, up}, {most, unit, near}, {least, unit, even},
		{7, 0, down}, {7, -1, up}, {7, unit + 1, near}, {7, most, even}, {7, least, down}, {0, 0, near}, {0, -10, near},
		{7, 1, 0}, {7, 1, -1}, {7, 1, 5}, {7, 1, most}, {7, 1, least}, {value + 1, 0, 0},
	} {
		if got, e := round.To(x.value, x.unit, x.rule); got != 0 || e != api.ErrArg {
			t.Error(i, got, e)
		}
	}
}

// P4.1: each value is rounded to the one number of units that fits, and a greater one never to less.
func TestToFits(t *testing.T) {
	for _, rule := range trial.List(down, up, near, even) {
		for unit := 1; unit <= 40; unit++ {
			before := least
			for value := -4*unit - 1; value <= 4*unit+1; value++ {
				got, e := round.To(value, unit, rule)
				if e != api.OK || got != trial.Units(value, unit, rule) || got < before {
					t.Fatal(value, unit, rule, got, e, before)
				}
				before = got
			}
		}
	}
}

// P4.1: also where values and units are great. Rounded down, a value is less than a unit away, and not greater.
func TestToGreat(t *testing.T) {
	d := &dice{}
	for range 20000 {
		unit := d.From(1, api.RoundUnit)
		value := d.From(-api.RoundUnit, api.RoundUnit) * d.From(0, api.RoundUnit)
		if d.From(0, 2) == 0 {
			value = min(max((2*(value/unit)+1)*unit/2, -api.RoundValue), api.RoundValue)
		}
		for _, rule := range trial.List(down, up, near, even) {
			got, e := round.To(value, unit, rule)
			if e != api.OK || got != trial.Units(value, unit, rule) {
				t.Fatal(value, unit, rule, got, e)
			}
			if rest := value - got*unit; rule == down && (rest < 0 || rest >= unit) {
				t.Fatal(value, unit, got)
			}
			if next, e := round.To(min(value+d.From(0, 3), api.RoundValue), unit, rule); e != api.OK || next < got {
				t.Fatal(value, unit, rule, got, next, e)
			}
		}
	}
}
