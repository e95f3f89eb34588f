package trial

import "ephemerist/api"

// Distance returns how far two numbers are from each other.
func Distance(a, b int) int { return max(a-b, b-a) }

// Units returns a value, rounded: numbers of units are gone through until one
// fits the rule.
func Units(value, unit int, rule api.RoundRule) int {
	units := value/unit - 2
	for !fits(units, value, unit, rule) {
		units++
	}
	return units
}

// fits tells whether so many units are a value, rounded.
func fits(units, value, unit int, rule api.RoundRule) bool {
	far := Distance(units*unit, value)
	switch rule {
	case api.RoundDown:
		return far < unit && units*unit <= value
	case api.RoundUp:
		return far < unit && units*unit >= value
	case api.RoundNear:
		return 2*far < unit || 2*far == unit && units*unit > value
	}
	return 2*far < unit || 2*far == unit && units&1 == 0
}
