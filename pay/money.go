package pay

import (
	"ephemerist/api"
	"ephemerist/reckon"
)

// Farthings returns how many farthings an amount of money is.
func Farthings(m api.PayMoney) (int, api.Errno) {
	if !isMoney(m) {
		return 0, api.ErrArg
	}
	return farthingsOf(m), api.OK
}

// Money returns the amount of money that is so many farthings.
func Money(farthings int) (api.PayMoney, api.Errno) {
	if !isSum(farthings) {
		return api.PayMoney{}, api.ErrArg
	}
	var n [parts]int
	left := farthings
	for part, one := range worth {
		n[part] = left / one
		left %= one
	}
	return moneyOf(n), api.OK
}

// The parts of money, from the greatest one to the least one.
const (
	pounds = iota
	shillings
	pence
	farthings
	parts
)

// worth is how many farthings one of each part is.
var worth = [...]int{960, 48, 4, 1}

// highest is how many there are of each part at most.
var highest = [...]int{api.PayPounds, 19, 11, 3}

// partsOf returns how many there are of each part.
func partsOf(m api.PayMoney) [parts]int {
	return [...]int{m.Pounds, m.Shillings, m.Pence, m.Farthings}
}

// moneyOf returns the money of so many of each part.
func moneyOf(n [parts]int) api.PayMoney {
	return api.PayMoney{Pounds: n[pounds], Shillings: n[shillings], Pence: n[pence], Farthings: n[farthings]}
}

func farthingsOf(m api.PayMoney) int {
	total := 0
	for part, n := range partsOf(m) {
		total += n * worth[part]
	}
	return total
}

func isMoney(m api.PayMoney) bool {
	for part, n := range partsOf(m) {
		if !reckon.Within(n, 0, highest[part]) {
			return false
		}
	}
	return true
}

// isSum tells whether so many farthings are an amount of money.
func isSum(n int) bool { return reckon.Within(n, 0, farthingsOf(moneyOf(highest))) }
