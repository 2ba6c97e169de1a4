package mod

import (
	"iter"
	"slices"

	"palisade/api"
)

// asked tells a prime, if it is one, and if all the numbers are places of it.
// Beside an error it is 0, and has no place.
func asked(p int, numbers ...int) (prime, api.Errno) {
	if _, ok := first(p, slices.Values(Primes())); !ok {
		goto refused
	}
	for _, n := range numbers {
		if !prime(p).has(n) {
			goto refused
		}
	}
	return prime(p), api.OK
refused:
	return 0, api.ErrArg
}

// first tells how many are gone over ahead of the first one that is as sought.
func first[T comparable](sought T, all iter.Seq[T]) (ahead int, ok bool) {
	for x := range all {
		if x == sought {
			return ahead, true
		}
		ahead++
	}
	return 0, false
}

// reckoned tells what comes of two places of a prime.
func reckoned(by func(place, place) int, p, a, b int) (int, api.Errno) {
	q, e := asked(p, a, b)
	if e != api.OK {
		return 0, e
	}
	return int(q.sum(a).with(by, place(b)).at), api.OK
}

// lookedFor tells the place that is such, of all those of a prime of which a is
// one, too. There are 17 at most: to try them is as short as to reckon it.
func lookedFor(such func(sum) bool, p, a int) (int, api.Errno) {
	q, e := asked(p, a)
	if e != api.OK {
		goto refused
	}
	for n := range int(q) {
		if such(q.sum(n)) {
			return n, api.OK
		}
	}
refused:
	return 0, api.ErrArg
}
