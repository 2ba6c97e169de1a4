package mod

import "iter"

// primes is an array, so that who takes it takes a copy.
var primes = [...]int{3, 5, 7, 11, 13, 17}

// prime is one of the primes: numbers become one by asked alone.
type prime int

func (p prime) has(n int) bool { return 0 <= n && n < int(p) }

// of is the place of any number. What is left of one below 0 is below 0, too.
func (p prime) of(n int) place {
	n %= int(p)
	if n < 0 {
		n += int(p)
	}
	return place(n)
}

// sum begins at a place of the prime.
func (p prime) sum(at int) sum { return sum{p, place(at)} }

// place is a number of some prime. It doesn't know of which one: what is
// reckoned of two is a whole number, and the prime tells the place of that.
type place int

func (x place) plus(y place) int  { return int(x) + int(y) }
func (x place) less(y place) int  { return int(x) - int(y) }
func (x place) times(y place) int { return int(x) * int(y) }

// sum is a sum under way: a prime, and the place it has come to.
type sum struct {
	prime
	at place
}

func (s sum) is(x place) bool { return s.at == x }

// with is the sum once another place is reckoned to it, in one of the ways of
// places.
func (s sum) with(reckon func(place, place) int, x place) sum {
	s.at = s.of(reckon(s.at, x))
	return s
}

// walk goes over as many places as the prime has. The step is made a place
// ahead of the first sum: a huge one would run over.
func (s sum) walk(step int) iter.Seq[int] {
	by := s.of(step)
	return func(yield func(int) bool) {
		on := s // of its own each time, so that the walk may be gone over again
	walking:
		for range on.prime {
			if !yield(int(on.at)) {
				break walking
			}
			on = on.with(place.plus, by)
		}
	}
}
