package mod_test

import (
	"math"
	"math/big"
	"slices"
	"testing"

	"palisade/api"
	"palisade/mod"
)

// theirs is the primes by hand, so that the tests don't ask the package for them.
var theirs = []int{3, 5, 7, 11, 13, 17}

// huge is numbers far off, those at the ends of their kinds included.
var huge = []int{math.MinInt, math.MinInt + 1, -1 << 32, -1<<31 - 1, -1 << 31, 1<<31 - 1, 1 << 31, 1 << 32, math.MaxInt - 1, math.MaxInt}

// noPrimes is numbers that are none of the primes: greater and lesser primes,
// those below 0, and such as would be one if they were cut to fewer bits.
func noPrimes() []int {
	l := slices.Clone(huge)
	for p := -40; p <= 400; p++ {
		if !slices.Contains(theirs, p) {
			l = append(l, p)
		}
	}
	for _, p := range theirs {
		l = append(l, p-1<<32, p+1<<16, p+1<<32, p+1<<62)
	}
	return l
}

// noPlaces is numbers that are no places of a prime.
func noPlaces(p int) []int {
	l := slices.Concat(huge, []int{1<<8 + 1, 1<<16 + 1, 1<<32 + 1, 1 << 62, -p - 1})
	for n := p; n < 40; n++ {
		l = append(l, n, p-1-n)
	}
	return l
}

// someSteps is numbers to walk by: two rounds on either side of 0, and huge ones.
func someSteps(p int) []int {
	l := slices.Clone(huge)
	for n := -2 * p; n <= 2*p; n++ {
		l = append(l, n)
	}
	return l
}

// placeOf reckons in numbers that never run over.
func placeOf(p int, n *big.Int) int {
	return int(new(big.Int).Mod(n, big.NewInt(int64(p))).Int64())
}

func number(n int) *big.Int { return big.NewInt(int64(n)) }

// walkBy is a walk by the document's words: k steps from its beginning, for
// each k.
func walkBy(p, from, step int) []int {
	l := make([]int, p)
	for k := range l {
		far := new(big.Int).Mul(number(k), number(step))
		l[k] = placeOf(p, far.Add(far, number(from)))
	}
	return l
}

// told holds an answer against what it should be.
func told(t *testing.T, want int) func(n int, e api.Errno) {
	return func(n int, e api.Errno) {
		t.Helper()
		if n != want || e != api.OK {
			t.Errorf("%d, error %d, want %d", n, e, want)
		}
	}
}

// refused holds an answer against an error.
func refused(t *testing.T, want api.Errno) func(n int, e api.Errno) {
	return func(n int, e api.Errno) {
		t.Helper()
		if n != 0 || e != want {
			t.Errorf("%d, error %d, want error %d", n, e, want)
		}
	}
}

// ofTwo is the calls of two places, with what their numbers come to.
var ofTwo = []struct {
	name  string
	call  func(p, a, b int) (int, api.Errno)
	whole func(a, b int) int
}{
	{"Add", mod.Add, func(a, b int) int { return a + b }},
	{"Sub", mod.Sub, func(a, b int) int { return a - b }},
	{"Mul", mod.Mul, func(a, b int) int { return a * b }},
}

// ofOne is the calls of one place.
var ofOne = []struct {
	name string
	call func(p, a int) (int, api.Errno)
}{
	{"Inverse", mod.Inverse},
	{"Half", mod.Half},
}

// P3.1: the document's examples, and others by hand.
func TestRows(t *testing.T) {
	told(t, 6)(mod.Of(7, -1))
	told(t, 0)(mod.Of(7, 14))
	told(t, 2)(mod.Of(5, 12))
	told(t, 3)(mod.Add(5, 4, 4))
	told(t, 2)(mod.Sub(3, 0, 1))
	told(t, 2)(mod.Mul(5, 3, 4))
	told(t, 5)(mod.Inverse(7, 3))
	told(t, 12)(mod.Inverse(13, 12))
	told(t, 3)(mod.Half(5, 1))
	told(t, 2)(mod.Half(5, 4))
	refused(t, api.ErrArg)(mod.Of(4, 1))
}

// P3.1: the primes rise, and each answer is memory of its own.
func TestPrimes(t *testing.T) {
	l := mod.Primes()
	if !slices.Equal(l, theirs) {
		t.Errorf("Primes() = %v", l)
	}
	for i := range l {
		l[i] = 4
	}
	_ = append(l, 4)
	if again := mod.Primes(); !slices.Equal(again, theirs) {
		t.Errorf("what is done to an answer is seen: %v", again)
	}
	if e := mod.Check(4); e != api.ErrArg {
		t.Errorf("what is done to an answer makes 4 a prime: %d", e)
	}
	if e := mod.Check(3); e != api.OK {
		t.Errorf("what is done to an answer makes 3 no prime: %d", e)
	}
}

// P3.1: the primes alone are taken, by each call.
func TestCheck(t *testing.T) {
	for _, p := range theirs {
		if e := mod.Check(p); e != api.OK {
			t.Errorf("Check(%d) = %d", p, e)
		}
	}
	for _, p := range noPrimes() {
		if e := mod.Check(p); e != api.ErrArg {
			t.Errorf("Check(%d) = %d", p, e)
		}
		refused(t, api.ErrArg)(mod.Of(p, 0))
		refused(t, api.ErrArg)(mod.Of(p, 1))
		for _, row := range ofTwo {
			refused(t, api.ErrArg)(row.call(p, 0, 0))
			refused(t, api.ErrArg)(row.call(p, 1, 1))
		}
		for _, row := range ofOne {
			refused(t, api.ErrArg)(row.call(p, 0))
			refused(t, api.ErrArg)(row.call(p, 1))
		}
		refused(t, api.ErrArg)(mod.Meet(p, 0, 1, 0))
		refused(t, api.ErrArg)(mod.Meet(p, 0, 0, 1))
	}
}

// P3.1: the place of any number, also below 0, and at the ends of int.
func TestOf(t *testing.T) {
	for _, p := range theirs {
		for n := -5 * p; n <= 5*p; n++ {
			told(t, placeOf(p, number(n)))(mod.Of(p, n))
		}
		for _, n := range huge {
			told(t, placeOf(p, number(n)))(mod.Of(p, n))
		}
		for n := range p {
			told(t, n)(mod.Of(p, n))
		}
	}
}

// P3.1: sums, differences and products of all places of all primes.
func TestOfTwo(t *testing.T) {
	for _, row := range ofTwo {
		for _, p := range theirs {
			for a := range p {
				for b := range p {
					told(t, placeOf(p, number(row.whole(a, b))))(row.call(p, a, b))
				}
			}
		}
	}
}

// P3.1: what is no place is refused, whichever of the two it is.
func TestOfTwoRefuse(t *testing.T) {
	for _, row := range ofTwo {
		for _, p := range theirs {
			for _, n := range noPlaces(p) {
				refused(t, api.ErrArg)(row.call(p, n, 1))
				refused(t, api.ErrArg)(row.call(p, 1, n))
				refused(t, api.ErrArg)(row.call(p, n, 0))
				refused(t, api.ErrArg)(row.call(p, 0, n))
				refused(t, api.ErrArg)(row.call(p, n, n))
			}
		}
	}
}

// P3.1: inverses and halves, by the document's words.
func TestInverseHalf(t *testing.T) {
	for _, p := range theirs {
		refused(t, api.ErrArg)(mod.Inverse(p, 0))
		told(t, 0)(mod.Half(p, 0))
		for a := range p {
			for x := range p {
				if a*x%p == 1 {
					told(t, x)(mod.Inverse(p, a))
				}
				if 2*x%p == a {
					told(t, x)(mod.Half(p, a))
				}
			}
		}
	}
}

// P3.1: what is no place has neither.
func TestInverseHalfRefuse(t *testing.T) {
	for _, row := range ofOne {
		for _, p := range theirs {
			for _, n := range noPlaces(p) {
				refused(t, api.ErrArg)(row.call(p, n))
			}
		}
	}
}

// P3.2: the document's example, and others by hand.
func TestWalkRows(t *testing.T) {
	rows := []struct {
		p, from, step int
		want          []int
	}{
		{3, 1, 2, []int{1, 0, 2}},
		{3, 1, -1, []int{1, 0, 2}},
		{3, 2, 0, []int{2, 2, 2}},
		{5, 0, 1, []int{0, 1, 2, 3, 4}},
		{5, 3, 2, []int{3, 0, 2, 4, 1}},
		{5, 4, 10, []int{4, 4, 4, 4, 4}},
		{7, 6, -8, []int{6, 5, 4, 3, 2, 1, 0}},
	}
	for _, r := range rows {
		if got := slices.Collect(mod.Walk(r.p, r.from, r.step)); !slices.Equal(got, r.want) {
			t.Errorf("Walk(%d, %d, %d): %v, want %v", r.p, r.from, r.step, got, r.want)
		}
	}
}

// P3.2: walks from each place, by steps of either sign and huge ones.
func TestWalk(t *testing.T) {
	for _, p := range theirs {
		for from := range p {
			for _, step := range someSteps(p) {
				got := slices.Collect(mod.Walk(p, from, step))
				if want := walkBy(p, from, step); !slices.Equal(got, want) {
					t.Errorf("Walk(%d, %d, %d): %v, want %v", p, from, step, got, want)
				}
			}
		}
	}
}

// P3.2: a walk of no prime, or from no place, is there and goes over nothing.
func TestWalkNowhere(t *testing.T) {
	nothing := func(p, from, step int) {
		t.Helper()
		walk := mod.Walk(p, from, step)
		if walk == nil {
			t.Fatalf("Walk(%d, %d, %d) is not there", p, from, step)
		}
		if got := slices.Collect(walk); len(got) != 0 {
			t.Errorf("Walk(%d, %d, %d): %v", p, from, step, got)
		}
	}
	for _, step := range []int{math.MinInt, -1, 0, 1, math.MaxInt} {
		for _, p := range noPrimes() {
			nothing(p, 0, step)
			nothing(p, 1, step)
		}
		for _, p := range theirs {
			for _, n := range noPlaces(p) {
				nothing(p, n, step)
			}
		}
	}
}

// P3.2: a walk may be left behind each place: nothing is told behind that.
func TestWalkLeft(t *testing.T) {
	for _, p := range theirs {
		walk, want := mod.Walk(p, 1, 2), walkBy(p, 1, 2)
		for stop := range p {
			var got []int
			walk(func(x int) bool {
				got = append(got, x)
				return len(got) <= stop
			})
			if !slices.Equal(got, want[:stop+1]) {
				t.Errorf("of %d, left behind %d: %v, want %v", p, stop, got, want[:stop+1])
			}
		}
	}
}

// P3.2: a walk may be gone over again, within itself, too.
func TestWalkAgain(t *testing.T) {
	for _, p := range theirs {
		walk, want := mod.Walk(p, 2, -1), walkBy(p, 2, -1)
		for range walk {
			break
		}
		rounds := 0
		for range walk {
			rounds++
			if got := slices.Collect(walk); !slices.Equal(got, want) {
				t.Errorf("of %d, within itself: %v, want %v", p, got, want)
			}
		}
		if got := slices.Collect(walk); rounds != p || !slices.Equal(got, want) {
			t.Errorf("of %d, again: %v, want %v; %d places", p, got, want, rounds)
		}
	}
}

// P3.2: the document's examples, and others by hand.
func TestMeetRows(t *testing.T) {
	told(t, 3)(mod.Meet(5, 0, 2, 1))
	refused(t, api.ErrNone)(mod.Meet(5, 0, 5, 1))
	told(t, 0)(mod.Meet(5, 1, 5, 1))
	told(t, 0)(mod.Meet(5, 1, 3, 1))
	told(t, 1)(mod.Meet(5, 1, 3, 4))
	told(t, 4)(mod.Meet(5, 0, 1, 4))
	told(t, 1)(mod.Meet(5, 0, -1, 4))
	refused(t, api.ErrNone)(mod.Meet(3, 2, 0, 0))
}

// P3.2: the first time counts, for all places and many steps.
func TestMeet(t *testing.T) {
	for _, p := range theirs {
		for a := range p {
			for _, step := range someSteps(p) {
				walk := walkBy(p, a, step)
				for b := range p {
					if k := slices.Index(walk, b); k >= 0 {
						told(t, k)(mod.Meet(p, a, step, b))
					} else {
						refused(t, api.ErrNone)(mod.Meet(p, a, step, b))
					}
				}
			}
		}
	}
}

// P3.2: what is no place is refused ahead of a walk that meets nothing; any
// step is taken.
func TestMeetRefuses(t *testing.T) {
	for _, p := range theirs {
		for _, n := range noPlaces(p) {
			for _, step := range []int{math.MinInt, -1, 0, 1, p, math.MaxInt} {
				refused(t, api.ErrArg)(mod.Meet(p, n, step, 0))
				refused(t, api.ErrArg)(mod.Meet(p, 0, step, n))
				refused(t, api.ErrArg)(mod.Meet(p, n, step, n))
			}
		}
	}
}

// P3.3: a walk by a step whose place is not 0 goes over each place once.
func TestWalkEachOnce(t *testing.T) {
	for _, p := range theirs {
		for from := range p {
			for _, step := range someSteps(p) {
				at, e := mod.Of(p, step)
				if e != api.OK {
					t.Fatalf("Of(%d, %d): error %d", p, step, e)
				}
				seen := make([]int, p)
				for x := range mod.Walk(p, from, step) {
					seen[x]++
				}
				once := !slices.ContainsFunc(seen, func(n int) bool { return n != 1 })
				if once != (at != 0) || at == 0 && seen[from] != p {
					t.Errorf("Walk(%d, %d, %d): %v times", p, from, step, seen)
				}
			}
		}
	}
}

// sure is an answer that can't be an error here.
func sure(t *testing.T) func(n int, e api.Errno) int {
	return func(n int, e api.Errno) int {
		t.Helper()
		if e != api.OK {
			t.Fatalf("error %d", e)
		}
		return n
	}
}

// P3.3: what undoes what.
func TestUndone(t *testing.T) {
	of := sure(t)
	for _, p := range theirs {
		for a := range p {
			half := of(mod.Half(p, a))
			told(t, a)(mod.Add(p, half, half))
			for b := range p {
				told(t, a)(mod.Sub(p, of(mod.Add(p, a, b)), b))
				told(t, a)(mod.Add(p, of(mod.Sub(p, a, b)), b))
				if b != 0 {
					told(t, a)(mod.Mul(p, of(mod.Mul(p, a, b)), of(mod.Inverse(p, b))))
				}
			}
			if a != 0 {
				told(t, a)(mod.Inverse(p, of(mod.Inverse(p, a))))
			}
		}
	}
}

// P3.3: Meet is b less a times the inverse of the step.
func TestMeetReckoned(t *testing.T) {
	of := sure(t)
	for _, p := range theirs {
		for _, step := range someSteps(p) {
			by := of(mod.Of(p, step))
			if by == 0 {
				continue
			}
			for a := range p {
				for b := range p {
					less := of(mod.Sub(p, b, a))
					told(t, of(mod.Mul(p, less, of(mod.Inverse(p, by)))))(mod.Meet(p, a, step, b))
				}
			}
		}
	}
}
