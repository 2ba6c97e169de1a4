package pair_test

import (
	"math"
	"slices"
	"testing"

	"palisade/api"
	"palisade/pair"
)

// theirs is the primes by hand, so that the tests don't ask the layers below
// for them, as what is made is reckoned here by the document's words alone.
var theirs = []int{3, 5, 7, 11, 13, 17}

// noPrimes is numbers that are no prime of a code: those near, those far off,
// and such as would be one if they were cut to fewer bits.
var noPrimes = []int{
	math.MinInt, math.MinInt + 3, -1<<32 + 3, -1 << 31, -17, -5, -3, -2, -1,
	0, 1, 2, 4, 6, 8, 9, 10, 12, 14, 15, 16, 18, 19, 23, 29, 31, 37,
	1<<8 + 3, 1<<16 + 5, 1<<31 - 1, 1<<32 + 3, 1<<32 + 17, math.MaxInt - 1, math.MaxInt,
}

// noCells is numbers that are no column of cells of a prime: that of diagonals
// among them.
func noCells(p int) []int {
	return []int{
		math.MinInt, -1 << 32, -1<<32 + 1, -p, -2, -1, p, p + 1, p + 2, 2*p + 1,
		1 << 8, 1 << 16, 1 << 32, 1<<32 + 1, math.MaxInt,
	}
}

// pairs is all pairs of columns of cells, the first ahead of the second.
func pairs(p int) [][2]int {
	var l [][2]int
	for b := range p {
		for a := range b {
			l = append(l, [2]int{a, b})
		}
	}
	return l
}

// noTwo is pairs that are not two columns of cells, in whichever order.
func noTwo(p int) [][2]int {
	var l [][2]int
	for a := range p {
		l = append(l, [2]int{a, a})
		for _, no := range noCells(p) {
			l = append(l, [2]int{a, no}, [2]int{no, a})
		}
	}
	for _, a := range noCells(p) {
		for _, b := range noCells(p) {
			l = append(l, [2]int{a, b})
		}
	}
	return l
}

// noPairs is pairs that are not two columns of cells, one ahead of the other.
func noPairs(p int) [][2]int {
	l := noTwo(p)
	for _, two := range pairs(p) {
		l = append(l, [2]int{two[1], two[0]})
	}
	return l
}

func diagonal(p int, at api.At) int { return (at.Col + at.Row) % p }

// onDiagonal is the cell of a column whose diagonal it is; its row is P - 1, if
// the column has no such cell.
func onDiagonal(p, col, diag int) api.At {
	at := api.At{Col: col}
	for diagonal(p, at) != diag {
		at.Row++
	}
	return at
}

// arm is that of two columns of cells by the document's words.
func arm(p, x, y int) []api.At {
	var l []api.At
	d := diagonal(p, api.At{Col: x, Row: p - 1})
	for d != p-1 && onDiagonal(p, y, d).Row != p-1 {
		ofY := onDiagonal(p, y, d)
		ofX := api.At{Col: x, Row: ofY.Row}
		l = append(l, ofY, ofX)
		d = diagonal(p, ofX)
	}
	return l
}

// order is that of both arms by the document's words.
func order(p, a, b int) []api.At {
	var l []api.At
	first, second := arm(p, a, b), arm(p, b, a)
	for len(first)+len(second) > 0 {
		if len(first) > 0 {
			l, first = append(l, first[0], first[1]), first[2:]
		}
		if len(second) > 0 {
			l, second = append(l, second[0], second[1]), second[2:]
		}
	}
	return l
}

// places is written as columns and rows by turns.
func places(l ...int) []api.At {
	var all []api.At
	for n := 0; n < len(l); n += 2 {
		all = append(all, api.At{Col: l[n], Row: l[n+1]})
	}
	return all
}

func isArm(t *testing.T, p, x, y int, want []api.At) {
	t.Helper()
	if got := slices.Collect(pair.Arm(p, x, y)); !slices.Equal(got, want) {
		t.Errorf("Arm(%d, %d, %d): %v, want %v", p, x, y, got, want)
	}
}

func isOrder(t *testing.T, p, a, b int, want []api.At) {
	t.Helper()
	if got, e := pair.Order(p, a, b); !slices.Equal(got, want) || e != api.OK {
		t.Errorf("Order(%d, %d, %d) = %v, error %d, want %v", p, a, b, got, e, want)
	}
}

func noArm(t *testing.T, p, x, y int) {
	t.Helper()
	a := pair.Arm(p, x, y)
	if a == nil {
		t.Fatalf("Arm(%d, %d, %d) is not there", p, x, y)
	}
	for at := range a {
		t.Errorf("Arm(%d, %d, %d) tells %v", p, x, y, at)
	}
}

func noOrder(t *testing.T, p, a, b int, want api.Errno) {
	t.Helper()
	if got, e := pair.Order(p, a, b); got != nil || e != want {
		t.Errorf("Order(%d, %d, %d) = %v, error %d, want error %d", p, a, b, got, e, want)
	}
}

// P12.1: the document's examples, and others by hand.
func TestArmByHand(t *testing.T) {
	isArm(t, 3, 0, 1, nil)
	isArm(t, 3, 1, 0, places(0, 0, 1, 0, 0, 1, 1, 1))
	isArm(t, 3, 0, 2, nil)
	isArm(t, 3, 2, 0, places(0, 1, 2, 1, 0, 0, 2, 0))
	isArm(t, 3, 1, 2, places(2, 1, 1, 1))
	isArm(t, 3, 2, 1, places(1, 0, 2, 0))
	isArm(t, 5, 1, 2, places(2, 3, 1, 3))
	isArm(t, 5, 2, 1, places(1, 0, 2, 0, 1, 1, 2, 1, 1, 2, 2, 2))
	isArm(t, 5, 1, 3, places(3, 2, 1, 2, 3, 0, 1, 0, 3, 3, 1, 3))
	isArm(t, 5, 3, 1, places(1, 1, 3, 1))
	isArm(t, 5, 4, 0, places(0, 3, 4, 3, 0, 2, 4, 2, 0, 1, 4, 1, 0, 0, 4, 0))
}

// P12.1: each arm, of each prime.
func TestArm(t *testing.T) {
	for _, p := range theirs {
		for x := range p {
			for y := range p {
				if x != y {
					isArm(t, p, x, y, arm(p, x, y))
				}
			}
		}
	}
}

// P12.1: what is none of the primes, whatever the columns are, and columns that
// are not two of cells.
func TestNoArm(t *testing.T) {
	for _, p := range noPrimes {
		for _, l := range [][2]int{{0, 1}, {1, 0}, {1, 2}, {2, 1}, {0, 0}, {-1, 1}, {0, p}, {p - 1, 1}, {math.MinInt, math.MaxInt}} {
			noArm(t, p, l[0], l[1])
		}
	}
	for _, p := range theirs {
		for _, l := range noTwo(p) {
			noArm(t, p, l[0], l[1])
		}
	}
}

// P12.1: an arm may be left behind each place: nothing is told behind that.
func TestArmLeft(t *testing.T) {
	for _, p := range theirs {
		for _, l := range [][2]int{{1, 0}, {p - 1, 0}, {1, p - 1}, {p - 1, 1}} {
			all, want := pair.Arm(p, l[0], l[1]), arm(p, l[0], l[1])
			for stop := range want {
				var got []api.At
				all(func(at api.At) bool {
					got = append(got, at)
					return len(got) <= stop
				})
				if !slices.Equal(got, want[:stop+1]) {
					t.Errorf("of %d, %v, left behind %d: %v, want %v", p, l, stop, got, want[:stop+1])
				}
			}
		}
	}
}

// P12.1: an arm may be gone over again, within itself, too.
func TestArmAgain(t *testing.T) {
	for _, p := range theirs {
		all, want := pair.Arm(p, 2, 1), arm(p, 2, 1)
		for range all {
			break
		}
		var got []api.At
		for at := range all {
			got = append(got, at)
			if inner := slices.Collect(all); !slices.Equal(inner, want) {
				t.Errorf("of %d, within itself: %v, want %v", p, inner, want)
			}
		}
		if !slices.Equal(got, want) {
			t.Errorf("of %d, again: %v, want %v", p, got, want)
		}
	}
}

// P12.1: the document's example, and others by hand: of arms of one length, of
// which the first one, or the second one, ends ahead of the other, or is none.
func TestOrderByHand(t *testing.T) {
	isOrder(t, 3, 1, 2, places(2, 1, 1, 1, 1, 0, 2, 0))
	isOrder(t, 3, 0, 1, places(0, 0, 1, 0, 0, 1, 1, 1))
	isOrder(t, 5, 1, 2, places(2, 3, 1, 3, 1, 0, 2, 0, 1, 1, 2, 1, 1, 2, 2, 2))
	isOrder(t, 5, 1, 3, places(3, 2, 1, 2, 1, 1, 3, 1, 3, 0, 1, 0, 3, 3, 1, 3))
	isOrder(t, 5, 1, 4, places(4, 1, 1, 1, 1, 2, 4, 2, 4, 3, 1, 3, 1, 0, 4, 0))
	isOrder(t, 5, 0, 2, places(0, 1, 2, 1, 0, 3, 2, 3, 0, 0, 2, 0, 0, 2, 2, 2))
}

// P12.1: each pair, of each prime.
func TestOrder(t *testing.T) {
	for _, p := range theirs {
		for _, l := range pairs(p) {
			isOrder(t, p, l[0], l[1], order(p, l[0], l[1]))
		}
	}
}

// P12.3: both arms have each cell of both columns once.
func TestEachOnce(t *testing.T) {
	for _, p := range theirs {
		for _, l := range pairs(p) {
			both := slices.Concat(slices.Collect(pair.Arm(p, l[0], l[1])), slices.Collect(pair.Arm(p, l[1], l[0])))
			many := map[api.At]int{}
			for _, at := range both {
				many[at]++
			}
			if len(many) != 2*(p-1) || len(both) != len(many) {
				t.Errorf("the arms of %d, %v have %d places, %d of them others", p, l, len(both), len(many))
			}
			for _, col := range l {
				for row := range p - 1 {
					if at := (api.At{Col: col, Row: row}); many[at] != 1 {
						t.Errorf("the arms of %d, %v have %v %d times", p, l, at, many[at])
					}
				}
			}
		}
	}
}

// P12.1: what is none of the primes is told ahead of columns that are no pair.
func TestNoOrder(t *testing.T) {
	for _, p := range noPrimes {
		for _, l := range [][2]int{{0, 1}, {1, 2}, {1, 0}, {0, 0}, {-1, 1}, {0, p}, {p - 1, p}, {math.MinInt, math.MaxInt}} {
			noOrder(t, p, l[0], l[1], api.ErrArg)
		}
	}
	for _, p := range theirs {
		for _, l := range noPairs(p) {
			noOrder(t, p, l[0], l[1], api.ErrRange)
		}
	}
}

// P12.1, and the rules: what is done to an answer is not seen in another one.
func TestOrderNew(t *testing.T) {
	for _, p := range theirs {
		got, _ := pair.Order(p, 1, 2)
		clear(got[:cap(got)])
		isOrder(t, p, 1, 2, order(p, 1, 2))
	}
}
