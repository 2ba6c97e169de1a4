package ring_test

import (
	"math"
	"slices"
	"testing"

	"palisade/api"
	"palisade/evenodd"
	"palisade/ring"
)

// places is numbers to turn by that are of all places of a prime, and some others.
func places(p int) []int {
	l := []int{-1, -p, p, p + 2, 3*p - 1, math.MinInt, math.MaxInt}
	for n := range p {
		l = append(l, n)
	}
	return l
}

// P10.3: turned by one number, and then by another one, is turned by both
// together; by the prime it is as it was.
func TestTurnedTwice(t *testing.T) {
	of := sure(t)
	for _, p := range theirs {
		c := numbered(uint64(p), p-1, 3)
		for _, a := range places(p) {
			for _, b := range places(p) {
				both := of(ring.Turn(p, c, a%p+b%p))
				is(t, "Turn", p, c, b, both)(ring.Turn(p, of(ring.Turn(p, c, a)), b))
			}
			is(t, "Turn", p, c, -(a % p), c)(ring.Turn(p, of(ring.Turn(p, c, a)), -(a % p)))
		}
		is(t, "Turn", p, c, p, c)(ring.Turn(p, c, p))
	}
}

// P10.3: all turns of a column, put upon one another, are noughts.
func TestAllTurns(t *testing.T) {
	of := sure(t)
	for _, p := range theirs {
		for seed := range uint64(10) {
			c := numbered(seed, p-1, 3)
			for _, step := range []int{1, 2, -1} {
				var l []api.Column
				for n := range p {
					l = append(l, of(ring.Turn(p, c, n*step)))
				}
				is(t, "Sum", p, c, step, noughts(p-1, 3))(ring.Sum(p, l...))
			}
		}
	}
}

// P10.3: slackened by two numbers it is the same in either order. Slacken undoes
// Stretch, and Stretch Slacken.
func TestSlackenedTwice(t *testing.T) {
	of := sure(t)
	for _, p := range theirs {
		c := numbered(uint64(p), p-1, 3)
		for _, a := range places(p) {
			if a%p == 0 {
				continue
			}
			slack := of(ring.Slacken(p, c, a))
			is(t, "Stretch", p, slack, a, c)(ring.Stretch(p, slack, a))
			is(t, "Slacken", p, c, a, c)(ring.Slacken(p, of(ring.Stretch(p, c, a)), a))
			for _, b := range places(p) {
				if b%p == 0 {
					continue
				}
				other := of(ring.Slacken(p, of(ring.Slacken(p, c, b)), a))
				is(t, "Slacken", p, slack, b, other)(ring.Slacken(p, slack, b))
			}
		}
	}
}

// P10.3: what is made of columns put upon one another is that of each, put upon
// one another.
func TestUponOneAnother(t *testing.T) {
	of := sure(t)
	for _, p := range theirs {
		a, b, c := numbered(1, p-1, 3), numbered(2, p-1, 3), numbered(3, p-1, 3)
		for _, row := range calls {
			for _, by := range places(p) {
				if row.name == "Slacken" && by%p == 0 {
					continue
				}
				all := of(row.call(p, of(ring.Sum(p, a, b, c)), by))
				l := []api.Column{of(row.call(p, a, by)), of(row.call(p, b, by)), of(row.call(p, c, by))}
				is(t, row.name, p, nil, by, all)(ring.Sum(p, l...))
			}
		}
	}
}

// P10.3: the column of rows of EVENODD's data, each turned by its number, is that
// of diagonals.
func TestEvenodd(t *testing.T) {
	of := sure(t)
	for _, p := range theirs {
		for seed := range uint64(10) {
			var data, turns []api.Column
			for n := range p {
				data = append(data, numbered(seed*100+uint64(n), p-1, 5))
				turns = append(turns, of(ring.Turn(p, data[n], n)))
			}
			made, e := evenodd.Encode(p, data)
			if e != api.OK {
				t.Fatalf("Encode of the prime %d: error %d", p, e)
			}
			is(t, "Sum", p, nil, 0, made[0])(ring.Sum(p, data...))
			is(t, "Sum", p, nil, 1, made[1])(ring.Sum(p, turns...))
		}
	}
}

// steps is the rows by the document's words.
func steps(p, by int) []int {
	var l []int
	for n := 1; n < p && by%p != 0; n++ {
		l = append(l, ((p-1+n*(by%p))%p+p)%p)
	}
	return l
}

// P10.2: the document's example, and others by hand.
func TestOrder(t *testing.T) {
	rows := []struct {
		p, by int
		want  []int
	}{
		{3, 2, []int{1, 0}},
		{3, 1, []int{0, 1}},
		{3, 3, nil},
		{5, 2, []int{1, 3, 0, 2}},
		{5, -2, []int{2, 0, 3, 1}},
		{7, 10, []int{2, 5, 1, 4, 0, 3}},
		{7, 0, nil},
	}
	for _, r := range rows {
		if got := slices.Collect(ring.Rows(r.p, r.by)); !slices.Equal(got, r.want) {
			t.Errorf("Rows(%d, %d): %v, want %v", r.p, r.by, got, r.want)
		}
	}
}

// P10.2: by any number each row but the last one once; by a multiple none.
func TestEachRow(t *testing.T) {
	for _, p := range theirs {
		for _, by := range someNumbers(p) {
			got := slices.Collect(ring.Rows(p, by))
			if want := steps(p, by); !slices.Equal(got, want) {
				t.Errorf("Rows(%d, %d): %v, want %v", p, by, got, want)
			}
			slices.Sort(got)
			for at, row := range got {
				if at != row {
					t.Errorf("Rows(%d, %d) has not each row once: %v", p, by, got)
				}
			}
		}
	}
}

// P10.2: of none of the primes the rows are there, and none of them is.
func TestNoRows(t *testing.T) {
	for _, p := range noPrimes {
		for _, by := range []int{math.MinInt, -1, 0, 1, 2, p, math.MaxInt} {
			rows := ring.Rows(p, by)
			if rows == nil {
				t.Fatalf("Rows(%d, %d) is not there", p, by)
			}
			if got := slices.Collect(rows); len(got) != 0 {
				t.Errorf("Rows(%d, %d): %v", p, by, got)
			}
		}
	}
}

// P10.2: rows may be left behind each of them: nothing is told behind that.
func TestRowsLeft(t *testing.T) {
	for _, p := range theirs {
		rows, want := ring.Rows(p, 2), steps(p, 2)
		for stop := range want {
			var got []int
			rows(func(row int) bool {
				got = append(got, row)
				return len(got) <= stop
			})
			if !slices.Equal(got, want[:stop+1]) {
				t.Errorf("of %d, left behind %d: %v, want %v", p, stop, got, want[:stop+1])
			}
		}
	}
}

// P10.2: rows may be gone over again, within themselves, too.
func TestRowsAgain(t *testing.T) {
	for _, p := range theirs {
		rows, want := ring.Rows(p, -1), steps(p, -1)
		for range rows {
			break
		}
		rounds := 0
		for range rows {
			rounds++
			if got := slices.Collect(rows); !slices.Equal(got, want) {
				t.Errorf("of %d, within themselves: %v, want %v", p, got, want)
			}
		}
		if got := slices.Collect(rows); rounds != p-1 || !slices.Equal(got, want) {
			t.Errorf("of %d, again: %v, want %v; %d rows", p, got, want, rounds)
		}
	}
}
