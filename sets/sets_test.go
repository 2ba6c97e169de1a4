package sets_test

import (
	"iter"
	"math"
	"math/big"
	"slices"
	"testing"

	"palisade/api"
	"palisade/sets"
)

// theirs is the primes by hand, as forms is what codes have, so that the tests
// don't ask the layers below for them.
var theirs = []int{3, 5, 7, 11, 13, 17}

// form is what a code has.
type form struct {
	code             api.Code
	rows, data, cols int
}

func forms() []form {
	var l []form
	for _, p := range theirs {
		l = append(l,
			form{api.Code{Kind: api.Evenodd, P: p}, p - 1, p, p + 2},
			form{api.Code{Kind: api.Rdp, P: p}, p - 1, p - 1, p + 1},
			form{api.Code{Kind: api.Star, P: p}, p - 1, p, p + 3})
	}
	return l
}

// spots is the places of some columns, by Col, of one Col by Row.
func (f form) spots(from, to int) []api.At {
	var l []api.At
	for col := from; col < to; col++ {
		for row := range f.rows {
			l = append(l, api.At{Col: col, Row: row})
		}
	}
	return l
}

func (f form) dataCells() []api.At { return f.spots(0, f.data) }
func (f form) madeCells() []api.At { return f.spots(f.data, f.cols) }

func (f form) diagonal(at api.At) int { return (at.Col + at.Row) % f.code.P }
func (f form) slant(at api.At) int    { return (at.Row - at.Col + 2*f.code.P) % f.code.P }

// member tells by the document's words whether a cell is a member of another one.
func (f form) member(at, made api.At) bool {
	last, data, rows := f.code.P-1, at.Col < f.data, at.Col == f.data
	switch made.Col - f.data {
	case 0:
		return data && at.Row == made.Row
	case 1:
		if f.code.Kind == api.Rdp {
			return (data || rows) && f.diagonal(at) == made.Row
		}
		return data && (f.diagonal(at) == made.Row || f.diagonal(at) == last)
	case 2:
		return data && (f.slant(at) == made.Row || f.slant(at) == last)
	}
	return false
}

func (f form) members(made api.At) []api.At {
	return slices.DeleteFunc(f.spots(0, f.cols), func(at api.At) bool { return !f.member(at, made) })
}

// hangs tells by the document's words whether one that is made hangs on a data
// cell.
func (f form) hangs(made, at api.At) bool {
	through := slices.ContainsFunc(f.members(made), func(x api.At) bool {
		return x.Col == f.data && f.member(at, x)
	})
	return f.member(at, made) != (f.code.Kind == api.Rdp && through)
}

func (f form) touched(at api.At) []api.At {
	return slices.DeleteFunc(f.madeCells(), func(made api.At) bool { return !f.hangs(made, at) })
}

// huge is numbers far off, those at the ends of their kinds included, and such
// as would be small if they were cut to fewer bits.
var huge = []int{
	math.MinInt, math.MinInt + 1, math.MinInt + 4, -1 << 32, -1<<31 - 1, -1 << 31,
	1 << 8, 1<<8 + 1, 1 << 16, 1<<16 + 3, 1<<31 - 1, 1 << 31, 1 << 32, 1<<32 + 1, 1<<32 + 4,
	1 << 62, 1<<62 + 1, math.MaxInt - 1, math.MaxInt,
}

// noCodes is codes that may not be: of each Kind with numbers that are no
// prime of a code, of each prime with numbers that are no Kind.
func noCodes() []api.Code {
	var l []api.Code
	for _, p := range slices.Concat(huge, []int{-17, -5, -3, -1, 0, 1, 2, 4, 6, 8, 9, 15, 16, 18, 19, 23, 25, 29, 31}) {
		for kind := api.Evenodd; kind <= api.Star; kind++ {
			l = append(l, api.Code{Kind: kind, P: p})
		}
	}
	for _, kind := range slices.Concat(huge, []int{-3, -2, -1, 0, 4, 5, 7}) {
		for _, p := range slices.Concat(theirs, []int{0, 4, math.MaxInt}) {
			l = append(l, api.Code{Kind: api.CodeKind(kind), P: p})
		}
	}
	return l
}

// noCells is places that no cell of a code has.
func (f form) noCells() []api.At {
	var l []api.At
	for _, far := range slices.Concat(huge, []int{-17, -2, -1}) {
		for near := range f.cols {
			l = append(l, api.At{Col: far, Row: near}, api.At{Col: near, Row: far})
		}
		l = append(l, api.At{Col: far, Row: far})
	}
	for more := range 20 {
		for row := range f.rows {
			l = append(l, api.At{Col: f.cols + more, Row: row})
		}
		for col := range f.cols {
			l = append(l, api.At{Col: col, Row: f.rows + more})
		}
	}
	return l
}

// told holds places against what they should be.
func told(t *testing.T, want ...api.At) func([]api.At, api.Errno) {
	return func(got []api.At, e api.Errno) {
		t.Helper()
		if !slices.Equal(got, want) || e != api.OK {
			t.Errorf("%v, error %d, want %v", got, e, want)
		}
	}
}

// refused holds an answer against an error.
func refused(t *testing.T, want api.Errno) func([]api.At, api.Errno) {
	return func(got []api.At, e api.Errno) {
		t.Helper()
		if got != nil || e != want {
			t.Errorf("%v, error %d, want error %d", got, e, want)
		}
	}
}

// sure is places that can't be an error here.
func sure(t *testing.T) func([]api.At, api.Errno) []api.At {
	return func(got []api.At, e api.Errno) []api.At {
		t.Helper()
		if e != api.OK {
			t.Fatalf("error %d", e)
		}
		return got
	}
}

// calls is the calls that tell places of a place.
var calls = []struct {
	name string
	call func(api.Code, api.At) ([]api.At, api.Errno)
}{
	{"Members", sets.Members},
	{"Touched", sets.Touched},
}

var (
	evenodd3 = api.Code{Kind: api.Evenodd, P: 3}
	rdp3     = api.Code{Kind: api.Rdp, P: 3}
	star3    = api.Code{Kind: api.Star, P: 3}
	rdp5     = api.Code{Kind: api.Rdp, P: 5}
)

// P5.1: the document's examples, and others by hand.
func TestRows(t *testing.T) {
	told(t, api.At{Col: 0, Row: 0}, api.At{Col: 1, Row: 1}, api.At{Col: 2, Row: 0}, api.At{Col: 2, Row: 1})(
		sets.Members(evenodd3, api.At{Col: 4, Row: 0}))
	told(t, api.At{Col: 0, Row: 1}, api.At{Col: 1, Row: 0}, api.At{Col: 1, Row: 1}, api.At{Col: 2, Row: 0})(
		sets.Members(evenodd3, api.At{Col: 4, Row: 1}))
	told(t, api.At{Col: 0, Row: 1}, api.At{Col: 1, Row: 1}, api.At{Col: 2, Row: 1})(
		sets.Members(evenodd3, api.At{Col: 3, Row: 1}))
	told(t, api.At{Col: 0, Row: 0}, api.At{Col: 1, Row: 0}, api.At{Col: 1, Row: 1}, api.At{Col: 2, Row: 1})(
		sets.Members(star3, api.At{Col: 5, Row: 0}))
	told(t, api.At{Col: 0, Row: 1}, api.At{Col: 1, Row: 0}, api.At{Col: 2, Row: 0}, api.At{Col: 2, Row: 1})(
		sets.Members(star3, api.At{Col: 5, Row: 1}))
	told(t, api.At{Col: 0, Row: 0}, api.At{Col: 2, Row: 1})(sets.Members(rdp3, api.At{Col: 3, Row: 0}))
	told(t, api.At{Col: 0, Row: 1}, api.At{Col: 1, Row: 0})(sets.Members(rdp3, api.At{Col: 3, Row: 1}))

	told(t, api.At{Col: 2, Row: 1}, api.At{Col: 3, Row: 0}, api.At{Col: 3, Row: 1})(
		sets.Touched(rdp3, api.At{Col: 0, Row: 1}))
	told(t, api.At{Col: 2, Row: 0}, api.At{Col: 3, Row: 0})(sets.Touched(rdp3, api.At{Col: 0, Row: 0}))
	told(t, api.At{Col: 2, Row: 1}, api.At{Col: 3, Row: 0})(sets.Touched(rdp3, api.At{Col: 1, Row: 1}))
	told(t, api.At{Col: 4, Row: 3}, api.At{Col: 5, Row: 1}, api.At{Col: 5, Row: 2})(
		sets.Touched(rdp5, api.At{Col: 3, Row: 3}))
	told(t, api.At{Col: 3, Row: 1}, api.At{Col: 4, Row: 0}, api.At{Col: 4, Row: 1})(
		sets.Touched(evenodd3, api.At{Col: 1, Row: 1}))
	told(t, api.At{Col: 3, Row: 0}, api.At{Col: 4, Row: 1})(sets.Touched(evenodd3, api.At{Col: 1, Row: 0}))
	told(t, api.At{Col: 3, Row: 0}, api.At{Col: 4, Row: 1}, api.At{Col: 5, Row: 0}, api.At{Col: 5, Row: 1})(
		sets.Touched(star3, api.At{Col: 1, Row: 0}))
}

// P5.1: members of all cells that are made, by the document's words.
func TestMembers(t *testing.T) {
	for _, f := range forms() {
		for _, made := range f.madeCells() {
			told(t, f.members(made)...)(sets.Members(f.code, made))
		}
	}
}

// P5.1: what hangs on each data cell, by the document's words.
func TestTouched(t *testing.T) {
	for _, f := range forms() {
		for _, at := range f.dataCells() {
			told(t, f.touched(at)...)(sets.Touched(f.code, at))
		}
	}
}

// P5.1: a data cell has no members, on one that is made nothing hangs, and on
// what is no cell neither.
func TestRefused(t *testing.T) {
	for _, f := range forms() {
		for _, at := range f.dataCells() {
			refused(t, api.ErrRange)(sets.Members(f.code, at))
		}
		for _, made := range f.madeCells() {
			refused(t, api.ErrRange)(sets.Touched(f.code, made))
		}
		for _, row := range calls {
			for _, at := range f.noCells() {
				if got, e := row.call(f.code, at); got != nil || e != api.ErrRange {
					t.Errorf("%s(%v, %v) = %v, error %d", row.name, f.code, at, got, e)
				}
			}
		}
	}
}

// P5.1, P5.2: what may be no code is refused, ahead of a place that is none;
// its lines are there, and none.
func TestNoCode(t *testing.T) {
	for _, c := range noCodes() {
		for _, n := range []int{math.MinInt, -1, 0, 1, 3, 4, 17, math.MaxInt} {
			for _, row := range calls {
				refused(t, api.ErrArg)(row.call(c, api.At{Col: n}))
				refused(t, api.ErrArg)(row.call(c, api.At{Col: 3, Row: n}))
			}
		}
		lines := sets.Lines(c)
		if lines == nil {
			t.Fatalf("Lines(%v) is not there", c)
		}
		for made, l := range lines {
			t.Errorf("Lines(%v): %v of %v", c, made, l)
		}
	}
}

// line is what Lines tells at a time.
type line struct {
	made    api.At
	members []api.At
}

func sameLine(a, b line) bool { return a.made == b.made && slices.Equal(a.members, b.members) }

func collected(lines iter.Seq2[api.At, []api.At]) []line {
	var l []line
	for made, members := range lines {
		l = append(l, line{made, members})
	}
	return l
}

func (f form) lines() []line {
	var l []line
	for _, made := range f.madeCells() {
		l = append(l, line{made, f.members(made)})
	}
	return l
}

// P5.2: all that are made, in order, each with its members.
func TestLines(t *testing.T) {
	for _, f := range forms() {
		got := collected(sets.Lines(f.code))
		if !slices.EqualFunc(got, f.lines(), sameLine) {
			t.Errorf("Lines(%v): %v", f.code, got)
		}
		for _, x := range got {
			told(t, x.members...)(sets.Members(f.code, x.made))
		}
	}
}

// P5.2: lines may be left behind each of them: nothing is told behind that.
func TestLinesLeft(t *testing.T) {
	for _, f := range forms() {
		lines, want := sets.Lines(f.code), f.lines()
		for stop := range want {
			var got []line
			lines(func(made api.At, members []api.At) bool {
				got = append(got, line{made, members})
				return len(got) <= stop
			})
			if !slices.EqualFunc(got, want[:stop+1], sameLine) {
				t.Errorf("Lines(%v), left behind %d: %v", f.code, stop, got)
			}
		}
	}
}

// P5.2: lines may be gone over again, within themselves, too.
func TestLinesAgain(t *testing.T) {
	for _, f := range forms() {
		lines, want := sets.Lines(f.code), f.lines()
		for range lines {
			break
		}
		rounds := 0
		for made := range lines {
			if made != want[rounds].made {
				t.Errorf("Lines(%v): %v, want %v", f.code, made, want[rounds].made)
			}
			if rounds++; rounds > 3 {
				continue
			}
			if got := collected(lines); !slices.EqualFunc(got, want, sameLine) {
				t.Errorf("Lines(%v), within themselves: %v", f.code, got)
			}
		}
		if got := collected(lines); rounds != len(want) || !slices.EqualFunc(got, want, sameLine) {
			t.Errorf("Lines(%v), again: %v; %d rounds", f.code, got, rounds)
		}
	}
}

// P5.2: by Col, of one Col by Row; none is ahead of itself. The places need be
// of no code.
func TestBeforeRows(t *testing.T) {
	rows := []struct {
		a, b api.At
		want bool
	}{
		{api.At{}, api.At{}, false},
		{api.At{Col: 1, Row: 2}, api.At{Col: 1, Row: 2}, false},
		{api.At{Col: 1, Row: 2}, api.At{Col: 1, Row: 3}, true},
		{api.At{Col: 1, Row: 3}, api.At{Col: 1, Row: 2}, false},
		{api.At{Col: 1, Row: 9}, api.At{Col: 2, Row: 0}, true},
		{api.At{Col: 2, Row: 0}, api.At{Col: 1, Row: 9}, false},
		{api.At{Col: -1, Row: 0}, api.At{}, true},
		{api.At{Col: 0, Row: -1}, api.At{}, true},
		{api.At{}, api.At{Col: 0, Row: -1}, false},
		{api.At{Col: math.MinInt}, api.At{Col: math.MaxInt}, true},
		{api.At{Col: math.MaxInt}, api.At{Col: math.MinInt}, false},
		{api.At{Row: math.MinInt}, api.At{Row: math.MaxInt}, true},
		{api.At{Row: math.MaxInt}, api.At{Row: math.MinInt}, false},
		{api.At{Col: math.MinInt, Row: math.MaxInt}, api.At{Col: math.MaxInt, Row: math.MinInt}, true},
	}
	for _, r := range rows {
		if got := sets.Before(r.a, r.b); got != r.want {
			t.Errorf("Before(%v, %v) = %v", r.a, r.b, got)
		}
	}
}

// P5.2: all pairs of numbers near and far.
func TestBefore(t *testing.T) {
	near := slices.Concat(huge, []int{-2, -1, 0, 1, 2, 17})
	slices.Sort(near)
	var l []api.At
	for _, col := range near {
		for _, row := range near {
			l = append(l, api.At{Col: col, Row: row})
		}
	}
	for i, a := range l {
		for j, b := range l {
			if got := sets.Before(a, b); got != (i < j) {
				t.Errorf("Before(%v, %v) = %v", a, b, got)
			}
		}
	}
}

// overwrite writes over all of an answer's memory, its spare room included.
func overwrite(l []api.At) {
	l = l[:cap(l)]
	for i := range l {
		l[i] = api.At{Col: -7, Row: -7}
	}
}

// P5.1, and the rules: what is done to an answer is not seen in another one.
func TestAnswersAreNew(t *testing.T) {
	for _, f := range forms() {
		made, at := f.madeCells()[f.rows], f.dataCells()[1]
		of := sure(t)
		members, touched := of(sets.Members(f.code, made)), of(sets.Touched(f.code, at))
		overwrite(of(sets.Members(f.code, made)))
		overwrite(of(sets.Touched(f.code, at)))
		if !slices.Equal(members, f.members(made)) || !slices.Equal(touched, f.touched(at)) {
			t.Errorf("%v: what was answered before is changed: %v, %v", f.code, members, touched)
		}
		told(t, f.members(made)...)(sets.Members(f.code, made))
		told(t, f.touched(at)...)(sets.Touched(f.code, at))
	}
}

// P5.2, and the rules: the members of lines share no memory, neither within a
// round nor with another one.
func TestLinesAreNew(t *testing.T) {
	for _, f := range forms() {
		lines, want := sets.Lines(f.code), f.lines()
		kept, again := collected(lines), collected(lines)
		for i := range kept {
			overwrite(kept[i].members)
			if behind := kept[i+1:]; !slices.EqualFunc(behind, want[i+1:], sameLine) {
				t.Errorf("Lines(%v): what is done to the line %d is seen: %v", f.code, i, behind)
			}
		}
		for range 2 {
			if !slices.EqualFunc(again, want, sameLine) {
				t.Errorf("Lines(%v): what is done to a line is seen in another round: %v", f.code, again)
			}
			again = collected(lines)
		}
		for _, members := range lines {
			overwrite(members)
		}
		if got := collected(lines); !slices.EqualFunc(got, want, sameLine) {
			t.Errorf("Lines(%v), written on while they are gone over: %v", f.code, got)
		}
	}
}

// dataOf is the data cells of which one that is made is left, members of
// members put for members: a bit each.
func dataOf(t *testing.T, f form, made api.At) *big.Int {
	left := new(big.Int)
	for _, x := range sure(t)(sets.Members(f.code, made)) {
		if x.Col >= f.data {
			left.Xor(left, dataOf(t, f, x))
			continue
		}
		one := new(big.Int).Lsh(big.NewInt(1), uint(x.Col*f.rows+x.Row))
		left.Xor(left, one)
	}
	return left
}

// P5.3: one that is made is in Touched of just those data cells of which it is
// left.
func TestTouchedIsWhatIsLeft(t *testing.T) {
	for _, f := range forms() {
		left := map[api.At]*big.Int{}
		for _, made := range f.madeCells() {
			left[made] = dataOf(t, f, made)
		}
		for i, at := range f.dataCells() {
			l := sure(t)(sets.Touched(f.code, at))
			for _, made := range f.madeCells() {
				if slices.Contains(l, made) != (left[made].Bit(i) == 1) {
					t.Errorf("Touched(%v, %v): %v", f.code, at, l)
				}
			}
		}
	}
}

// P5.3: how many members those of each role have; they rise, without two that
// are the same.
func TestHowManyMembers(t *testing.T) {
	for _, f := range forms() {
		for made, l := range sets.Lines(f.code) {
			want := 2 * (f.code.P - 1)
			switch {
			case made.Col == f.data:
				want = f.data
			case f.code.Kind == api.Rdp:
				want = f.code.P - 1
			}
			if len(l) != want {
				t.Errorf("%v, %v: %d members, want %d", f.code, made, len(l), want)
			}
			for i := range l[1:] {
				if !sets.Before(l[i], l[i+1]) {
					t.Errorf("%v, %v: out of order: %v", f.code, made, l)
				}
			}
		}
	}
}

// P5.3: of how many lines of each role a data cell is a member: one of rows,
// one of diagonals and of slants, but for the last line.
func TestHowManyLines(t *testing.T) {
	for _, f := range forms() {
		for _, at := range f.dataCells() {
			got := make([]int, f.cols-f.data)
			for made, l := range sets.Lines(f.code) {
				if slices.Contains(l, at) {
					got[made.Col-f.data]++
				}
			}
			want := []int{1, 1, 1}[:len(got)]
			all := f.rows
			if f.code.Kind == api.Rdp {
				all = 0
			}
			if f.diagonal(at) == f.code.P-1 {
				want[1] = all
			}
			if len(want) > 2 && f.slant(at) == f.code.P-1 {
				want[2] = all
			}
			if !slices.Equal(got, want) {
				t.Errorf("%v, %v: a member of %v lines, want %v", f.code, at, got, want)
			}
		}
	}
}
