package code_test

import (
	"bytes"
	"slices"
	"testing"

	"palisade/api"
	"palisade/code"
)

// odd is stripes that may not be, no two of them the same.
func odd() []api.Stripe {
	return []api.Stripe{
		nil,
		{nil},
		{nil, nil},
		{{nil}},
		{{nil, nil}},
		{{nil}, nil},
		{nil, {nil}},
		{{nil}, {nil}},
		{{{1}}},
		{{{2}}},
		{{{1, 0}}},
		{{{0, 1}}},
		{{{1}, nil}},
		{{nil, {1}}},
		{{{1}}, nil},
		{{{1}}, {{2}}},
		{{{2}}, {{1}}},
		{{{1}, {2}}},
		{{{2}, {1}}},
		{{{1, 2}}},
		{{{1}, {2, 3}}, {{4}}},
		{{{1}, {2}}, {{3}, {4}}},
		{{{1}, {2}, {3}}, {{4}}},
		{{bytes.Repeat([]byte{7}, 65)}},
		{{bytes.Repeat([]byte{7}, 66)}},
		{{bytes.Repeat([]byte{7}, 1000)}},
		make(api.Stripe, 100),
	}
}

// P9.3: a copy is the same, also of what may not be.
func TestCopy(t *testing.T) {
	for _, s := range odd() {
		if o := code.Copy(s); !same(o, s) {
			t.Errorf("Copy(%x) = %x", s, o)
		}
	}
	if o := code.Copy(api.Stripe{}); len(o) != 0 {
		t.Errorf("Copy of no columns: %x", o)
	}
	for _, f := range forms() {
		if s := f.any(1, 64); !same(code.Copy(s), s) {
			t.Errorf("Copy(%x) = %x", s, code.Copy(s))
		}
	}
}

// P9.3: each stripe is the same as itself, and as its copy, alone.
func TestSame(t *testing.T) {
	for i, a := range odd() {
		for j, b := range odd() {
			if is := code.Same(a, b); is != (i == j) {
				t.Errorf("Same(%x, %x) = %v", a, b, is)
			}
		}
		if !code.Same(a, a) || !code.Same(a, code.Copy(a)) {
			t.Errorf("%x is not the same as itself", a)
		}
	}
}

// P9.3, and the rules: nil and empty mean the same, inside stripes, too.
func TestSameEmpty(t *testing.T) {
	rows := [][2]api.Stripe{
		{nil, {}},
		{{nil}, {{}}},
		{{{nil}}, {{{}}}},
		{{{{1}, nil}, nil}, {{{1}, {}}, {}}},
	}
	for _, r := range rows {
		if !code.Same(r[0], r[1]) || !code.Same(r[1], r[0]) {
			t.Errorf("%#v and %#v are not the same", r[0], r[1])
		}
	}
}

// P9.3: a bit that is another one is seen, at each place; so is a cell, a column
// less.
func TestSameSees(t *testing.T) {
	for _, f := range forms() {
		s := f.any(1, 2)
		for n, at := range f.spots(0, f.cols) {
			o := copied(s)
			o[at.Col][at.Row][n%2] ^= 1 << (n % 8)
			if code.Same(s, o) || code.Same(o, s) {
				t.Errorf("%v: another bit at %v is not seen", f.code, at)
			}
			o = copied(s)
			o[at.Col] = slices.Delete(o[at.Col], at.Row, at.Row+1)
			if code.Same(s, o) || code.Same(o, s) {
				t.Errorf("%v: no cell at %v is not seen", f.code, at)
			}
		}
		if code.Same(s, s[1:]) || code.Same(s[:f.cols-1], s) {
			t.Errorf("%v: a column less is not seen", f.code)
		}
	}
}

// roomy is columns whose lists and cells have something in the room behind them:
// the one that follows. unchanged tells whether all of it still stands there.
func (f form) roomy(many, length int) (cols []api.Column, unchanged func() bool) {
	one := form{code: f.code, rows: 1}
	memory := one.numbered(1, 1, (many*f.rows+1)*length)[0][0]
	cells := make(api.Column, many*f.rows+1)
	for n := range cells {
		cells[n] = memory[n*length : (n+1)*length]
	}
	var all []api.Column
	for col := range many {
		all = append(all, cells[col*f.rows:(col+1)*f.rows])
	}
	all = append(all, cells[many*f.rows:], cells, nil, cells)
	were, wasMemory := copied(all), slices.Clone(memory)
	return all[:many], func() bool { return same(all, were) && bytes.Equal(memory, wasMemory) }
}

// P9.1 to P9.3, and the rules: what is handed in is not changed, spare room
// included.
func TestHandedIn(t *testing.T) {
	for _, f := range forms() {
		data, unchanged := f.roomy(f.data, 3)
		asMade(t, f, data)
		if !unchanged() {
			t.Errorf("%v: what was handed to Encode is changed", f.code)
		}
		s, unchanged := f.roomy(f.cols, 3)
		asThere(t, f, s)
		changed(t, f, s, api.At{Col: 1, Row: 1}, []byte{1, 2, 3})
		changed(t, f, s, api.At{Col: 1, Row: 1}, s[0][0])
		if !code.Same(code.Copy(s), s) || !unchanged() {
			t.Errorf("%v: what was handed in is changed", f.code)
		}
		b := f.octets(f.numbered(1, f.data, 4))
		was := slices.Clone(b)
		filled(t, f, b[:5], 4)
		filled(t, f, b[:4*f.cells()-1], 4)
		if !bytes.Equal(b, was) {
			t.Errorf("%v: what was handed to Fill is changed", f.code)
		}
	}
}

// scribbled writes on a cell, and on the room behind it.
func scribbled(c []byte) {
	c = c[:cap(c)]
	for i := range c {
		c[i] ^= 0xff
	}
}

// spoil writes over all columns, their lists, and their cells.
func spoil(l []api.Column) {
	for _, col := range l {
		for _, c := range col {
			scribbled(c)
		}
		clear(col)
	}
	clear(l)
}

// P9.1 to P9.3, and the rules: an answer shares no memory with what was handed
// in, with another answer, or within itself: what is done to one of its cells is
// seen in that one alone.
func TestNewMemory(t *testing.T) {
	for _, f := range small() {
		s := f.any(1, 5)
		b, cell := f.octets(s), []byte{1, 2, 3, 4, 5}
		was, wasB, wasCell := copied(s), slices.Clone(b), slices.Clone(cell)
		calls := map[string]func() api.Stripe{
			"Encode": func() api.Stripe { return mustEncode(t, f, s[:f.data]) },
			"Fill":   func() api.Stripe { return mustFill(t, f, b, 5) },
			"Short":  func() api.Stripe { return mustFill(t, f, b[:6], 5) },
			"Change": func() api.Stripe { return mustChange(t, f, s, api.At{Col: 1, Row: 1}, cell) },
			"Copy":   func() api.Stripe { return code.Copy(s) },
		}
		for name, call := range calls {
			want := copied(call())
			for _, at := range f.spots(0, f.cols) {
				o, other, scribbledOn := call(), call(), copied(want)
				scribbled(cellOf(o, at))
				scribbled(cellOf(scribbledOn, at)[:5:5])
				_ = append(o[0], []byte{1})
				if !same(o, scribbledOn) || !same(other, want) {
					t.Errorf("%s of %v: what is done to the cell at %v is seen", name, f.code, at)
				}
				spoil(o)
				if !same(other, want) || !same(s, was) || !bytes.Equal(b, wasB) || !bytes.Equal(cell, wasCell) {
					t.Errorf("%s of %v: what is done to an answer is seen", name, f.code)
				}
			}
		}
	}
}

// P9.1, P9.2, and the rules: the bytes and the places that are told are new
// memory, too.
func TestNewLists(t *testing.T) {
	for _, f := range forms() {
		s := f.any(1, 5)
		was, at := copied(s), api.At{Col: 1, Row: 1}
		b := mustData(t, f, s)
		scribbled(b)
		_, l, _ := code.Change(f.code, s, at, make([]byte, 5))
		clear(l[:cap(l)])
		_, again, _ := code.Change(f.code, s, at, make([]byte, 5))
		if !same(s, was) || !bytes.Equal(mustData(t, f, s), f.octets(was)) || !slices.Equal(again, f.touched(at)) {
			t.Errorf("%v: what is done to the bytes or the places is seen", f.code)
		}
	}
}

// P9.1 to P9.3, and the rules: what is handed in is not kept: not by an answer,
// nor by what is wrong, before it is gone over or while it is.
func TestNotKept(t *testing.T) {
	for _, f := range forms() {
		s, cell := api.Stripe(f.any(1, 4)), []byte{1, 2, 3, 4}
		was := copied(s)
		wrong := f.wrong(s)
		made, other := mustEncode(t, f, s[:f.data]), code.Copy(s)
		b := mustData(t, f, s)
		full := mustFill(t, f, b, 4)
		o, _, _ := code.Change(f.code, s, api.At{}, cell)
		wantChanged := copied(o)
		places, later := code.Wrong(f.code, s), code.Wrong(f.code, s)
		var got []api.At
		for at := range places {
			got = append(got, at)
			spoil(s)
		}
		scribbled(b)
		scribbled(cell)
		want := f.whole(was[:f.data])
		if !same(made, want) || !same(full, want) || !same(other, was) || !same(o, wantChanged) {
			t.Errorf("%v: what is done later to what was handed in is seen", f.code)
		}
		if l := slices.Collect(later); !slices.Equal(got, wrong) || !slices.Equal(l, wrong) {
			t.Errorf("%v: wrong is %v, later %v, want %v", f.code, got, l, wrong)
		}
	}
}

// P9.1 to P9.3: cells, and columns, may be the same piece of memory. What is made
// of them has memory for each all the same.
func TestOneMemory(t *testing.T) {
	for _, f := range forms() {
		c := []byte{1, 0x80}
		one := func(many int) []api.Column {
			return each(many, f.rows, func(int, int) []byte { return c })
		}
		asMade(t, f, one(f.data))
		asThere(t, f, one(f.cols))
		changed(t, f, one(f.cols), api.At{Col: 1, Row: 1}, []byte{7, 7})
		s := make(api.Stripe, f.cols)
		for col := range s {
			s[col] = one(1)[0]
		}
		for _, o := range []api.Stripe{code.Copy(s), mustChange(t, f, s, api.At{}, c), mustEncode(t, f, s[:f.data])} {
			want := copied(o)
			scribbled(o[1][1])
			scribbled(want[1][1][:2:2])
			if !same(o, want) {
				t.Errorf("%v: what is done to one cell is seen in another one", f.code)
			}
		}
	}
}
