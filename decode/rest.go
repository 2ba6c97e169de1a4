package decode

import (
	"slices"

	"palisade/api"
	"palisade/chain"
	"palisade/code"
	"palisade/evenodd"
	"palisade/pair"
	"palisade/shape"
	"palisade/triple"
)

// rest is a stripe, of which columns are lost: only asked makes one. It must not
// outlive the call: the columns are the caller's.
type rest struct {
	loss
	all api.Stripe
}

// asked tells what is left of a stripe, if it has as many columns as must be.
func asked(c api.Code, s api.Stripe, lost ...int) rest {
	need(len(s) == sure(shape.Cols(c)), api.ErrArg)
	return rest{losing(c, lost...), s}
}

// meant tells the stripe that is meant: that of the data, if it has what is left.
func (r rest) meant() api.Stripe {
	r.few()
	need(evenodd.Right(r.P, r.kept()), api.ErrArg)
	whole := sure(code.Encode(r.Code, r.found()))
	all := put(r.all, func(col int) (api.Column, bool) { return whole[col], r.has(col) })
	need(code.Same(all, whole), api.ErrWrong)
	return whole
}

// kept tells the columns that are not lost.
func (r rest) kept() []api.Column {
	var cols []api.Column
	for col, c := range r.all {
		if !r.has(col) {
			cols = append(cols, c)
		}
	}
	return cols
}

// put tells things of which some are others: those for which instead tells one.
func put[T any](l []T, instead func(at int) (T, bool)) []T {
	other := slices.Clone(l)
	for at := range other {
		if x, ok := instead(at); ok {
			other[at] = x
		}
	}
	return other
}

// found tells all columns of data. Those that are lost hang on as many of those
// that are left as there are lost ones: whether the others fit, is not asked here.
func (r rest) found() []api.Column {
	lost := r.data()
	ways := [...]func(...int) []api.Column{r.none, r.one, r.two, r.three}
	told := ways[len(lost)](lost...)
	return put(r.all[:r.made()], func(col int) (api.Column, bool) {
		i := slices.Index(lost, col)
		if i < 0 {
			return nil, false
		}
		return told[i], true
	})
}

func (r rest) none(...int) []api.Column { return nil }

func (r rest) one(lost ...int) []api.Column {
	a, rows := lost[0], r.made()
	_, left := r.roles()
	switch {
	case r.Kind == api.Star:
		return []api.Column{sure(triple.One(r.P, r.all, a, left[0]))}
	case r.Kind == api.Rdp && r.has(rows):
		return sure(pair.Recover(r.P, r.all, a, rows))[:1]
	case r.Kind == api.Rdp:
		return []api.Column{sure(pair.Row(r.P, r.all, a))}
	case r.has(rows):
		return []api.Column{sure(chain.Alone(r.P, r.all, a))}
	}
	return []api.Column{r.byRows(a)}
}

// byRows tells a lost column of data of EVENODD where that of rows is left: it is
// that of rows of the others and of that one.
func (r rest) byRows(a int) api.Column {
	rows := r.made()
	data := put(r.all[:rows], func(col int) (api.Column, bool) { return r.all[rows], col == a })
	return sure(evenodd.Encode(r.P, data))[0]
}

func (r rest) two(lost ...int) []api.Column {
	a, b := lost[0], lost[1]
	switch r.Kind {
	case api.Evenodd:
		return sure(chain.Recover(r.P, r.all, a, b))
	case api.Rdp:
		return sure(pair.Recover(r.P, r.all, a, b))
	}
	spares, _ := r.roles()
	spares = append(spares, api.RoleSlant) // where all are left, any may be spared
	return sure(triple.Two(r.P, r.all, a, b, spares[0]))
}

func (r rest) three(lost ...int) []api.Column {
	return sure(triple.Three(r.P, r.all, lost[0], lost[1], lost[2]))
}

// blamed tells the first column without which the others don't contradict one
// another. They belong together: no other error is told of them.
func blamed(c api.Code, s api.Stripe) int {
	for lost := range Losses(c, 1) {
		if _, e := Decode(c, s, lost...); e == api.OK {
			return lost[0]
		}
	}
	panic(api.ErrWrong)
}
