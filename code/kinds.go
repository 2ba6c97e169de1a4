package code

import (
	"iter"

	"palisade/api"
	"palisade/evenodd"
	"palisade/rdp"
	"palisade/star"
)

// encoders tells, of each Kind, what makes the columns behind those of data.
func encoders() map[api.CodeKind]func(int, []api.Column) ([]api.Column, api.Errno) {
	return map[api.CodeKind]func(int, []api.Column) ([]api.Column, api.Errno){
		api.Evenodd: evenodd.Encode,
		api.Rdp:     rdp.Encode,
		api.Star:    star.Encode,
	}
}

// seekers tells, of each Kind, what goes over the cells that are not as they are
// made. RDP makes its diagonals of the rows that are there, right or wrong: what
// it would make of the data alone says nothing of them.
func seekers() map[api.CodeKind]func(stripe) iter.Seq[api.At] {
	return map[api.CodeKind]func(stripe) iter.Seq[api.At]{
		api.Evenodd: stripe.unlike,
		api.Rdp:     func(s stripe) iter.Seq[api.At] { return rdp.Wrong(s.P, s.columns) },
		api.Star:    stripe.unlike,
	}
}
