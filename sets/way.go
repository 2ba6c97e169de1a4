package sets

import (
	"palisade/api"
	"palisade/shape"
)

// ways tells, of each role of what is made, who is a member of its cell in a row.
func ways() map[api.Role]func(c code, row int, at place) bool {
	return map[api.Role]func(code, int, place) bool{
		api.RoleRow:      code.inRow,
		api.RoleDiagonal: code.onDiagonal,
		api.RoleSlant:    code.onSlant,
	}
}

func (c code) inRow(row int, at place) bool { return c.holdsData(at.Col) && at.Row == row }

func (c code) onDiagonal(row int, at place) bool {
	diagonal, _ := shape.Diagonal(c.Code, api.At(at))
	if c.Kind == api.Rdp {
		return (c.holdsData(at.Col) || c.holdsRows(at.Col)) && diagonal == row
	}
	return c.holdsData(at.Col) && c.isOn(diagonal, row)
}

func (c code) onSlant(row int, at place) bool {
	slant, _ := shape.Slant(c.Code, api.At(at))
	return c.holdsData(at.Col) && c.isOn(slant, row)
}

// isOn takes the last line for each row: no row is its own, and without it a
// cell on it would not be made up for there.
func (c code) isOn(line, row int) bool { return line == row || line == c.P-1 }

// asker tells what asks a cell whether it is a member of one that is made.
func (c code) asker(made place) func(place) bool {
	role, _ := shape.Role(c.Code, made.Col)
	way := ways()[role]
	return func(at place) bool { return way(c, made.Row, at) }
}
