package triple

import (
	"slices"

	"palisade/api"
)

// roles is those of the columns that are made, in the order of these columns.
func roles() []api.Role { return []api.Role{api.RoleRow, api.RoleDiagonal, api.RoleSlant} }

// isOther tells whether a role is none of the three.
func isOther(role api.Role) bool { return !slices.Contains(roles(), role) }

// but tells the roles whose columns are there, if that of one of them is lost.
func but(spare api.Role) []api.Role {
	need(!isOther(spare), api.ErrArg)
	return slices.DeleteFunc(roles(), func(role api.Role) bool { return role == spare })
}

// turns tells by what number each role turns a column of data, out of the column's
// own. What is none of the three roles has no such function.
func turns() [api.RoleSlant + 1]func(col int) int {
	return [...]func(int) int{
		api.RoleRow:      func(int) int { return 0 },
		api.RoleDiagonal: func(col int) int { return col },
		api.RoleSlant:    func(col int) int { return -col },
	}
}
