package triple

import (
	"palisade/api"
	"palisade/ring"
)

// prime is that of columns, which are reckoned with as ring does.
type prime int

func (p prime) turned(c api.Column, by int) api.Column { return sure(ring.Turn(int(p), c, by)) }

func (p prime) slackened(c api.Column, by int) api.Column { return sure(ring.Slacken(int(p), c, by)) }

// upon tells columns put upon one another, in new memory, also if there is but one.
func (p prime) upon(l ...api.Column) api.Column { return sure(ring.Sum(int(p), l...)) }
