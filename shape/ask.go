package shape

import (
	"palisade/api"
	"palisade/mod"
)

// asked tells a code under way, if it may be.
func asked(c api.Code) (code, api.Errno) {
	if c.Kind <= api.CodeNone || c.Kind > api.Star {
		goto refused
	}
	if mod.Check(c.P) != api.OK {
		goto refused
	}
	return code{c, kinds[c.Kind]}, api.OK
refused:
	return code{}, api.ErrArg
}

// counted tells how many of something a code has.
func counted(c api.Code, many func(code) int) (int, api.Errno) {
	under, e := asked(c)
	if e != api.OK {
		return 0, e
	}
	return many(under), api.OK
}

// told tells something of what a code has. That it has it is asked first: the
// other methods reckon with what is there, and can't run over then.
func told[A, B any](c api.Code, has func(code, A) bool, tell func(code, A) B, of A) (answer B, e api.Errno) {
	under, e := asked(c)
	if e != api.OK {
		goto refused
	}
	if !has(under, of) {
		e = api.ErrRange
		goto refused
	}
	return tell(under, of), api.OK
refused:
	return answer, e
}

// gathered tells all codes of some kinds.
func gathered(kinds ...api.CodeKind) []api.Code {
	var l []api.Code
	for _, k := range kinds {
		for _, p := range mod.Primes() {
			l = append(l, api.Code{Kind: k, P: p})
		}
	}
	return l
}
