package regex

import "slices"

// last is the step behind all others: the pattern has taken all that it takes.
// It is the first one in the list, so that an Expr that no call made is the pattern of the empty text, which its Text is.
const last = 0

// step is a piece that takes a number or asks for a place, and where it goes on;
// one of any other kind says nothing but where.
type step struct {
	piece piece
	to    []int
}

// put puts a step, and tells its place.
func (e *Expr) put(s step) int {
	e.steps = append(e.steps, s)
	return len(e.steps) - 1
}

// add puts the steps of a piece behind which it goes on at next, and tells where they begin.
// Each piece is put once, however often it is repeated: the program is as long as the text.
func (e *Expr) add(p piece, next int) int {
	switch p.kind {
	case choices:
		var to []int
		for _, x := range p.parts {
			to = append(to, e.add(x, next))
		}
		return e.put(step{to: to})
	case row:
		for _, x := range slices.Backward(p.parts) {
			next = e.add(x, next)
		}
		return next
	case perhaps:
		return e.put(step{to: []int{e.add(p.parts[0], next), next}})
	case often, once:
		again := e.put(step{})
		from := e.add(p.parts[0], again)
		e.steps[again].to = []int{from, next}
		if p.kind == once {
			return from
		}
		return again
	}
	return e.put(step{piece: p, to: []int{next}})
}

// walk goes on from open steps, at a place of a list: which are open at the next place, and whether it came to the last one.
// Each step is gone by once at a place, so that what takes nothing may be repeated without an end.
func (e *Expr) walk(open []int, l []uint32, at int) ([]int, bool) {
	var behind []int
	gone := make([]bool, len(e.steps))
	for len(open) > 0 {
		i := open[len(open)-1]
		open = open[:len(open)-1]
		if i == last {
			return nil, true
		}
		if gone[i] {
			continue
		}
		gone[i] = true
		s := e.steps[i]
		switch s.piece.kind {
		case number, point, set:
			if at < len(l) && s.piece.takes(l[at]) {
				behind = append(behind, s.to...)
			}
		case begin:
			if at == 0 {
				open = append(open, s.to...)
			}
		case end:
			if at == len(l) {
				open = append(open, s.to...)
			}
		default:
			open = append(open, s.to...)
		}
	}
	return behind, false
}
