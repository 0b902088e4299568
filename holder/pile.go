package holder

import "container/heap"

// An agenda is what is still to be looked at.
type agenda interface {
	// add puts a state on the agenda, unless it was there before.
	add(s state)
	// next takes the first state in their order, and tells whether there was one.
	next() (state, bool)
}

// A pile is an agenda that is a heap.
type pile struct {
	states []state
	known  map[state]bool
}

func newPile() *pile {
	return &pile{known: map[state]bool{}}
}

func (p *pile) add(s state) {
	if !p.known[s] {
		p.known[s] = true
		heap.Push(p, s)
	}
}

func (p *pile) next() (state, bool) {
	if p.Len() == 0 {
		return state{}, false
	}
	s, is := heap.Pop(p).(state)
	return s, is
}

// Len is the number of states, for the heap.
func (p *pile) Len() int { return len(p.states) }

// Less tells whether a state comes first, for the heap.
func (p *pile) Less(i, j int) bool { return p.states[i].before(p.states[j]) }

// Swap exchanges two states, for the heap.
func (p *pile) Swap(i, j int) { p.states[i], p.states[j] = p.states[j], p.states[i] }

// Push puts a state last, for the heap.
func (p *pile) Push(x any) {
	if s, is := x.(state); is {
		p.states = append(p.states, s)
	}
}

// Pop takes the last state, for the heap.
func (p *pile) Pop() any {
	last := len(p.states) - 1
	s := p.states[last]
	p.states = p.states[:last]
	return s
}
