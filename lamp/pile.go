package lamp

import "container/heap"

// A stop is a corner, and the minutes that some way to it takes.
type stop struct{ corner, minutes int }

// A queue is the stops from which streets are still to be followed.
type queue interface {
	add(s stop)
	// next takes a stop of the fewest minutes, and tells whether there was one.
	next() (stop, bool)
}

// A pile is a queue that is a heap.
type pile []stop

func (p *pile) add(s stop) {
	heap.Push(p, s)
}

func (p *pile) next() (stop, bool) {
	if p.Len() == 0 {
		return stop{}, false
	}
	s, is := heap.Pop(p).(stop)
	return s, is
}

// Len is the number of stops, for the heap.
func (p *pile) Len() int { return len(*p) }

// Less tells whether a stop comes first, for the heap.
func (p *pile) Less(i, j int) bool { return (*p)[i].minutes < (*p)[j].minutes }

// Swap exchanges two stops, for the heap.
func (p *pile) Swap(i, j int) { (*p)[i], (*p)[j] = (*p)[j], (*p)[i] }

// Push puts a stop last, for the heap.
func (p *pile) Push(x any) {
	if s, is := x.(stop); is {
		*p = append(*p, s)
	}
}

// Pop takes the last stop, for the heap.
func (p *pile) Pop() any {
	last := len(*p) - 1
	s := (*p)[last]
	*p = (*p)[:last]
	return s
}
