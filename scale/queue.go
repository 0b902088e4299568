package scale

// A queue is the arrears of the years before, those of the oldest year first.
type queue []int

func (q queue) sum() int {
	all := 0
	for _, n := range q {
		all += n
	}
	return all
}

// paid returns what is left of the arrears when money is paid for them, for the oldest ones first.
func (q queue) paid(money int) queue {
	var left queue
	for _, n := range q {
		part := min(n, money)
		money -= part
		left = append(left, n-part)
	}
	return left
}

// after returns the arrears of the last years, with those of one more: those that are older are gone.
func (q queue) after(arrears, years int) queue {
	q = append(q, arrears)
	// The capacity is cut, so that no year is appended in memory that another queue has too.
	return q[max(0, len(q)-years):len(q):len(q)]
}
