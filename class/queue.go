package class

import "skein/api"

// entry is a rule that is there, its tuple, and its place in its queue.
type entry struct {
	rule  api.Rule
	tuple *tuple
	at    int
}

// queue is entries with the same terms, as a heap: however many they are, the first one in the order is at
// hand, and each can be taken out.
type queue []*entry

func (q queue) first() *entry {
	return q[0]
}

func (q queue) Len() int {
	return len(q)
}

func (q queue) Less(i, j int) bool {
	return inOrder(q[i].rule, q[j].rule) < 0
}

func (q queue) Swap(i, j int) {
	q[i], q[j] = q[j], q[i]
	q[i].at, q[j].at = i, j
}

func (q *queue) Push(x any) {
	e := x.(*entry)
	e.at = len(*q)
	*q = append(*q, e)
}

func (q *queue) Pop() any {
	last := len(*q) - 1
	e := (*q)[last]
	(*q)[last] = nil // a rule that is gone is not kept
	*q = (*q)[:last]
	return e
}
