package ct

import (
	"container/heap"

	"skein/api"
)

// entry is a connection that is there, and its place in the queue.
type entry struct {
	conn api.Conn
	at   int
}

// queue is the entries of all zones as a heap: the one that ends first is at hand, so that the clock need not
// go over all of them.
type queue []*entry

func (q queue) first() *entry {
	return q[0]
}

func (q *queue) add(e *entry) {
	heap.Push(q, e)
}

func (q *queue) remove(e *entry) {
	heap.Remove(q, e.at)
}

// put has an entry end at another time.
func (q *queue) put(e *entry, end int) {
	e.conn.Expires = end
	heap.Fix(q, e.at)
}

func (q queue) Len() int {
	return len(q)
}

func (q queue) Less(i, j int) bool {
	return q[i].conn.Expires < q[j].conn.Expires
}

func (q queue) Swap(i, j int) {
	q[i], q[j] = q[j], q[i]
	q[i].at, q[j].at = i, j
}

func (q *queue) Push(x any) {
	e := x.(*entry)
	e.at = len(*q)
	*q = append(*q, e)
}

func (q *queue) Pop() any {
	last := len(*q) - 1
	e := (*q)[last]
	(*q)[last] = nil // a connection that is gone is not kept
	*q = (*q)[:last]
	return e
}
