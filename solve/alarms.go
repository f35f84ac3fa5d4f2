package solve

import (
	"cmp"
	"container/heap"
	"iter"

	"plumbline/api"
)

// queue is a heap of alarms: the first one is that of the least point, and there of the least trap.
type queue []api.Alarm

func (q queue) Len() int {
	return len(q)
}

func (q queue) Less(i, k int) bool {
	return cmp.Or(cmp.Compare(q[i].Point, q[k].Point), cmp.Compare(q[i].Trap, q[k].Trap)) < 0
}

func (q queue) Swap(i, k int) {
	q[i], q[k] = q[k], q[i]
}

func (q *queue) Push(x any) {
	if a, ok := x.(api.Alarm); ok {
		*q = append(*q, a)
	}
}

func (q *queue) Pop() any {
	last := len(*q) - 1
	a := (*q)[last]
	*q = (*q)[:last]
	return a
}

// alarmsOf is all traps of all points, in their order: that in which a map is gone through is any.
func alarmsOf(traps map[api.Point]api.Traps) []api.Alarm {
	var q queue
	for at, set := range traps {
		for trap := range each(set) {
			heap.Push(&q, api.Alarm{Point: at, Trap: trap})
		}
	}
	var alarms []api.Alarm
	for q.Len() > 0 {
		if a, ok := heap.Pop(&q).(api.Alarm); ok {
			alarms = append(alarms, a)
		}
	}
	return alarms
}

// each is the traps of a set.
func each(set api.Traps) iter.Seq[api.Trap] {
	return func(yield func(api.Trap) bool) {
		for trap := api.TrapNan; trap <= api.TrapIndex; trap++ {
			if set>>(trap-1)&1 == 1 && !yield(trap) {
				return
			}
		}
	}
}
