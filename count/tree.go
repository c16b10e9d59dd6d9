package count

import (
	"roundelay/api"
	"roundelay/loom"
)

// tree is a counter in a memory. Its nodes are numbered from 1 on, level by
// level; the children of the node v are 2v and 2v + 1.
type tree struct {
	first     int           // the leaf of the thread 0
	most      uint64        // the greatest number that a register keeps
	leaves    loom.Placed   // the words of the threads
	registers []loom.Placed // those of the nodes above the leaves, from the node 1 on
	counted   []uint64      // by threads: how often each has counted, which no other one sees
}

// Invoke returns the operation for which a call asks.
func (t *tree) Invoke(c api.Call) (loom.Operation, api.Errno) {
	switch c.Kind {
	case 0:
		number := t.counted[c.Thread] + 1
		if uint64(len(t.counted))*number > t.most {
			return nil, api.ErrFull
		}
		return &count{
			tree:     t,
			thread:   c.Thread,
			node:     t.first + c.Thread,
			machines: []loom.Operation{t.mark(c.Thread, number)},
		}, api.OK
	case 1:
		// The top always needs a machine: it has a register, or is the leaf of the only thread.
		return read{machine: t.examine(1)[0]}, api.OK
	}
	return nil, api.ErrKind
}

// mark returns the machine that writes the leaf of a thread.
func (t *tree) mark(thread int, number uint64) loom.Operation {
	return machine(t.leaves, api.Call{Kind: 1, A: uint64(thread), B: number})
}

// raise returns the machine that writes to the register of a node. The sum is
// one that it can keep: no thread counts further than its share of that.
func (t *tree) raise(node int, sum uint64) loom.Operation {
	return machine(t.registers[node-1], api.Call{Kind: 0, A: sum})
}

// examine returns the machines that examine nodes, one after the other: none
// for a leaf that no thread has, at which there is nothing to be counted.
func (t *tree) examine(nodes ...int) []loom.Operation {
	var l []loom.Operation
	for _, node := range nodes {
		thread := node - t.first
		switch {
		case thread < 0:
			l = append(l, machine(t.registers[node-1], api.Call{Kind: 1}))
		case thread < len(t.counted):
			l = append(l, machine(t.leaves, api.Call{Kind: 0, A: uint64(thread)}))
		}
	}
	return l
}

// machine returns the operation of a call that is known to have no error.
func machine(o loom.Placed, c api.Call) loom.Operation {
	operation, _ := o.Invoke(c)
	return operation
}

// count is an operation that writes the leaf of its thread, and then, for each
// node above it, the sum of both children.
type count struct {
	tree     *tree
	thread   int
	node     int              // the one that it has reached
	machines []loom.Operation // those with work left before it goes on, the present one first
	summing  bool             // whether they examine the children of the node
	sum      uint64           // what the examined ones had
}

// Step makes an access of the present machine.
func (o *count) Step(t loom.Turn) (api.Answer, bool) {
	answer, done := o.machines[0].Step(t)
	if done {
		o.sum += answer.Val
		o.machines = o.machines[1:]
	}
	if len(o.machines) == 0 {
		o.goOn()
	}
	if len(o.machines) > 0 {
		return api.Answer{}, false
	}
	o.tree.counted[o.thread]++
	return api.Answer{}, true
}

// goOn writes the sum to the node if its children were examined; otherwise the
// node was written, and it goes up, unless it has reached the top.
func (o *count) goOn() {
	switch {
	case o.summing:
		o.machines = []loom.Operation{o.tree.raise(o.node, o.sum)}
		o.summing = false
	case o.node > 1:
		o.node /= 2
		o.machines = o.tree.examine(2*o.node, 2*o.node+1)
		o.summing = true
		o.sum = 0
	}
}

// read is an operation that examines the top of the tree. It hides the key of
// that machine: a counter is not its topmost register.
type read struct {
	machine loom.Operation
}

// Step makes an access of the machine.
func (o read) Step(t loom.Turn) (api.Answer, bool) {
	return o.machine.Step(t)
}
