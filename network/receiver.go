package network

import (
	"bytes"
	"slices"

	"arrears/api"
)

// receiver is the network's far end, which takes each notice once.
type receiver struct {
	known    map[int]struct{} // the IDs of all that it accepted
	accepted []api.Accepted   // in the order in which it came; bytes that lie here are never written to
}

// newReceiver is one that has accepted nothing.
func newReceiver() receiver { return receiver{known: map[int]struct{}{}} }

// take accepts a notice, unless one of its ID was accepted before.
func (r *receiver) take(a api.Accepted) {
	if _, there := r.known[a.ID]; there {
		return
	}
	r.known[a.ID] = struct{}{}
	r.accepted = append(r.accepted, a)
}

// list tells what was accepted, in memory of its own.
func (r *receiver) list() []api.Accepted {
	list := slices.Clone(r.accepted)
	for i, a := range list {
		list[i].Body = bytes.Clone(a.Body)
	}
	return list
}
