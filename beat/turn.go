package beat

import "wardmote/api"

// Turn is whose turn a view is.
func Turn(n, view int) (int, api.Errno) {
	if !isTable(n) || !isBig(view) {
		return 0, api.ErrArg
	}
	return turn(n, view), api.OK
}

// Next is the next view of a node that is not silent.
func Next(n, view int, silent []int) (int, api.Errno) {
	if !isTable(n) || !isBig(view) {
		return 0, api.ErrArg
	}
	var quiet [api.MaxNodes + 1]bool
	for _, node := range silent {
		if !isNode(n, node) {
			return 0, api.ErrArg
		}
		quiet[node] = true
	}
	// Behind n views each node had its turn.
	for next := view + 1; next <= min(view+n, api.MaxBig); next++ {
		if !quiet[turn(n, next)] {
			return next, api.OK
		}
	}
	return 0, api.ErrNone
}

// turn is the node whose turn a view is.
func turn(n, view int) int { return view%n + 1 }

// isTable tells whether there may be so many nodes.
func isTable(n int) bool { return n >= 1 && n <= api.MaxNodes }

// isNode tells whether a number is a node's, of n.
func isNode(n, node int) bool { return node >= 1 && node <= n }

// isBig tells whether a number may be a moment, or a view.
func isBig(n int) bool { return n >= 0 && n <= api.MaxBig }
