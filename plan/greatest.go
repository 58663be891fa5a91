package plan

import "sort"

// greatest returns the greatest number from 0 to most of which something is so, below 0 if it is so of none. What is so of a number has to be so of all less.
func greatest[N ~int](most N, so func(N) bool) N {
	return N(sort.Search(int(most)+1, func(n int) bool { return !so(N(n)) })) - 1
}
