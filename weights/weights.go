// Package weights: weights: see ../shared/doc/01-weights.md.
package weights

import "threefold/api"

// Check weights.
func Check(w []int) error {
	if len(w) < 1 || len(w) > api.MaxSites {
		return api.ErrShape
	}
	all := 0
	for _, n := range w {
		if n < 0 || n > api.MaxWeight {
			return api.ErrBound
		}
		all += n
	}
	if all == 0 {
		return api.ErrNone
	}
	return nil
}

// Sum of a set's.
func Sum(w []int, set int) (int, error) {
	if err := checkSet(w, set); err != nil {
		return 0, err
	}
	return scale(w)(set), nil
}

// Enough is a set?
func Enough(w []int, set int) (bool, error) {
	if err := checkSet(w, set); err != nil {
		return false, err
	}
	return quorum(w)(set), nil
}

// Needed sites of a set.
func Needed(w []int, set int) (int, error) {
	if err := checkSet(w, set); err != nil {
		return 0, err
	}
	return needed(quorum(w), set), nil
}

// Least quorums.
func Least(w []int) ([]int, error) {
	if err := Check(w); err != nil {
		return nil, err
	}
	isQuorum := quorum(w)
	var least []int
	// From 1 on: the empty set needs all of its sites, yet is no quorum.
	for set := 1; set <= everyone(w); set++ {
		if needed(isQuorum, set) == set {
			least = append(least, set)
		}
	}
	return least, nil
}

func checkSet(w []int, set int) error {
	if err := Check(w); err != nil {
		return err
	}
	if set < 0 || set > everyone(w) {
		return api.ErrBound
	}
	return nil
}

func everyone(w []int) int { return 1<<len(w) - 1 }

// scale holds the weights, so that what asks about many sets names the set alone.
func scale(w []int) func(set int) int {
	return func(set int) int {
		sum := 0
		for site, n := range w {
			if set>>site&1 == 1 {
				sum += n
			}
		}
		return sum
	}
}

// quorum holds what all weigh together, so that it is summed once, however many sets are asked about.
func quorum(w []int) func(set int) bool {
	weigh := scale(w)
	all := weigh(everyone(w))
	return func(set int) bool { return 2*weigh(set) > all }
}

// needed takes one site away at a time: as weights are never below 0, taking more away with it can't make a quorum again.
func needed(isQuorum func(set int) bool, set int) int {
	if !isQuorum(set) {
		return 0
	}
	need := 0
	for rest := set; rest != 0; rest &= rest - 1 {
		lowest := rest & -rest
		if !isQuorum(set &^ lowest) {
			need |= lowest
		}
	}
	return need
}
