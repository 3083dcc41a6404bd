package weights_test

import (
	"math"
	"slices"
	"testing"

	"threefold/api"
	"threefold/weights"
)

// few are all lists of 1 to 4 weights of 0 to 3 that are not all 0.
func few() [][]int {
	var out [][]int
	lists := [][]int{{}}
	for range 4 {
		var longer [][]int
		for _, l := range lists {
			for n := range 4 {
				longer = append(longer, append(slices.Clone(l), n))
			}
		}
		lists = longer
		for _, l := range lists {
			if slices.Max(l) > 0 {
				out = append(out, l)
			}
		}
	}
	return out
}

// many are lists of MaxSites weights.
func many() [][]int {
	return [][]int{
		{1, 1, 1, 1, 1, 1, 1},
		{1, 2, 4, 8, 16, 32, 64},
		{64, 32, 16, 8, 4, 2, 1},
		{1000, 1000, 1000, 1000, 1000, 1000, 1000},
		{0, 0, 0, 0, 0, 0, 1},
		{0, 1000, 0, 999, 0, 1, 0},
		{3, 1, 4, 1, 5, 9, 2},
		{1, 1, 1, 1, 1, 1, 0},
		{6, 1, 1, 1, 1, 1, 1},
		{7, 1, 1, 1, 1, 1, 1},
	}
}

func lists() [][]int { return append(few(), many()...) }

// members lists a set's sites, by division: not as the program does it.
func members(set int) []int {
	var out []int
	for site := 0; set > 0; site++ {
		if set%2 == 1 {
			out = append(out, site)
		}
		set /= 2
	}
	return out
}

func total(w, sites []int) int {
	n := 0
	for _, s := range sites {
		n += w[s]
	}
	return n
}

// outweighs: do these sites weigh more than the others?
func outweighs(w, sites []int) bool {
	others := 0
	for s := range w {
		if !slices.Contains(sites, s) {
			others += w[s]
		}
	}
	return total(w, sites) > others
}

func without(sites []int, site int) []int {
	return slices.DeleteFunc(slices.Clone(sites), func(s int) bool { return s == site })
}

func enough(t *testing.T, w []int, set int) bool {
	t.Helper()
	is, err := weights.Enough(w, set)
	if err != nil {
		t.Fatal(w, set, err)
	}
	return is
}

func TestCheck(t *testing.T) {
	for _, c := range []struct {
		name string
		w    []int
		want error
	}{
		{"one site", []int{1}, nil},
		{"the least and the greatest weight", []int{0, 1000}, nil},
		{"MaxSites sites", []int{1, 2, 3, 4, 5, 6, 7}, nil},
		{"MaxSites sites, all but the last 0", []int{0, 0, 0, 0, 0, 0, 1}, nil},
		{"nil", nil, api.ErrShape},
		{"empty", []int{}, api.ErrShape},
		{"one site too many", []int{1, 1, 1, 1, 1, 1, 1, 1}, api.ErrShape},
		{"far too many", make([]int, 100000), api.ErrShape},
		{"below 0", []int{1, -1}, api.ErrBound},
		{"above MaxWeight", []int{1, 1001}, api.ErrBound},
		{"least int", []int{math.MinInt}, api.ErrBound},
		{"greatest int", []int{math.MaxInt, math.MaxInt}, api.ErrBound},
		{"one site of 0", []int{0}, api.ErrNone},
		{"all are 0", []int{0, 0, 0, 0, 0, 0, 0}, api.ErrNone},
		{"too many ahead of a weight", []int{-1, 1, 1, 1, 1, 1, 1, 1}, api.ErrShape},
		{"too many ahead of all 0", make([]int, 8), api.ErrShape},
		{"a weight ahead of all 0: they come to 0", []int{1, -1, 0}, api.ErrBound},
		{"a weight behind zeros", []int{0, 0, -1}, api.ErrBound},
	} {
		if got := weights.Check(c.w); got != c.want {
			t.Errorf("%s: Check answers %v, not %v", c.name, got, c.want)
		}
	}
}

func TestErrorsOfSets(t *testing.T) {
	for _, c := range []struct {
		name string
		w    []int
		set  int
		want error
	}{
		{"the empty set", []int{2, 1, 1}, 0, nil},
		{"all sites", []int{2, 1, 1}, 7, nil},
		{"all of MaxSites", []int{1, 1, 1, 1, 1, 1, 1}, 127, nil},
		{"a site of weight 0", []int{0, 1}, 1, nil},
		{"a site that there is not", []int{2, 1, 1}, 8, api.ErrBound},
		{"one that there is, one that there is not", []int{2, 1, 1}, 9, api.ErrBound},
		{"a second site of one", []int{1}, 2, api.ErrBound},
		{"site MaxSites", []int{1, 1, 1, 1, 1, 1, 1}, 128, api.ErrBound},
		{"a far site", []int{2, 1, 1}, 1 << 62, api.ErrBound},
		{"greatest int", []int{2, 1, 1}, math.MaxInt, api.ErrBound},
		{"below 0", []int{2, 1, 1}, -1, api.ErrBound},
		{"least int", []int{2, 1, 1}, math.MinInt, api.ErrBound},
		{"no sites, no set", nil, -1, api.ErrShape},
		{"no sites, no site", nil, 1, api.ErrShape},
		{"too many sites", make([]int, 8), -1, api.ErrShape},
		{"a weight", []int{1, 1001}, 4, api.ErrBound},
		{"all 0 ahead of the set", []int{0, 0}, -1, api.ErrNone},
		{"all 0 ahead of a site that there is not", []int{0, 0}, 4, api.ErrNone},
	} {
		n, sumErr := weights.Sum(c.w, c.set)
		is, enoughErr := weights.Enough(c.w, c.set)
		need, neededErr := weights.Needed(c.w, c.set)
		if sumErr != c.want || enoughErr != c.want || neededErr != c.want {
			t.Errorf("%s: Sum, Enough, Needed answer %v, %v, %v, not %v", c.name, sumErr, enoughErr, neededErr, c.want)
		}
		if c.want != nil && (n != 0 || is || need != 0) {
			t.Errorf("%s: with an error stand %d, %v, %d", c.name, n, is, need)
		}
	}
}

func TestErrorsOfLeast(t *testing.T) {
	for _, c := range []struct {
		w    []int
		want error
	}{
		{nil, api.ErrShape},
		{make([]int, 8), api.ErrShape},
		{[]int{-1, 1, 1, 1, 1, 1, 1, 1}, api.ErrShape},
		{[]int{0, -1}, api.ErrBound},
		{[]int{5, 1001}, api.ErrBound},
		{[]int{0}, api.ErrNone},
		{make([]int, 7), api.ErrNone},
	} {
		if l, err := weights.Least(c.w); err != c.want || len(l) != 0 {
			t.Errorf("Least(%v) answers %v, %v, not %v", c.w, l, err, c.want)
		}
	}
}

func TestSetsByHand(t *testing.T) {
	for _, c := range []struct {
		w         []int
		set       int
		sum       int
		is        bool
		need      int
		whatIsNew string
	}{
		{[]int{2, 1, 1}, 3, 3, true, 3, "the document's example"},
		{[]int{2, 1, 1}, 6, 2, false, 0, "just half"},
		{[]int{2, 1, 1}, 1, 2, false, 0, "just half, one site"},
		{[]int{2, 1, 1}, 7, 4, true, 1, "all: only site 0 is needed"},
		{[]int{2, 1, 1}, 0, 0, false, 0, "the empty set"},
		{[]int{1, 1, 1}, 7, 3, true, 0, "a quorum that needs no one site"},
		{[]int{1, 1, 1}, 1, 1, false, 0, "half of an odd number, rounded down"},
		{[]int{2, 1}, 2, 1, false, 0, "less than half of 3"},
		{[]int{0, 5}, 3, 5, true, 2, "a site of weight 0 is not needed"},
		{[]int{0, 5}, 1, 0, false, 0, "a site of weight 0 alone"},
		{[]int{1}, 1, 1, true, 1, "one site"},
		{[]int{1000}, 0, 0, false, 0, "none of one site"},
		{[]int{1000, 1000, 1000, 1000, 1000, 1000, 1000}, 127, 7000, true, 0, "MaxSites of MaxWeight"},
		{[]int{1, 2, 4, 8, 16, 32, 64}, 64, 64, true, 64, "the last of MaxSites"},
		{[]int{1, 2, 4, 8, 16, 32, 64}, 63, 63, false, 0, "all but the last"},
	} {
		n, _ := weights.Sum(c.w, c.set)
		is, _ := weights.Enough(c.w, c.set)
		need, _ := weights.Needed(c.w, c.set)
		if n != c.sum || is != c.is || need != c.need {
			t.Errorf("%s: %v, set %d: %d, %v, %d", c.whatIsNew, c.w, c.set, n, is, need)
		}
	}
}

func TestLeastByHand(t *testing.T) {
	for _, c := range []struct{ w, want []int }{
		{[]int{2, 1, 1}, []int{3, 5}},
		{[]int{1}, []int{1}},
		{[]int{1, 1}, []int{3}},
		{[]int{0, 5, 0}, []int{2}},
		{[]int{1, 0, 1, 1}, []int{5, 9, 12}},
		{[]int{1, 2, 4, 8, 16, 32, 64}, []int{64}},
		{[]int{6, 1, 1, 1, 1, 1, 1}, []int{3, 5, 9, 17, 33, 65}},
	} {
		if l, err := weights.Least(c.w); err != nil || !slices.Equal(l, c.want) {
			t.Errorf("Least(%v) answers %v, %v, not %v", c.w, l, err, c.want)
		}
	}
	l, _ := weights.Least([]int{1, 1, 1, 1, 1, 1, 1})
	if len(l) != 35 || l[0] != 15 || l[34] != 120 {
		t.Errorf("seven of one weight: %d quorums of four: %v", len(l), l)
	}
}

func TestSumAndEnoughOfAllSets(t *testing.T) {
	for _, w := range lists() {
		for set := range 1 << len(w) {
			sites := members(set)
			if n, err := weights.Sum(w, set); err != nil || n != total(w, sites) {
				t.Fatalf("Sum(%v, %d) answers %d, %v", w, set, n, err)
			}
			if is := enough(t, w, set); is != outweighs(w, sites) {
				t.Fatalf("Enough(%v, %d) answers %v", w, set, is)
			}
		}
	}
}

func TestNeededOfAllSets(t *testing.T) {
	for _, w := range lists() {
		for set := range 1 << len(w) {
			var want []int
			for _, s := range members(set) {
				if outweighs(w, members(set)) && !outweighs(w, without(members(set), s)) {
					want = append(want, s)
				}
			}
			if need, err := weights.Needed(w, set); err != nil || !slices.Equal(members(need), want) {
				t.Fatalf("Needed(%v, %d) answers %d, %v, not sites %v", w, set, need, err, want)
			}
		}
	}
}

// smaller: is there a quorum within a set, beside the set?
func smaller(w []int, set int) bool {
	for part := range set {
		if part&set == part && outweighs(w, members(part)) {
			return true
		}
	}
	return false
}

func TestLeastOfAllWeights(t *testing.T) {
	for _, w := range lists() {
		var want []int
		for set := range 1 << len(w) {
			if outweighs(w, members(set)) && !smaller(w, set) {
				want = append(want, set)
			}
		}
		if l, err := weights.Least(w); err != nil || !slices.Equal(l, want) {
			t.Fatalf("Least(%v) answers %v, %v, not %v", w, l, err, want)
		}
	}
}

func TestQuorumsMeet(t *testing.T) {
	for _, w := range lists() {
		var quorums []int
		all := 1<<len(w) - 1
		for set := range all + 1 {
			if !enough(t, w, set) {
				continue
			}
			quorums = append(quorums, set)
			if enough(t, w, all-set) {
				t.Fatalf("%v: set %d and the others are both quorums", w, set)
			}
		}
		if len(quorums) == 0 {
			t.Fatalf("%v: no quorum at all", w)
		}
		for _, a := range quorums {
			for _, b := range quorums {
				if a&b == 0 {
					t.Fatalf("%v: quorums %d and %d have no site in common", w, a, b)
				}
			}
		}
	}
}

func TestJustHalfIsNoQuorumOnEitherSide(t *testing.T) {
	for _, c := range []struct {
		w   []int
		set int
	}{{[]int{2, 1, 1}, 1}, {[]int{1, 1}, 2}, {[]int{1, 1, 1, 1}, 5}, {[]int{0, 1000, 0, 999, 0, 1, 0}, 2}, {[]int{6, 1, 1, 1, 1, 1, 1}, 126}} {
		if enough(t, c.w, c.set) || enough(t, c.w, 1<<len(c.w)-1-c.set) {
			t.Errorf("%v: set %d is half, and a quorum", c.w, c.set)
		}
	}
}

func TestArgumentsAreOnlyRead(t *testing.T) {
	memory := []int{2, 1, 1, 1000, 1000}
	kept := slices.Clone(memory)
	w := memory[:3]
	for _, behind := range []int{1000, -1} {
		memory[3], kept[3] = behind, behind
		is := enough(t, w, 3)
		n, _ := weights.Sum(w, 7)
		need, _ := weights.Needed(w, 7)
		l, _ := weights.Least(w)
		if err := weights.Check(w); err != nil || !is || n != 4 || need != 1 || !slices.Equal(l, []int{3, 5}) {
			t.Error("what lies behind the list's length shows:", err, is, n, need, l)
		}
		if !slices.Equal(memory, kept) {
			t.Error("the argument's memory was written:", memory)
		}
	}
}

func TestAnswersAreNewMemory(t *testing.T) {
	w := []int{1, 1, 1}
	first, _ := weights.Least(w)
	for i := range first {
		first[i] = -1
	}
	if second, _ := weights.Least(w); !slices.Equal(second, []int{3, 5, 6}) || !slices.Equal(w, []int{1, 1, 1}) {
		t.Error("what was written into an answer shows:", second, w)
	}
}
