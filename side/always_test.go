package side_test

import (
	"errors"
	"math"
	"math/rand"
	"reflect"
	"runtime"
	"slices"
	"sync"
	"testing"
	"time"

	"threefold/api"
	"threefold/judge"
	"threefold/side"
	"threefold/weights"
)

func anyWeights(r *rand.Rand) []int {
	w := make([]int, 1+r.Intn(api.MaxSites))
	for weights.Check(w) != nil {
		for s := range w {
			w[s] = r.Intn(4)
		}
	}
	return w
}

// anyScript mostly delivers, begins and ticks.
func anyScript(r *rand.Rand, sites, steps int) []int {
	var l []int
	for range steps {
		q, kind := r.Intn(sites)+7*r.Intn(3)+42*r.Intn(20), r.Intn(7)
		if r.Intn(4) == 0 {
			kind = []int{begin, begin, begin, tick, tick, up, r.Intn(16)}[r.Intn(7)]
		}
		switch r.Intn(30) {
		case 0:
			q = r.Intn(math.MaxInt / 16)
		case 1:
			q = -1 - r.Intn(100)
		}
		l = append(l, move(q, kind))
	}
	return l
}

// anyScripts are of very different lengths, so that which is done first hangs on how many work.
func anyScripts(r *rand.Rand, sites int) [][]int {
	scripts := make([][]int, r.Intn(most+1))
	for at := range scripts {
		scripts[at] = anyScript(r, sites, []int{0, 1, 10, 100, 400}[r.Intn(5)])
	}
	return scripts
}

// P110 and P111, by scripts with fixed seeds: each as if it were played alone, by however many.
func TestPlaysAreTheSame(t *testing.T) {
	ends := [api.PreAbort + 1]int{}
	for seed := range int64(40) {
		r := rand.New(rand.NewSource(seed))
		w := anyWeights(r)
		scripts := anyScripts(r, len(w))
		var want []side.Told
		for _, script := range scripts {
			told := alone(t, w, script)
			want = append(want, told)
			for _, e := range told.Events {
				ends[e.Phase]++
			}
			if err := judge.Check(told.Events, len(w)); err != nil {
				t.Fatal(err)
			}
		}
		for workers := 1; workers <= api.Workers; workers++ {
			plays(t, w, scripts, workers, want...)
		}
	}
	if ends[api.Committed] < 100 || ends[api.Aborted] < 100 {
		t.Errorf("these plays show little: %v", ends)
	}
}

// P111: also where the first scripts take the longest, or the last ones, again and again.
func TestPlaysAreTheSameInAnyOrder(t *testing.T) {
	r := rand.New(rand.NewSource(11))
	w := []int{1, 2, 1, 0, 3}
	var scripts [][]int
	for n := range most {
		scripts = append(scripts, anyScript(r, len(w), 5*n))
	}
	var want []side.Told
	for _, script := range scripts {
		want = append(want, alone(t, w, script))
	}
	for range 3 {
		for workers := 1; workers <= api.Workers; workers++ {
			plays(t, w, scripts, workers, want...)
		}
		slices.Reverse(scripts)
		slices.Reverse(want)
	}
}

// P111: frames and the first fault, again and again.
func TestDecodesAreTheSame(t *testing.T) {
	all := frames(most)
	good := texts(t, all)
	bad := noFrames(t)
	kinds := []error{api.ErrText, api.ErrSum, api.ErrBound}
	for seed := range int64(300) {
		r := rand.New(rand.NewSource(seed))
		order := r.Perm(most)[:r.Intn(most+1)]
		l, want, first := make([]string, len(order)), make([]api.Frame, len(order)), -1
		var kind error
		for at, n := range order {
			l[at], want[at] = good[n], all[n]
			if r.Intn(60) == 0 {
				is := kinds[r.Intn(3)]
				l[at] = bad[is][r.Intn(len(bad[is]))]
				if first < 0 {
					first, kind = at, is
				}
			}
		}
		for workers := 1; workers <= api.Workers; workers++ {
			if first < 0 {
				decodes(t, l, workers, want...)
			} else {
				faulty(t, l, workers, first, kind)
			}
		}
	}
}

// P2: calls beside each other have the same answers.
func TestCallsSideBySide(t *testing.T) {
	r := rand.New(rand.NewSource(5))
	w := []int{1, 1, 2, 1}
	scripts := [][]int{anyScript(r, 4, 300), anyScript(r, 4, 20), nil, anyScript(r, 4, 200), anyScript(r, 4, 100)}
	all := frames(30)
	l := texts(t, all)
	want, err := side.Plays(w, scripts, 1)
	if err != nil {
		t.Fatal(err)
	}
	const calls = 32
	var played [calls][]side.Told
	var decoded [calls][]api.Frame
	var errs [calls]error
	var group sync.WaitGroup
	for n := range calls {
		group.Go(func() {
			var e1, e2 error
			played[n], e1 = side.Plays(w, scripts, 1+n%api.Workers)
			decoded[n], e2 = side.Decodes(l, 1+n/2%api.Workers)
			errs[n] = errors.Join(e1, e2)
		})
	}
	group.Wait()
	for n := range calls {
		if errs[n] != nil || !slices.EqualFunc(played[n], want, same) || !slices.Equal(decoded[n], all) {
			t.Errorf("call %d: %v, %v, %v", n, played[n], decoded[n], errs[n])
		}
	}
}

// P4: what is handed over is only read, and not behind its length.
func TestListsAreOnlyRead(t *testing.T) {
	r := rand.New(rand.NewSource(2))
	w := append(make([]int, 0, 9), 1, 1, 1, -7, -7)
	scripts := [][]int{anyScript(r, 3, 50), anyScript(r, 3, 90), {begin, 0, 0, 99, 99}, {begin}}
	l := append(texts(t, frames(4)), "what")
	wasW, wasL := slices.Clone(w), slices.Clone(l)
	var was [][]int
	for _, script := range scripts {
		was = append(was, slices.Clone(script))
	}
	given := [][]int{scripts[0], scripts[1], scripts[2][:3], scripts[3]}
	for _, workers := range some {
		plays(t, w[:3], given[:3], workers, alone(t, w[:3], was[0]), alone(t, w[:3], was[1]), alone(t, w[:3], was[2][:3]))
		decodes(t, l[:4], workers, frames(4)...)
		faulty(t, l, workers, 4, api.ErrText)
	}
	if !slices.Equal(w, wasW) || !slices.Equal(l, wasL) || !reflect.DeepEqual(scripts, was) {
		t.Errorf("%v, %v, %q", w, scripts, l)
	}
}

// P4: what is answered is new memory, each list of it: what is written into one shows nowhere else.
func TestAnswersAreNewMemory(t *testing.T) {
	r := rand.New(rand.NewSource(4))
	w := []int{1, 1, 1}
	script := anyScript(r, 3, 200)
	want := alone(t, w, script)
	if len(want.Events) == 0 {
		t.Fatal("this play shows little")
	}
	l := texts(t, frames(8))
	for _, workers := range some {
		got, _ := side.Plays(w, slices.Repeat([][]int{script}, 20), workers)
		decoded, _ := side.Decodes(l, workers)
		for at := range got {
			if !same(got[at], want) {
				t.Fatalf("play %d: %v, want %v", at, got[at], want)
			}
			scribble(got[at].Answers, -99)
			scribble(got[at].Events, got[0].Events[0])
		}
		scribble(got, side.Told{})
		scribble(decoded, api.Frame{})
		plays(t, w, [][]int{script}, workers, want)
		decodes(t, l, workers, frames(8)...)
	}
}

// scribble writes into all of a list's memory, also behind its length.
func scribble[T any](l []T, x T) {
	l = l[:cap(l)]
	for at := range l {
		l[at] = x
	}
}

// A later change of what was handed over does not show in an answer.
func TestNothingIsKept(t *testing.T) {
	w, scripts, l := []int{1, 1, 1}, [][]int{{begin, 0, 0}, {0, tick, begin}}, texts(t, frames(3))
	told, err := side.Plays(w, scripts, 2)
	decoded, err2 := side.Decodes(l, 2)
	want := []side.Told{alone(t, w, scripts[0]), alone(t, w, scripts[1])}
	scribble(w, 5)
	scribble(scripts[0], 7)
	scribble(scripts, nil)
	scribble(l, "")
	if err != nil || err2 != nil || !slices.EqualFunc(told, want, same) || !slices.Equal(decoded, frames(3)) {
		t.Errorf("%v, %v, %v, %v", told, err, decoded, err2)
	}
}

// None of the workers is left behind. (One that has ended may be counted for a moment.)
func TestNobodyIsLeftBehind(t *testing.T) {
	before := runtime.NumGoroutine()
	for workers := -1; workers <= api.Workers+1; workers++ {
		side.Plays([]int{1, 1}, [][]int{{begin, 0, 0}, nil, {0}}, workers)
		side.Plays([]int{0}, [][]int{{begin}}, workers)
		side.Plays([]int{1}, nil, workers)
		side.Plays([]int{1}, make([][]int, most+1), workers)
		side.Decodes([]string{"what", "", ""}, workers)
		side.Decodes(texts(t, frames(40)), workers)
		side.Decodes(nil, workers)
	}
	for range 100 {
		if runtime.NumGoroutine() <= before {
			return
		}
		time.Sleep(10 * time.Millisecond)
	}
	t.Errorf("%d run, %d did", runtime.NumGoroutine(), before)
}
