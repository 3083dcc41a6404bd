package script_test

import (
	"errors"
	"fmt"
	"math/rand"
	"regexp"
	"slices"
	"strconv"
	"strings"
	"sync"
	"testing"

	"threefold/api"
	"threefold/judge"
	"threefold/script"
	"threefold/world"
)

// stage is a world with the number of its sites.
type stage struct {
	*world.World
	sites int
}

// rule is a command of P120, again: the lines that are one, and what they do with their numbers.
type rule struct {
	form *regexp.Regexp
	do   func(x stage, n []int) (any, error)
}

func only(err error) (any, error) { return "ok", err }

var names = []string{"nothing", "voted", "committed", "aborted", "precommit", "preabort"}

// rules of all commands but the one that makes a world.
var rules = []rule{
	{line("begin S S"), func(x stage, n []int) (any, error) { return only(x.Begin(n[0], n[1])) }},
	{line("refuse S S"), func(x stage, n []int) (any, error) { return only(x.Refuse(n[0], n[1])) }},
	{line("tick S"), func(x stage, n []int) (any, error) { return only(x.Tick(n[0])) }},
	{line("go N"), func(x stage, n []int) (any, error) { return only(x.Deliver(n[0])) }},
	{line("lose N"), func(x stage, n []int) (any, error) { return only(x.Drop(n[0])) }},
	{line("twice N"), func(x stage, n []int) (any, error) { return only(x.Twice(n[0])) }},
	{line("link S S"), func(x stage, n []int) (any, error) { return only(x.Link(n[0], n[1], true)) }},
	{line("break S S"), func(x stage, n []int) (any, error) { return only(x.Link(n[0], n[1], false)) }},
	{line("cut S N"), func(x stage, n []int) (any, error) { return only(x.Cut(n[0], n[1])) }},
	{line("down S"), func(x stage, n []int) (any, error) { return only(x.Down(n[0])) }},
	{line("up S"), func(x stage, n []int) (any, error) { return only(x.Up(n[0])) }},
	{line("all"), func(x stage, _ []int) (any, error) { return deliverAll(x), nil }},
	{line("fly"), func(x stage, _ []int) (any, error) { return len(x.Flying()), nil }},
	{line("state S S"), tellState},
	{line("lead S S"), func(x stage, n []int) (any, error) { return x.Lead(n[0], n[1]) }},
	{line("is S"), tellPower},
	{line("events"), tellEvents},
	{line("check"), func(x stage, _ []int) (any, error) { return only(judge.Check(x.Events(), x.sites)) }},
}

const numberForm = "(0|[1-9][0-9]{0,4})"

var sitesForm = regexp.MustCompile(`\Asites( ` + numberForm + `)+\z`)

func line(form string) *regexp.Regexp {
	return regexp.MustCompile(`\A` + strings.NewReplacer("S", "([0-9])", "N", numberForm).Replace(form) + `\z`)
}

func deliverAll(x stage) int {
	n := 0
	for ; n < 3000 && len(x.Flying()) > 0; n++ {
		x.Deliver(0)
	}
	return n
}

func tellState(x stage, n []int) (any, error) {
	st, err := x.State(n[0], n[1])
	return fmt.Sprintf("%s %d %d", names[st.Phase], st.Promise, st.Attempt), err
}

func tellPower(x stage, n []int) (any, error) {
	is, err := x.Is(n[0])
	return map[bool]string{true: "up", false: "down"}[is], err
}

func tellEvents(x stage, _ []int) (any, error) {
	if len(x.Events()) == 0 {
		return "nothing", nil
	}
	told := ""
	for i, e := range x.Events() {
		if i > 0 {
			told += ", "
		}
		told += fmt.Sprintf("%d %d %s", e.Site, e.Deal, names[e.Phase])
	}
	return told, nil
}

func numbers(words []string) []int {
	var l []int
	for _, word := range words {
		n, _ := strconv.Atoi(word)
		l = append(l, n)
	}
	return l
}

// said is P120 and P121 again, line by line.
func (x *stage) said(line string) string {
	if sitesForm.MatchString(line) {
		w := numbers(strings.Fields(line)[1:])
		made, err := world.New(w)
		if err != nil {
			return bare(err)
		}
		*x = stage{made, len(w)}
		return "ok"
	}
	for _, r := range rules {
		words := r.form.FindStringSubmatch(line)
		if words == nil {
			continue
		}
		if x.World == nil {
			return none
		}
		told, err := r.do(*x, numbers(words[1:]))
		if err != nil {
			return bare(err)
		}
		return fmt.Sprint(told)
	}
	return text
}

func bare(err error) string {
	for _, e := range []error{api.ErrText, api.ErrBound, api.ErrShape, api.ErrNone, api.ErrFull, api.ErrOff, api.ErrSum, api.ErrHeld, api.ErrSplit} {
		if errors.Is(err, e) {
			return e.Error()
		}
	}
	return "another error: " + err.Error()
}

// likely forms of lines, in each of which S is a site, D a deal, F a frame, B some bytes, W weights.
var likely = slices.Concat(
	slices.Repeat([]string{"go F"}, 25),
	slices.Repeat([]string{"state S D", "lead S D"}, 6),
	slices.Repeat([]string{"begin S D", "tick S", "up S"}, 3),
	[]string{"sites W", "refuse S D", "lose F", "twice F", "link S S", "link S S", "break S S", "cut S B", "cut S B", "down S", "all", "fly", "is S", "events", "check"},
)

func anyLine(r *rand.Rand) string {
	var words []string
	for _, word := range strings.Split(likely[r.Intn(len(likely))], " ") {
		switch word {
		case "S":
			word = fmt.Sprint(r.Intn(4))
		case "D":
			word = fmt.Sprint(r.Intn(3))
		case "F":
			word = fmt.Sprint(r.Intn(6))
		case "B":
			word = fmt.Sprint(r.Intn(40))
		case "W":
			word = anyWeights(r)
		}
		words = append(words, word)
	}
	made := strings.Join(words, " ")
	if r.Intn(12) == 0 {
		return spoilt(r, made)
	}
	return made
}

// anyWeights are mostly some of a world of three or more.
func anyWeights(r *rand.Rand) string {
	var l []string
	for range 3 + r.Intn(4) {
		l = append(l, fmt.Sprint(r.Intn(4)))
	}
	switch r.Intn(8) {
	case 0:
		l = l[:r.Intn(3)]
	case 1:
		l = append(l, "1", "1", "1")
	case 2:
		l[0] = fmt.Sprint(999 + r.Intn(4))
	}
	return strings.Join(l, " ")
}

// spoilt is a line with one byte turned into another one, one more, or one fewer; not always is it wrong then.
func spoilt(r *rand.Rand, line string) string {
	const bytes = "0123456789 abcdefghiklnoprstuwxyz-+.\t\n\x00\xff"
	b := []byte(line)
	at := r.Intn(len(b))
	put := bytes[r.Intn(len(bytes))]
	switch r.Intn(3) {
	case 0:
		b[at] = put
	case 1:
		b = slices.Insert(b, at+r.Intn(2), put)
	default:
		b = slices.Delete(b, at, at+1)
	}
	return string(b)
}

func anyScript(r *rand.Rand) []string {
	var l []string
	if r.Intn(10) > 0 {
		l = append(l, "sites 1 1 1 1")
	}
	for len(l) < api.MaxLines-r.Intn(3) {
		l = append(l, anyLine(r))
	}
	return l
}

// TestAgainstTheChapter: P120 and P121, by scripts with fixed seeds.
func TestAgainstTheChapter(t *testing.T) {
	count := map[string]int{}
	for seed := range int64(4000) {
		lines := anyScript(rand.New(rand.NewSource(seed)))
		var x stage
		for i, got := range answers(t, lines) {
			want := x.said(lines[i])
			if got != want {
				t.Fatalf("seed %d, line %d, %q: %q, want %q", seed, i, lines[i], got, want)
			}
			count[strings.Split(want, " ")[0]]++
			count[want]++
		}
	}
	for _, answer := range slices.Concat([]string{"ok", text, bound, shape, none, off, held, "up", "down", "none", "asking", "preparing", "refused", "done"}, names) {
		if count[answer] < 50 {
			t.Errorf("these scripts show little of %q: %d times", answer, count[answer])
		}
	}
}

// TestSameLines: P122, one behind the other and side by side, whatever was run meanwhile.
func TestSameLines(t *testing.T) {
	for seed := range int64(40) {
		lines := anyScript(rand.New(rand.NewSource(seed)))
		other := anyScript(rand.New(rand.NewSource(seed + 1000)))
		want := answers(t, lines)
		answers(t, other)
		var l [8][]string
		var running sync.WaitGroup
		for i := range l {
			running.Add(1)
			go func() {
				defer running.Done()
				l[i], _ = script.Run(lines)
			}()
		}
		running.Wait()
		for _, got := range l {
			if !slices.Equal(got, want) {
				t.Errorf("seed %d: %q, then %q", seed, want, got)
			}
		}
	}
}

// TestPrefixes: P120, what is answered to a line hangs on those ahead of it alone, each script begins without sites.
func TestPrefixes(t *testing.T) {
	for seed := range int64(10) {
		lines := anyScript(rand.New(rand.NewSource(seed)))
		want := answers(t, lines)
		for n := range lines {
			if got := answers(t, lines[:n]); !slices.Equal(got, want[:n]) {
				t.Errorf("seed %d: the first %d lines: %q, want %q", seed, n, got, want[:n])
			}
		}
	}
}

// TestOnlyRead: P4, and P3 of what lies behind a list's length.
func TestOnlyRead(t *testing.T) {
	lines := anyScript(rand.New(rand.NewSource(7)))
	was := slices.Clone(lines)
	first := answers(t, lines[:50])
	second := answers(t, lines[:50])
	if !slices.Equal(lines, was) {
		t.Errorf("the lines are %q now, were %q", lines, was)
	}
	want := slices.Clone(second)
	for i := range first {
		first[i] = "x"
	}
	for i := range lines {
		lines[i] = "y"
	}
	if !slices.Equal(second, want) {
		t.Errorf("the answers are %q now, were %q", second, want)
	}
}

// TestAnyBytes: P1, by lines of whatever bytes.
func TestAnyBytes(t *testing.T) {
	r := rand.New(rand.NewSource(3))
	for range 300 {
		lines := make([]string, r.Intn(api.MaxLines+1))
		for i := range lines {
			b := make([]byte, r.Intn(12))
			r.Read(b)
			lines[i] = string(b)
		}
		var x stage
		for i, got := range answers(t, lines) {
			if want := x.said(lines[i]); got != want {
				t.Errorf("%q: %q, want %q", lines[i], got, want)
			}
		}
	}
}
