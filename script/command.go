package script

import (
	"strconv"

	"threefold/api"
	"threefold/judge"
)

const maxDigits = 5 // of an N

// command of a name. Its form has a letter for each word behind the name, as the document has them: S and D for a digit, N for a number; if it has more, the last one may stand there any number of times.
type command struct {
	form string
	more bool
	run  func(n []int) (string, error)
}

// commands ask for the player's world when they are run, not when they are made: by then it may be another one.
func (p *player) commands() map[string]command {
	return map[string]command{
		"sites":  {form: "N", more: true, run: p.open},
		"begin":  p.does("SD", func(n []int) error { return p.Begin(n[0], n[1]) }),
		"refuse": p.does("SD", func(n []int) error { return p.Refuse(n[0], n[1]) }),
		"tick":   p.does("S", func(n []int) error { return p.Tick(n[0]) }),
		"go":     p.does("N", func(n []int) error { return p.Deliver(n[0]) }),
		"lose":   p.does("N", func(n []int) error { return p.Drop(n[0]) }),
		"twice":  p.does("N", func(n []int) error { return p.Twice(n[0]) }),
		"link":   p.does("SS", func(n []int) error { return p.Link(n[0], n[1], true) }),
		"break":  p.does("SS", func(n []int) error { return p.Link(n[0], n[1], false) }),
		"cut":    p.does("SN", func(n []int) error { return p.Cut(n[0], n[1]) }),
		"down":   p.does("S", func(n []int) error { return p.Down(n[0]) }),
		"up":     p.does("S", func(n []int) error { return p.Up(n[0]) }),
		"check":  p.does("", func([]int) error { return judge.Check(p.Events(), p.sites) }),
		"all":    p.tells("", func([]int) (string, error) { return strconv.Itoa(p.deliverAll()), nil }),
		"fly":    p.tells("", func([]int) (string, error) { return strconv.Itoa(p.InFlight()), nil }),
		"state":  p.tells("SD", func(n []int) (string, error) { return p.tellState(n[0], n[1]) }),
		"lead":   p.tells("SD", func(n []int) (string, error) { return p.Lead(n[0], n[1]) }),
		"is":     p.tells("S", func(n []int) (string, error) { return p.tellPower(n[0]) }),
		"events": p.tells("", func([]int) (string, error) { return p.tellEvents(), nil }),
	}
}

// tells is a command that needs a world.
func (p *player) tells(form string, tell func(n []int) (string, error)) command {
	return command{form: form, run: func(n []int) (string, error) {
		if p.World == nil {
			return "", api.ErrNone
		}
		return tell(n)
	}}
}

// does is a command that tells no more than that it is done.
func (p *player) does(form string, do func(n []int) error) command {
	return p.tells(form, func(n []int) (string, error) { return done, do(n) })
}

// read tells the numbers of a line's words, if they have the command's form.
func (c command) read(words []string) (numbers []int, is bool) {
	if len(words) < len(c.form) || len(words) > len(c.form) && !c.more {
		return nil, false
	}
	for i, word := range words {
		letter := c.form[min(i, len(c.form)-1)]
		n, is := number(word, most(letter))
		if !is {
			return nil, false
		}
		numbers = append(numbers, n)
	}
	return numbers, true
}

// most digits that a word may have.
func most(letter byte) int {
	if letter == 'N' {
		return maxDigits
	}
	return 1
}

// number is stricter than strconv: no sign, no needless zero.
func number(word string, digits int) (n int, is bool) {
	if word == "" || len(word) > digits || len(word) > 1 && word[0] == '0' {
		return 0, false
	}
	for i := range len(word) {
		if word[i] < '0' || word[i] > '9' {
			return 0, false
		}
		n = 10*n + int(word[i]-'0')
	}
	return n, true
}
