package sift_test

import (
	"regexp"
	"slices"
	"strconv"
	"strings"
)

// The form of a text as the chapter gives it, for a reader that follows all
// ways in it at the same time. END stands for the end of a text, NAME, NUMBER
// and NEAR for names, numbers, and numbers of rays and gates.
const grammar = `
rules = END | rule rules
rule = NAME : cond ;
cond = conj | cond or conj
conj = prim | conj and prim
prim = not prim | some NEAR NEAR prim | all NEAR NEAR prim | true | false | ( cond ) | value sign value
sign = < | <= | > | >= | = | !=
value = item | value + item | value - item
item = NUMBER | power | ratio | match | spread | turn | step | kind | ray | gate | tilt | count NEAR NEAR prim
`

// token is a token of a text, and where it begins. It has no text where there
// is no token, and at the end.
type token struct {
	text string
	at   int
}

var (
	gaps   = regexp.MustCompile(`^([ \t\n\r]|#[^\n]*)*`)
	tokens = regexp.MustCompile(`^([a-z][a-z0-9_]*|0|[1-9][0-9]*|<=|>=|!=|[-<>=+():;])`)
	digits = regexp.MustCompile(`^[0-9]+$`)
)

// wantTokens returns the tokens of a text; the last one is the end, or what is
// no token.
func wantTokens(s string) []token {
	var l []token
	for at := 0; ; {
		begin := at + len(gaps.FindString(s[at:]))
		text := tokens.FindString(s[begin:])
		if begin == at && len(l) > 0 && digits.MatchString(l[len(l)-1].text) && strings.Trim(text, "<>=!+-():;") != "" {
			text = ""
		}
		l = append(l, token{text, begin})
		if text == "" {
			return l
		}
		at = begin + len(text)
	}
}

// fits reports whether a token can stand for a part of the form that is not
// made of others.
func fits(part string, t token, text string) bool {
	n, err := strconv.ParseUint(t.text, 10, 32)
	isNumber := digits.MatchString(t.text) && err == nil
	switch part {
	case "END":
		return t.at == len(text)
	case "NAME":
		isWord := regexp.MustCompile(`^[a-z][a-z0-9_]{0,11}$`).MatchString(t.text)
		return isWord && !slices.Contains(language(), t.text)
	case "NUMBER":
		return isNumber && n <= 1000000000
	case "NEAR":
		return isNumber && n <= 3
	}
	return part == t.text
}

// form is a part of the form, and what it can be made of.
type form struct {
	name  string
	parts []string
}

func forms() []form {
	var l []form
	for _, line := range strings.Split(strings.TrimSpace(grammar), "\n") {
		name, made, _ := strings.Cut(line, " = ")
		for _, parts := range strings.Split(made, " | ") {
			l = append(l, form{name, strings.Fields(parts)})
		}
	}
	return l
}

// way is how far a form has been read, and in front of which token it began.
type way struct{ form, read, from int }

// wantFault returns the fault of a text, and whether there is one: it keeps all
// ways in which the tokens so far can begin a text of the form.
func wantFault(s string) (int, bool) {
	all := forms()
	sets := [][]way{{{0, 0, 0}, {1, 0, 0}}}
	for i, t := range wantTokens(s) {
		complete(all, sets)
		var next []way
		for _, w := range sets[i] {
			if f := all[w.form]; w.read < len(f.parts) && fits(f.parts[w.read], t, s) {
				next = append(next, way{w.form, w.read + 1, w.from})
			}
		}
		if len(next) == 0 {
			return t.at, true
		}
		sets = append(sets, next)
	}
	return 0, false
}

// complete adds to the last set the forms that can begin there, and those that
// go on where another one has ended.
func complete(all []form, sets [][]way) {
	last := len(sets) - 1
	known := map[way]bool{}
	for _, w := range sets[last] {
		known[w] = true
	}
	add := func(w way) {
		if !known[w] {
			known[w] = true
			sets[last] = append(sets[last], w)
		}
	}
	for i := 0; i < len(sets[last]); i++ {
		w := sets[last][i]
		f := all[w.form]
		if w.read < len(f.parts) {
			for k := range all {
				if all[k].name == f.parts[w.read] {
					add(way{k, 0, last})
				}
			}
			continue
		}
		for _, v := range sets[w.from] {
			if g := all[v.form]; v.read < len(g.parts) && g.parts[v.read] == f.name {
				add(way{v.form, v.read + 1, v.from})
			}
		}
	}
}
