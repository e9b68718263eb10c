package tree

import (
	"regexp"
	"slices"
	"strconv"
	"strings"
	"testing"

	"servitor/api"
)

// told is an error, and the sign it stands at; known is the sign at which it is seen, when one reads on from the left.
type told struct {
	e         api.Errno
	at, known int
}

// judge tells the first error of rows of signs, by the chapter's grammar and patterns of types.
type judge struct {
	c     *chart
	bound *regexp.Regexp
	value *regexp.Regexp
	block *regexp.Regexp
}

func newJudge() *judge {
	return &judge{
		c:     newGrammar().chart(),
		bound: regexp.MustCompile(`^: ARRAY \[ (\S+) \.\. (\S+) `),
		value: regexp.MustCompile(`^: (ARRAY \[ \S+ \.\. \S+ \] OF )?(\S+) := (- )?([A-Z0-9]\S*) `),
		block: regexp.MustCompile(`^: ([A-Za-z]\S*) `),
	}
}

// numberOf a number's text.
func numberOf(text string) int64 {
	base, digits, found := strings.Cut(text, "#")
	if !found {
		base, digits = "10", text
	}
	b, _ := strconv.Atoi(base)
	n, _ := strconv.ParseInt(digits, b, 64)
	return n
}

// ofType of variables, of the text of a : and what stands behind it; many is how many signs are ahead of it.
func (j *judge) ofType(text string, many int) []told {
	var list []told
	if m := j.block.FindStringSubmatch(text); m != nil && m[1] != "INT" && m[1] != "BOOL" && m[1] != "ARRAY" && blockKinds()[m[1]] == 0 {
		list = append(list, told{9, many + 1, many + 1})
	}
	if m := j.bound.FindStringSubmatch(text); m != nil {
		lo, hi := numberOf(m[1]), numberOf(m[2])
		if hi < lo || hi > 255 {
			list = append(list, told{1, many + 5, many + 5})
		}
	}
	if m := j.value.FindStringSubmatch(text); m != nil {
		truth := m[4] == "TRUE" || m[4] == "FALSE"
		if m[1] != "" || m[2] == "INT" && truth || m[2] == "BOOL" && !truth || m[2] != "INT" && m[2] != "BOOL" {
			list = append(list, told{1, many + 1, many + len(strings.Fields(m[0])) - 1})
		}
	}
	return list
}

// first error of a row of signs, of which from are pushed; false: there is none. How many variables there are, and how deep it is, it doesn't count.
func (j *judge) first(signs []string, from int) (told, bool) {
	fit := j.c.fits(signs, from)
	var list []told
	if fit <= len(signs) {
		list = append(list, told{5, fit, fit})
	}
	section := false
	for i, s := range signs[:min(fit, len(signs))] {
		section = strings.HasPrefix(s, "VAR") || section && s != "END_VAR"
		if section && s == ":" {
			list = append(list, j.ofType(strings.Join(signs[i:min(fit, len(signs))], " ")+" ", i)...)
		}
	}
	if len(list) == 0 {
		return told{}, false
	}
	return slices.MinFunc(list, func(a, b told) int { return a.known - b.known }), true
}

// hold what Parse tells of signs against the judge; from says how many are as they were.
func (j *judge) hold(t *testing.T, signs []string, from int) api.Errno {
	t.Helper()
	text := strings.Join(signs, " ")
	want, wrong := j.first(signs, from)
	if !wrong {
		parsed(t, text)
		return 0
	}
	// Where the end doesn't fit, its place is right behind the last byte.
	col := 1 + len(text)
	if want.at < len(signs) {
		col = 1 + len(strings.Join(append(slices.Clone(signs[:want.at]), ""), " "))
	}
	tryFails(t, text, want.e, 1, col)
	return want.e
}

// otherSigns are some of each kind: each word and sign, names, numbers.
func otherSigns() []string {
	return strings.Fields("PROGRAM END_PROGRAM VAR VAR_INPUT VAR_OUTPUT END_VAR INT BOOL ARRAY OF TRUE FALSE IF THEN ELSIF ELSE END_IF CASE END_CASE FOR TO BY DO END_FOR WHILE END_WHILE REPEAT UNTIL END_REPEAT EXIT RETURN AND OR XOR NOT MOD := <= >= <> .. + - * / ( ) [ ] . , ; : < > = a TON 5 256")
}

// P18.1: the text cut behind each sign, and each sign left out, put in twice, and changed for the one behind it.
func TestCutAndLeftOut(t *testing.T) {
	j := newJudge()
	many := map[api.Errno]int{}
	for _, r := range rows() {
		signs := signsOf(t, r.text)
		j.c.fits(signs, 0)
		for i := range signs {
			many[j.hold(t, signs[:i], 0)]++
		}
		for i := len(signs) - 1; i >= 0; i-- {
			many[j.hold(t, slices.Delete(slices.Clone(signs), i, i+1), 0)]++
			many[j.hold(t, slices.Insert(slices.Clone(signs), i, signs[i]), 0)]++
			if i > 0 {
				swapped := slices.Clone(signs)
				swapped[i-1], swapped[i] = swapped[i], swapped[i-1]
				many[j.hold(t, swapped, 0)]++
			}
		}
	}
	if many[0] < 100 || many[5] < 1000 {
		t.Error(many)
	}
}

// P18.1: each sign in the place of each one, and ahead of each one.
func TestOthersInPlace(t *testing.T) {
	j := newJudge()
	many := map[api.Errno]int{}
	for _, r := range rows() {
		signs := signsOf(t, r.text)
		for i := range len(signs) + 1 {
			ahead := signs[:i]
			j.c.fits(ahead, max(0, i-1))
			j.c.back(i)
			for _, other := range otherSigns() {
				if i < len(signs) {
					changed := slices.Clone(signs)
					changed[i] = other
					many[j.hold(t, changed, i)]++
				}
				many[j.hold(t, slices.Insert(slices.Clone(signs), i, other), i)]++
			}
		}
	}
	if many[0] < 1000 || many[5] < 10000 || many[1] < 50 || many[9] < 20 {
		t.Error(many)
	}
}
