package impl

import (
	"strconv"
	"strings"
)

const (
	UpSpan  = 1
	UpKeep  = 2
	UpLife  = 3
	MaxId   = 1000
	MaxName = 12
)

const (
	// maxDigits is how long a number in decimal may be; ten digits do not wrap an int64.
	maxDigits = 10
	// headWords counts the word of the kind and the five numbers that each update has.
	headWords = 6
	wordSpan  = "span"
	wordKeep  = "keep"
	wordLife  = "life"
)

type Span struct {
	Id      int64
	Parent  int64
	Service string
	Start   int64
	End     int64
}

type Update struct {
	Dot   Dot
	Stamp Stamp
	Kind  int64
	Trace int64
	Span  Span
	Level int64
}

// change is the part of an update that hangs on its kind; with it, no field
// that is another kind's can be told or read by mistake.
type change interface {
	word() string
	right() bool
}

type spanChange struct{ span Span }

type keepChange struct{}

type lifeChange struct{ level int64 }

func (c spanChange) word() string { return wordSpan }

func (c keepChange) word() string { return wordKeep }

func (c lifeChange) word() string { return wordLife }

func (c spanChange) right() bool { return SpanOk(c.span) }

func (c keepChange) right() bool { return true }

func (c lifeChange) right() bool { return inRange(c.level, 1, MaxCount) }

func SpanOk(s Span) bool {
	return inRange(s.Id, 1, MaxId) &&
		inRange(s.Parent, 0, MaxId) && s.Parent != s.Id &&
		nameOk(s.Service) &&
		timeOk(s.Start) && timeOk(s.End) && s.Start <= s.End
}

func UpdateOk(u Update) bool {
	if !dotOk(u.Dot) || !StampOk(u.Stamp) || u.Stamp.Region != u.Dot.Region {
		return false
	}
	if !inRange(u.Trace, 1, MaxId) {
		return false
	}
	c, ok := changeOf(u)
	return ok && c.right()
}

func UpdateText(u Update) string {
	c, ok := changeOf(u)
	if !ok || !UpdateOk(u) {
		return ""
	}
	words := []string{c.word()}
	words = withDecimals(words, u.Dot.Region, u.Dot.N, u.Stamp.Wall, u.Stamp.Count, u.Trace)
	return strings.Join(withChangeWords(words, c), " ")
}

func ReadUpdate(s string) (Update, bool) {
	words := strings.Split(s, " ")
	if len(words) < headWords {
		return Update{}, false
	}
	n, ok := readDecimals(words[1:headWords])
	if !ok {
		return Update{}, false
	}
	c, ok := readChange(words[0], words[headWords:])
	if !ok {
		return Update{}, false
	}
	u := withChange(Update{
		Dot:   Dot{Region: n[0], N: n[1]},
		Stamp: Stamp{Wall: n[2], Count: n[3], Region: n[0]},
		Trace: n[4],
	}, c)
	if !UpdateOk(u) {
		return Update{}, false
	}
	return u, true
}

// changeOf is false, too, when a field that the kind does not have is not zero.
func changeOf(u Update) (change, bool) {
	switch u.Kind {
	case UpSpan:
		return spanChange{u.Span}, u.Level == 0
	case UpKeep:
		return keepChange{}, u.Span == Span{} && u.Level == 0
	case UpLife:
		return lifeChange{u.Level}, u.Span == Span{}
	}
	return nil, false
}

func withChange(u Update, c change) Update {
	switch x := c.(type) {
	case spanChange:
		u.Kind, u.Span = UpSpan, x.span
	case keepChange:
		u.Kind = UpKeep
	case lifeChange:
		u.Kind, u.Level = UpLife, x.level
	}
	return u
}

func withChangeWords(words []string, c change) []string {
	switch x := c.(type) {
	case spanChange:
		words = withDecimals(words, x.span.Id, x.span.Parent, x.span.Start, x.span.End)
		words = append(words, x.span.Service)
	case lifeChange:
		words = withDecimals(words, x.level)
	}
	return words
}

func readChange(word string, rest []string) (change, bool) {
	switch {
	case word == wordSpan && len(rest) == 5:
		n, ok := readDecimals(rest[:4])
		if !ok {
			return nil, false
		}
		// A piece of the text would be the caller's memory, and hold all of it.
		service := strings.Clone(rest[4])
		return spanChange{Span{Id: n[0], Parent: n[1], Service: service, Start: n[2], End: n[3]}}, true
	case word == wordKeep && len(rest) == 0:
		return keepChange{}, true
	case word == wordLife && len(rest) == 1:
		level, ok := readDecimal(rest[0])
		return lifeChange{level}, ok
	}
	return nil, false
}

func withDecimals(words []string, numbers ...int64) []string {
	for _, n := range numbers {
		words = append(words, strconv.FormatInt(n, 10))
	}
	return words
}

func readDecimals(words []string) ([]int64, bool) {
	var numbers []int64
	for _, w := range words {
		n, ok := readDecimal(w)
		if !ok {
			return nil, false
		}
		numbers = append(numbers, n)
	}
	return numbers, true
}

func readDecimal(word string) (int64, bool) {
	if len(word) == 0 || len(word) > maxDigits || len(word) > 1 && word[0] == '0' {
		return 0, false
	}
	n := int64(0)
	for i := 0; i < len(word); i++ {
		if word[i] < '0' || word[i] > '9' {
			return 0, false
		}
		n = n*10 + int64(word[i]-'0')
	}
	return n, true
}

func nameOk(name string) bool {
	if len(name) == 0 || len(name) > MaxName {
		return false
	}
	for i := 0; i < len(name); i++ {
		if name[i] < 'a' || name[i] > 'z' {
			return false
		}
	}
	return true
}
