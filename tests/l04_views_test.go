package tests

import (
	"math"
	"math/rand"
	"slices"
	"strconv"
	"strings"
	"testing"
	"unsafe"

	"loop.example/g00368/impl"
)

// spansSet has spans of trace 7, made one behind the other by region 1.
func spansSet(spans ...impl.Span) []impl.Update {
	var l []impl.Update
	for i, s := range spans {
		n := int64(i) + 1
		l = append(l, impl.Update{Dot: impl.Dot{Region: 1, N: n}, Stamp: stamp(n, 0, 1), Kind: impl.UpSpan, Trace: 7, Span: s})
	}
	return l
}

// kin has a span of each pair of Id and Parent, all of one Start and End.
func kin(pairs ...int64) []impl.Update {
	var spans []impl.Span
	for i := 0; i+1 < len(pairs); i += 2 {
		spans = append(spans, span(pairs[i], pairs[i+1], "web", 5, 9))
	}
	return spansSet(spans...)
}

// forestText has Deep and Id of each node, with a colon between, behind a blank.
func forestText(nodes []impl.Node) string {
	var text strings.Builder
	for _, n := range nodes {
		text.WriteString(" " + strconv.FormatInt(n.Deep, 10) + ":" + strconv.FormatInt(n.Span.Id, 10))
	}
	return text.String()
}

func lives(levels ...int64) []impl.Update {
	l := keeps(1, int64(len(levels)))
	for i, level := range levels {
		l[i].Kind, l[i].Trace, l[i].Level = impl.UpLife, 7, level
	}
	return l
}

func TestLevels(t *testing.T) {
	rows := []struct {
		l     []impl.Update
		level int64
	}{
		{nil, 0}, {keeps(1, 3), 0}, {lives(1), 1}, {lives(2), 2}, {lives(1, 2), 2}, {lives(2, 1), 2}, {lives(1, 2, 3), 3}, {lives(3, 3), 3},
		{lives(5, 1, 4), 5}, {lives(impl.MaxCount), impl.MaxCount}, {lives(impl.MaxCount - 1), impl.MaxCount - 1},
		{read(t, "life 1 1 9 0 7 1", "life 2 1 0 0 7 2", "life 3 1 5 0 7 1"), 2},
		{read(t, "life 1 1 0 0 8 4", "life 1 2 1 0 7 1", "life 1 3 2 0 6 9", "span 1 4 3 0 7 5 0 0 0 a"), 1},
	}
	for _, r := range rows {
		if got := impl.LevelOf(r.l, 7); got != r.level {
			t.Errorf("LevelOf(%v, 7) = %d", r.l, got)
		}
		if got := impl.Visible(r.l, 7); got != (r.level%2 == 0) {
			t.Errorf("Visible(%v, 7) = %v", r.l, got)
		}
	}
	for _, trace := range []int64{8, 0, -1, impl.MaxId, impl.MaxId + 1, math.MinInt64, math.MaxInt64} {
		if impl.LevelOf(lives(1), trace) != 0 || !impl.Visible(lives(1), trace) || impl.LevelOf(nil, trace) != 0 || !impl.Visible(nil, trace) {
			t.Errorf("trace %d has no life of its own", trace)
		}
	}
}

func TestKept(t *testing.T) {
	l := read(t, "keep 1 1 0 0 7", "life 1 2 1 0 8 1", "span 1 3 2 0 9 1 0 0 0 a", "life 1 4 3 0 7 1", "keep 2 1 0 0 5", "keep 2 2 1 0 5")
	for trace, want := range map[int64]bool{7: true, 5: true, 8: false, 9: false, 6: false, 0: false, -1: false, 2: false, math.MaxInt64: false} {
		if got := impl.Kept(l, trace); got != want {
			t.Errorf("Kept(.., %d) = %v", trace, got)
		}
		if impl.Kept(nil, trace) {
			t.Errorf("Kept(nil, %d)", trace)
		}
	}
}

func TestSpansOfRows(t *testing.T) {
	rows := []struct {
		l    []impl.Update
		want []impl.Span
	}{
		{nil, nil}, {keeps(1, 4), nil},
		{spansSet(span(9, 0, "c", 0, 1), span(2, 9, "b", 0, 1), span(1000, 2, "a", 0, 1), span(1, 1000, "d", 0, 1)),
			[]impl.Span{span(1, 1000, "d", 0, 1), span(2, 9, "b", 0, 1), span(9, 0, "c", 0, 1), span(1000, 2, "a", 0, 1)}},
		{spansSet(span(3, 0, "old", 5, 9), span(3, 4, "new", 1, 2)), []impl.Span{span(3, 4, "new", 1, 2)}},
		{read(t, "span 1 1 9 0 7 3 0 0 1 late", "span 2 1 8 9 7 3 0 0 1 soon"), []impl.Span{span(3, 0, "late", 0, 1)}},
		{read(t, "span 1 1 8 9 7 3 0 0 1 soon", "span 2 1 9 0 7 3 0 0 1 late"), []impl.Span{span(3, 0, "late", 0, 1)}},
		{read(t, "span 1 1 8 9 7 3 0 0 1 late", "span 2 1 8 8 7 3 0 0 1 soon"), []impl.Span{span(3, 0, "late", 0, 1)}},
		{read(t, "span 1 1 8 8 7 3 0 0 1 soon", "span 2 1 8 9 7 3 0 0 1 late"), []impl.Span{span(3, 0, "late", 0, 1)}},
		{read(t, "span 1 1 8 8 7 3 0 0 1 soon", "span 2 1 8 8 7 3 0 0 1 late"), []impl.Span{span(3, 0, "late", 0, 1)}},
		{read(t, "span 2 1 8 8 7 3 0 0 1 mid", "span 3 1 8 7 7 3 0 0 1 soon", "span 5 1 8 8 7 3 0 0 1 late"), []impl.Span{span(3, 0, "late", 0, 1)}},
		{read(t, "span 1 1 1 0 7 3 0 0 1 a", "span 1 2 2 0 8 3 0 0 1 b", "span 2 1 9 0 6 3 0 0 1 c", "keep 2 2 10 0 7"), []impl.Span{span(3, 0, "a", 0, 1)}},
	}
	for _, r := range rows {
		if got := impl.SpansOf(r.l, 7); !slices.Equal(got, r.want) {
			t.Errorf("SpansOf(%v, 7) = %v", r.l, got)
		}
		if got := impl.SpansOf(r.l, 99); len(got) != 0 {
			t.Errorf("SpansOf(%v, 99) = %v", r.l, got)
		}
	}
	if got := impl.SpansOf(keeps(1, 2), 0); len(got) != 0 {
		t.Errorf("trace 0: %v", got)
	}
}

func TestTracesOf(t *testing.T) {
	l := read(t, "span 1 1 0 0 9 1 0 0 0 a", "keep 1 2 1 0 4", "span 1 3 2 0 1000 1 0 0 0 a", "span 2 1 0 0 9 2 0 0 0 a", "life 2 2 1 0 5 1", "span 2 3 2 0 1 1 0 0 0 a", "span 3 1 0 0 9 1 0 0 0 a")
	if got := impl.TracesOf(l); !slices.Equal(got, []int64{1, 9, 1000}) {
		t.Errorf("TracesOf(%v) = %v", l, got)
	}
	hidden := read(t, "span 1 1 0 0 9 1 0 0 0 a", "life 1 2 1 0 9 1")
	if got := impl.TracesOf(hidden); !slices.Equal(got, []int64{9}) {
		t.Errorf("TracesOf(%v) = %v", hidden, got)
	}
	if len(impl.TracesOf(nil)) != 0 || len(impl.TracesOf(keeps(1, 60))) != 0 {
		t.Error("a trace without a span")
	}
}

func TestForestRows(t *testing.T) {
	rows := []struct {
		l    []impl.Update
		want string
	}{
		{nil, ""}, {keeps(1, 2), ""},
		{kin(5, 0), " 0:5"},
		{kin(5, 9), " 0:5"},
		{kin(9, 0, 5, 0, 7, 0), " 0:5 0:7 0:9"},
		{kin(5, 9, 9, 0), " 0:9 1:5"},
		{kin(1, 0, 2, 1, 3, 2, 4, 1, 5, 3, 6, 0, 7, 6), " 0:1 1:2 2:3 3:5 1:4 0:6 1:7"},
		{kin(1000, 0, 1, 1000), " 0:1000 1:1"},
		// A circle of two, of three and of five: the least Id is its root, wherever it stands.
		{kin(1, 2, 2, 1), " 0:1 1:2"},
		{kin(4, 3, 3, 4), " 0:3 1:4"},
		{kin(1, 2, 2, 3, 3, 1), " 0:1 1:3 2:2"},
		{kin(1, 3, 2, 1, 3, 2), " 0:1 1:2 2:3"},
		{kin(9, 5, 5, 7, 7, 6, 6, 8, 8, 9), " 0:5 1:9 2:8 3:6 4:7"},
		// Below a circle, with an Id above and below those that are on it.
		{kin(5, 6, 6, 5, 9, 6), " 0:5 1:6 2:9"},
		{kin(5, 6, 6, 5, 1, 6), " 0:5 1:6 2:1"},
		{kin(5, 6, 6, 5, 1, 5), " 0:5 1:1 1:6"},
		{kin(5, 6, 6, 5, 1, 6, 2, 1, 9, 2), " 0:5 1:6 2:1 3:2 4:9"},
		// Two circles, a tree ahead of them and one between them.
		{kin(8, 7, 7, 8, 2, 4, 4, 2, 5, 0, 6, 5, 1, 99), " 0:1 0:2 1:4 0:5 1:6 0:7 1:8"},
		// Nobody is 0: a Parent 0 is none of them.
		{kin(1, 0, 2, 0), " 0:1 0:2"},
	}
	for _, r := range rows {
		if got := forestText(impl.ForestOf(r.l, 7)); got != r.want {
			t.Errorf("ForestOf(%v, 7) =%s, not%s", r.l, got, r.want)
		}
	}
}

func TestForestKidsInOrder(t *testing.T) {
	l := spansSet(span(1, 0, "a", 9, 9), span(2, 1, "b", 4, 9), span(3, 1, "c", 3, 9), span(4, 1, "d", 4, 5), span(5, 1, "e", 3, 4), span(6, 1, "f", 0, 0), span(7, 4, "g", 0, 1))
	want := []impl.Node{
		{Span: span(1, 0, "a", 9, 9)}, {Span: span(6, 1, "f", 0, 0), Deep: 1}, {Span: span(3, 1, "c", 3, 9), Deep: 1}, {Span: span(5, 1, "e", 3, 4), Deep: 1},
		{Span: span(2, 1, "b", 4, 9), Deep: 1}, {Span: span(4, 1, "d", 4, 5), Deep: 1}, {Span: span(7, 4, "g", 0, 1), Deep: 2},
	}
	if got := impl.ForestOf(l, 7); !slices.Equal(got, want) {
		t.Errorf("ForestOf = %v", got)
	}
	roots := spansSet(span(3, 0, "a", 0, 9), span(1, 0, "b", 8, 9), span(2, 0, "c", 4, 9))
	if got := forestText(impl.ForestOf(roots, 7)); got != " 0:1 0:2 0:3" {
		t.Errorf("roots go by Id, not by Start:%s", got)
	}
	// The latest span alone says who the parent is.
	moved := spansSet(span(1, 0, "a", 0, 9), span(2, 1, "b", 0, 9), span(3, 2, "c", 0, 9), span(3, 1, "c", 0, 9), span(1, 3, "a", 0, 9))
	if got := forestText(impl.ForestOf(moved, 7)); got != " 0:1 1:2 1:3" {
		t.Errorf("moved spans:%s", got)
	}
}

func TestForestOfAFullSet(t *testing.T) {
	var line, circle []impl.Span
	for id := int64(1); id <= impl.MaxUpdates; id++ {
		line = append(line, span(id, id-1, "a", 0, id))
		circle = append(circle, span(id, id%impl.MaxUpdates+1, "a", 0, id))
	}
	for _, spans := range [][]impl.Span{line, circle} {
		nodes := impl.ForestOf(spansSet(spans...), 7)
		if len(nodes) != impl.MaxUpdates || nodes[0].Span.Id != 1 {
			t.Fatal(forestText(nodes))
		}
		for i, n := range nodes {
			if n.Deep != int64(i) {
				t.Fatal(forestText(nodes))
			}
		}
	}
	if got := impl.Longest(spansSet(line...), 7); len(got) != impl.MaxUpdates || got[59] != impl.MaxUpdates {
		t.Errorf("Longest = %v", got)
	}
	if got := impl.Longest(spansSet(circle...), 7); !slices.Equal(got, []int64{1, 60}) {
		t.Errorf("Longest = %v", got)
	}
	below := append(slices.Clone(circle[:58]), span(59, 60, "a", 0, 1), span(60, 58, "a", 0, 1))
	below[57].Parent = 1
	if nodes := impl.ForestOf(spansSet(below...), 7); len(nodes) != impl.MaxUpdates || nodes[59].Deep+nodes[58].Deep < 3 {
		t.Error(forestText(nodes))
	}
}

func TestLongestRows(t *testing.T) {
	rows := []struct {
		l    []impl.Update
		want []int64
	}{
		{nil, nil}, {keeps(1, 2), nil},
		{spansSet(span(5, 0, "a", 0, 0)), []int64{5}},
		{spansSet(span(1, 0, "a", 0, 9), span(2, 1, "a", 0, 8)), []int64{1}},
		{spansSet(span(1, 0, "a", 0, 9), span(2, 1, "a", 0, 9)), []int64{1}},
		{spansSet(span(1, 0, "a", 0, 9), span(2, 1, "a", 0, 10)), []int64{1, 2}},
		// Of the greatest End more than once the first node, not the least Id or the longest way.
		{spansSet(span(9, 0, "a", 0, 1), span(1, 9, "a", 5, 20), span(4, 9, "a", 2, 20), span(5, 4, "a", 2, 20)), []int64{9, 4}},
		{spansSet(span(1, 0, "a", 0, 7), span(2, 1, "a", 0, 7), span(3, 0, "a", 0, 8), span(4, 3, "a", 0, 8)), []int64{3}},
		{spansSet(span(1, 0, "a", 0, 1), span(2, 1, "a", 0, 2), span(3, 2, "a", 0, 3), span(4, 1, "a", 1, 9), span(5, 4, "a", 1, 9)), []int64{1, 4}},
		{spansSet(span(1, 0, "a", 0, 1), span(2, 1, "a", 0, 2), span(3, 2, "a", 0, 3), span(4, 0, "a", 0, 3), span(6, 4, "a", 1, 4)), []int64{4, 6}},
		{spansSet(span(5, 6, "a", 0, 1), span(6, 5, "a", 0, 2), span(9, 6, "a", 0, 7)), []int64{5, 6, 9}},
		{spansSet(span(3, 77, "a", 0, impl.MaxTime), span(1, 3, "a", 0, impl.MaxTime)), []int64{3}},
		{spansSet(span(3, 0, "a", 0, 9), span(4, 3, "a", 0, 20), span(4, 3, "a", 0, 1)), []int64{3}},
	}
	for _, r := range rows {
		if got := impl.Longest(r.l, 7); !slices.Equal(got, r.want) {
			t.Errorf("Longest(%v, 7) = %v", r.l, got)
		}
		if got := impl.Longest(r.l, 8); len(got) != 0 {
			t.Errorf("Longest(%v, 8) = %v", r.l, got)
		}
	}
}

func TestFoundRows(t *testing.T) {
	l := read(t,
		"span 1 1 0 0 9 1 0 10 20 web", "span 1 2 1 0 3 1 0 10 20 web", "span 1 3 2 0 5 1 0 10 20 web", "life 1 4 3 0 5 1", "span 1 5 4 0 6 1 0 10 20 db",
		"span 1 6 5 0 8 1 0 10 20 web", "life 1 7 6 0 8 1", "life 1 8 7 0 8 2",
		"span 2 1 9 0 4 1 0 0 5 web", "span 2 2 9 1 4 2 0 30 40 web", "span 2 3 9 2 4 3 0 10 20 db", "keep 2 4 9 3 2")
	rows := []struct {
		service  string
		from, to int64
		want     []int64
	}{
		{"web", 10, 20, []int64{3, 8, 9}}, {"web", 0, impl.MaxTime, []int64{3, 4, 8, 9}}, {"web", 12, 13, []int64{3, 8, 9}},
		{"web", 20, 20, []int64{3, 8, 9}}, {"web", 21, 21, nil}, {"web", 21, 29, nil}, {"web", 21, 30, []int64{4}}, {"web", 20, 30, []int64{3, 4, 8, 9}},
		{"web", 10, 10, []int64{3, 8, 9}}, {"web", 9, 9, nil}, {"web", 6, 9, nil}, {"web", 5, 9, []int64{4}}, {"web", 6, 10, []int64{3, 8, 9}},
		{"web", 0, 0, []int64{4}}, {"web", 40, impl.MaxTime, []int64{4}}, {"web", 41, impl.MaxTime, nil}, {"web", impl.MaxTime, impl.MaxTime, nil},
		{"db", 0, impl.MaxTime, []int64{4, 6}}, {"db", 21, 30, nil}, {"auth", 0, impl.MaxTime, nil}, {"", 0, impl.MaxTime, nil}, {"we", 0, impl.MaxTime, nil}, {"webs", 0, impl.MaxTime, nil}, {"Web", 0, 99, nil},
		// Wrong times.
		{"web", 20, 19, nil}, {"web", 1, 0, nil}, {"web", impl.MaxTime, 0, nil}, {"web", -1, 20, nil}, {"web", 10, impl.MaxTime + 1, nil}, {"web", impl.MaxTime + 1, impl.MaxTime + 1, nil},
		{"web", -2, -1, nil}, {"web", 0, -1, nil}, {"web", math.MinInt64, math.MaxInt64, nil}, {"web", math.MaxInt64, math.MinInt64, nil},
	}
	for _, r := range rows {
		if got := impl.Found(l, r.service, r.from, r.to); !slices.Equal(got, r.want) {
			t.Errorf("Found(.., %q, %d, %d) = %v", r.service, r.from, r.to, got)
		}
		if got := impl.Found(nil, r.service, r.from, r.to); len(got) != 0 {
			t.Errorf("Found(nil, %q, %d, %d) = %v", r.service, r.from, r.to, got)
		}
	}
	// A span that a later one of its Id took the place of is not found.
	moved := spansSet(span(1, 0, "web", 10, 20), span(1, 0, "db", 10, 20))
	if got := impl.Found(moved, "web", 0, 99); len(got) != 0 {
		t.Errorf("Found = %v", got)
	}
	// And it is one span that has all of it.
	apart := spansSet(span(1, 0, "web", 50, 60), span(2, 0, "db", 10, 20))
	if got := impl.Found(apart, "web", 10, 20); len(got) != 0 {
		t.Errorf("Found = %v", got)
	}
}

func TestViewsOfWrongSets(t *testing.T) {
	wrong := wrongSets(t)
	spans := kin(1, 0, 2, 1, 3, 4)
	wrong = append(wrong, spans[1:], append(slices.Clone(spans), spans[0]), slices.Concat(spans, read(t, "life 1 4 3 0 7 2", "keep 1 5 9 0 7")))
	for _, l := range wrong {
		for _, trace := range []int64{1, 2, 5, 7, 9, 0, -1} {
			if got := impl.LevelOf(l, trace); got != -1 {
				t.Errorf("LevelOf(%v, %d) = %d", l, trace, got)
			}
			if impl.Visible(l, trace) || impl.Kept(l, trace) {
				t.Errorf("%v shows or keeps %d", l, trace)
			}
			if len(impl.SpansOf(l, trace)) != 0 || len(impl.ForestOf(l, trace)) != 0 || len(impl.Longest(l, trace)) != 0 {
				t.Errorf("%v has spans of %d", l, trace)
			}
		}
		if len(impl.TracesOf(l)) != 0 || len(impl.Found(l, "web", 0, impl.MaxTime)) != 0 {
			t.Errorf("%v has traces", l)
		}
	}
}

// spansByWords has, of each Id, the span that no later one of that Id stands against.
func spansByWords(l []impl.Update, trace int64) []impl.Span {
	var out []impl.Span
	for id := int64(1); id <= 9; id++ { // the Ids that anyUpdate draws
		for _, u := range l {
			mine := u.Kind == impl.UpSpan && u.Trace == trace && u.Span.Id == id
			for _, o := range l {
				mine = mine && !(o.Kind == impl.UpSpan && o.Trace == trace && o.Span.Id == id && impl.StampAhead(u.Stamp, o.Stamp))
			}
			if mine {
				out = append(out, u.Span)
			}
		}
	}
	return out
}

func parentOf(spans []impl.Span, s impl.Span) (impl.Span, bool) {
	i := slices.IndexFunc(spans, func(o impl.Span) bool { return o.Id == s.Parent })
	if i < 0 {
		return impl.Span{}, false
	}
	return spans[i], true
}

func rootByWords(spans []impl.Span, s impl.Span) bool {
	circle := []int64{s.Id}
	at, there := parentOf(spans, s)
	if !there {
		return true
	}
	for there && at.Id != s.Id && len(circle) <= len(spans) {
		circle = append(circle, at.Id)
		at, there = parentOf(spans, at)
	}
	return there && at.Id == s.Id && slices.Min(circle) == s.Id
}

// checkForest asks for what fixes a forest: each span once, the roots at Deep 0 in order, each other span
// below the last one that is less deep, which is its parent, and kids in order.
func checkForest(t *testing.T, spans []impl.Span, nodes []impl.Node) {
	t.Helper()
	var told []impl.Span
	var above []impl.Span
	for _, n := range nodes {
		told = append(told, n.Span)
		if n.Deep < 0 || n.Deep > int64(len(above)) || (n.Deep == 0) != rootByWords(spans, n.Span) {
			t.Fatalf("%v: node %v", spans, n)
		}
		if n.Deep > 0 && above[n.Deep-1].Id != n.Span.Parent {
			t.Fatalf("%v: node %v is not below its parent", spans, n)
		}
		if n.Deep < int64(len(above)) {
			last := above[n.Deep]
			byId := last.Id < n.Span.Id
			if n.Deep == 0 && !byId || n.Deep > 0 && (last.Start > n.Span.Start || last.Start == n.Span.Start && !byId) {
				t.Fatalf("%v: node %v stands behind %v", spans, n, last)
			}
		}
		above = append(above[:n.Deep], n.Span)
	}
	slices.SortFunc(told, func(a, b impl.Span) int { return int(a.Id - b.Id) })
	if !slices.Equal(told, spans) {
		t.Fatalf("the spans %v are told as %v", spans, told)
	}
}

func checkLongest(t *testing.T, nodes []impl.Node, path []int64) {
	t.Helper()
	best := -1
	for i, n := range nodes {
		if best < 0 || n.Span.End > nodes[best].Span.End {
			best = i
		}
	}
	var want []int64
	for i, deep := best, int64(math.MaxInt64); i >= 0; i-- {
		if i == best || nodes[i].Deep == deep-1 {
			want = append(want, nodes[i].Span.Id)
			deep = nodes[i].Deep
		}
	}
	slices.Reverse(want)
	if !slices.Equal(path, want) {
		t.Fatalf("%v has the path %v", nodes, path)
	}
}

// P4: of each number there is the latest span, and a forest has each span once, below its parent.
func TestForestByWords(t *testing.T) {
	r := rand.New(rand.NewSource(13))
	for range 2000 {
		l := anySet(r, anyHistory(r, 12))
		for trace := int64(1); trace <= 3; trace++ {
			spans := impl.SpansOf(l, trace)
			if !slices.Equal(spans, spansByWords(l, trace)) {
				t.Fatalf("SpansOf(%v, %d) = %v", l, trace, spans)
			}
			nodes := impl.ForestOf(l, trace)
			checkForest(t, spans, nodes)
			checkLongest(t, nodes, impl.Longest(l, trace))
		}
	}
}

// P4: all that is seen of a trace hangs on the set alone, whoever joined it; a trace that was ever kept is kept.
func TestViewsHangOnTheSet(t *testing.T) {
	r := rand.New(rand.NewSource(17))
	for range 1000 {
		history := anyHistory(r, 12)
		a, b := anySet(r, history), anySet(r, history)
		ab, _ := impl.Joined(a, b)
		ba, _ := impl.Taken(b, a)
		for trace := int64(1); trace <= 3; trace++ {
			if !slices.Equal(impl.ForestOf(ab, trace), impl.ForestOf(ba, trace)) || !slices.Equal(impl.Longest(ab, trace), impl.Longest(ba, trace)) {
				t.Fatalf("%v and %v are seen in two ways", ab, ba)
			}
			if impl.LevelOf(ab, trace) != max(impl.LevelOf(a, trace), impl.LevelOf(b, trace)) {
				t.Fatalf("LevelOf(%v, %d) = %d", ab, trace, impl.LevelOf(ab, trace))
			}
			if impl.Kept(ab, trace) != (impl.Kept(a, trace) || impl.Kept(b, trace)) {
				t.Fatalf("Kept(%v, %d) = %v", ab, trace, impl.Kept(ab, trace))
			}
		}
		from := r.Int63n(5)
		to := from + r.Int63n(4)
		if got := impl.Found(ab, "web", from, to); !slices.Equal(got, foundByWords(ab, "web", from, to)) || !slices.Equal(got, impl.Found(ba, "web", from, to)) {
			t.Fatalf("Found(%v, web, %d, %d) = %v", ab, from, to, got)
		}
	}
}

func foundByWords(l []impl.Update, service string, from int64, to int64) []int64 {
	var out []int64
	for trace := int64(1); trace <= 3; trace++ {
		hit := false
		for _, s := range spansByWords(l, trace) {
			hit = hit || s.Service == service && s.Start <= to && s.End >= from
		}
		if hit && impl.LevelOf(l, trace)%2 == 0 {
			out = append(out, trace)
		}
	}
	return out
}

func TestViewsAreNewMemory(t *testing.T) {
	room := append(kin(1, 0, 2, 1, 3, 4, 5, 3), keeps(2, 2)...)
	kept := slices.Clone(room)
	l := room[:4]
	spans, nodes, path := impl.SpansOf(l, 7), impl.ForestOf(l, 7), impl.Longest(l, 7)
	traces, found := impl.TracesOf(l), impl.Found(l, "web", 0, 99)
	impl.LevelOf(l, 7)
	impl.Visible(l, 7)
	impl.Kept(l, 7)
	if len(spans) != 4 || len(nodes) != 4 || len(path) != 1 || len(traces) != 1 || len(found) != 1 {
		t.Fatal(spans, nodes, path, traces, found)
	}
	for i := range nodes {
		if unsafe.StringData(spans[i].Service) == unsafe.StringData(l[0].Span.Service) || unsafe.StringData(nodes[i].Span.Service) == unsafe.StringData(l[0].Span.Service) {
			t.Error("Service is that of the argument")
		}
	}
	spans, nodes = spans[:cap(spans)], nodes[:cap(nodes)]
	for i := range spans {
		spans[i] = impl.Span{}
	}
	for i := range nodes {
		nodes[i] = impl.Node{}
	}
	if !slices.Equal(room, kept) {
		t.Errorf("an argument was written: %v", room)
	}
}
