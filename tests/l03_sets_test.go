package tests

import (
	"math"
	"math/rand"
	"slices"
	"testing"
	"unsafe"

	"loop.example/g00368/impl"
)

func read(t *testing.T, texts ...string) []impl.Update {
	t.Helper()
	var l []impl.Update
	for _, s := range texts {
		u, ok := impl.ReadUpdate(s)
		if !ok {
			t.Fatalf("%q is no update", s)
		}
		l = append(l, u)
	}
	return l
}

// keeps has n updates of one region, with a Trace of that region.
func keeps(region int64, n int64) []impl.Update {
	var l []impl.Update
	for i := int64(1); i <= n; i++ {
		l = append(l, impl.Update{Dot: impl.Dot{Region: region, N: i}, Stamp: stamp(i, 0, region), Kind: impl.UpKeep, Trace: region})
	}
	return l
}

func together(lists ...[]impl.Update) []impl.Update {
	return slices.Concat(lists...)
}

// anyUpdate draws from few traces and numbers, so that updates of many regions meet.
func anyUpdate(r *rand.Rand, region int64, n int64) impl.Update {
	u := impl.Update{Dot: impl.Dot{Region: region, N: n}, Trace: 1 + r.Int63n(3)}
	u.Kind = []int64{impl.UpSpan, impl.UpSpan, impl.UpSpan, impl.UpSpan, impl.UpKeep, impl.UpLife}[r.Intn(6)]
	switch u.Kind {
	case impl.UpSpan:
		id, start := 1+r.Int63n(9), r.Int63n(4)
		parent := r.Int63n(11)
		if parent == id {
			parent = 0
		}
		u.Span = span(id, parent, []string{"web", "db", "auth"}[r.Intn(3)], start, start+r.Int63n(5))
	case impl.UpLife:
		u.Level = 1 + r.Int63n(4)
	}
	return u
}

// anyHistory has all that the regions ever made: a set is a beginning of it, region by region.
func anyHistory(r *rand.Rand, most int) [][]impl.Update {
	var all [][]impl.Update
	for region := int64(1); region <= impl.MaxRegions; region++ {
		var l []impl.Update
		clock := stamp(r.Int63n(3), 0, region)
		for n := range r.Intn(most + 1) {
			u := anyUpdate(r, region, int64(n)+1)
			clock, _ = impl.Ticked(clock, r.Int63n(20))
			u.Stamp = clock
			l = append(l, u)
		}
		all = append(all, l)
	}
	return all
}

func anySet(r *rand.Rand, history [][]impl.Update) []impl.Update {
	var l []impl.Update
	for _, h := range history {
		l = append(l, h[:r.Intn(len(h)+1)]...)
	}
	return l
}

// wrongSets has one fault in each.
func wrongSets(t *testing.T) [][]impl.Update {
	t.Helper()
	all := [][]impl.Update{
		keeps(1, 61), together(keeps(1, 30), keeps(2, 31)), together(keeps(1, 12), keeps(2, 12), keeps(3, 12), keeps(4, 12), keeps(5, 13)),
		read(t, "keep 1 2 5 0 1"),
		read(t, "keep 1 1 5 0 1", "keep 1 3 6 0 1"),
		read(t, "keep 1 1 5 0 1", "keep 2 2 6 0 1"),
		read(t, "keep 1 1 5 0 1", "keep 2 1 6 0 1", "keep 2 3 7 0 1"),
		read(t, "keep 1 1 5 0 1", "keep 1 1 5 0 1"),
		read(t, "keep 1 1 5 0 1", "keep 1 1 6 0 1"),
		read(t, "keep 1 2 6 0 1", "keep 1 1 5 0 1"),
		read(t, "keep 1 2 5 0 1", "keep 1 1 6 0 1"),
		read(t, "keep 2 1 5 0 1", "keep 1 1 6 0 1"),
		read(t, "keep 1 1 5 0 1", "keep 2 1 5 0 1", "keep 1 2 6 0 1"),
		read(t, "keep 1 1 5 0 1", "keep 2 1 5 0 1", "keep 1 1 6 0 1"),
		read(t, "keep 1 1 5 0 1", "keep 1 2 5 0 1"),
		read(t, "keep 1 1 5 3 1", "keep 1 2 5 3 1"),
		read(t, "keep 1 1 5 3 1", "keep 1 2 5 2 1"),
		read(t, "keep 1 1 5 3 1", "keep 1 2 4 9 1"),
		read(t, "keep 1 1 1 0 1", "keep 2 1 5 0 1", "keep 2 2 5 0 1"),
		read(t, "keep 1 1 1 0 1", "keep 1 2 3 0 1", "keep 1 3 2 0 1", "keep 1 4 4 0 1"),
	}
	for _, u := range wrongUpdates() {
		all = append(all, []impl.Update{u}, []impl.Update{keeps(1, 1)[0], u})
	}
	for _, spoil := range []func(u *impl.Update){
		func(u *impl.Update) { u.Dot.N = 0 },
		func(u *impl.Update) { u.Dot.N = math.MinInt64 },
		func(u *impl.Update) { u.Trace = 0 },
		func(u *impl.Update) { u.Kind = 4 },
		func(u *impl.Update) { u.Level = 1 },
		func(u *impl.Update) { u.Stamp.Region = 3 },
		func(u *impl.Update) { u.Span.End = 1 },
	} {
		for i := range 4 {
			l := together(keeps(1, 2), keeps(2, 2))
			spoil(&l[i])
			all = append(all, l)
		}
	}
	return all
}

// setByWords holds a list against the words of the document, pair by pair.
func setByWords(l []impl.Update) bool {
	right := len(l) <= impl.MaxUpdates
	for i, u := range l {
		right = right && impl.UpdateOk(u)
		first, next := u.Dot.N == 1, true
		for j, other := range l {
			right = right && (i >= j || impl.DotAhead(u.Dot, other.Dot))
			if other.Dot.Region == u.Dot.Region && other.Dot.N+1 == u.Dot.N {
				first = true
				next = impl.StampAhead(other.Stamp, u.Stamp)
			}
		}
		right = right && first && next
	}
	return right
}

func TestDotAhead(t *testing.T) {
	rising := dots(math.MinInt64, 9, -1, math.MaxInt64, 0, math.MinInt64, 0, -1, 0, 0, 1, 1, 1, 2, 1, 9, 2, 1, 2, 2, 5, impl.MaxCount, 6, 0, math.MaxInt64, math.MinInt64, math.MaxInt64, math.MaxInt64)
	for i, a := range rising {
		for j, b := range rising {
			if got := impl.DotAhead(a, b); got != (i < j) {
				t.Errorf("DotAhead(%v, %v) = %v", a, b, got)
			}
		}
	}
}

func TestSetOk(t *testing.T) {
	right := [][]impl.Update{
		nil, {}, keeps(1, 1), keeps(5, 1), keeps(1, 60), keeps(5, 60), together(keeps(1, 30), keeps(4, 30)),
		together(keeps(1, 12), keeps(2, 12), keeps(3, 12), keeps(4, 12), keeps(5, 12)),
		read(t, "keep 1 1 5 0 1", "keep 1 2 5 1 1", "keep 1 3 6 0 1"),
		read(t, "keep 1 1 9 9 1", "keep 2 1 3 0 1", "keep 3 1 3 0 1", "keep 3 2 1000000000 1000000 1"),
		read(t, "span 2 1 0 0 7 1 0 0 0 a", "life 2 2 0 1 7 5", "span 2 3 0 2 7 1 0 0 0 a"),
	}
	for _, l := range right {
		if !impl.SetOk(l) || !setByWords(l) {
			t.Errorf("%v is refused", l)
		}
	}
	for _, l := range wrongSets(t) {
		if impl.SetOk(l) || setByWords(l) {
			t.Errorf("%v is accepted", l)
		}
	}
}

// P3: of each region a set has all from the first on. A right set with one thing moved is judged by the words alone.
func TestSetOkByWords(t *testing.T) {
	r := rand.New(rand.NewSource(3))
	for range 20000 {
		l := anySet(r, anyHistory(r, 4))
		if len(l) == 0 {
			continue
		}
		i, j := r.Intn(len(l)), r.Intn(len(l))
		switch r.Intn(6) {
		case 0:
			l[i], l[j] = l[j], l[i]
		case 1:
			l = slices.Delete(l, i, i+1)
		case 2:
			l = slices.Insert(l, i, l[j])
		case 3:
			l[i].Stamp.Wall, l[i].Stamp.Count = l[j].Stamp.Wall, l[j].Stamp.Count
		case 4:
			l[i].Dot.N += r.Int63n(3) - 1
		}
		if got := impl.SetOk(l); got != setByWords(l) {
			t.Fatalf("SetOk(%v) = %v", l, got)
		}
	}
}

func TestVectorOf(t *testing.T) {
	rows := []struct {
		l    []impl.Update
		want []impl.Dot
	}{
		{nil, nil}, {[]impl.Update{}, nil},
		{keeps(3, 1), dots(3, 1)}, {keeps(5, 60), dots(5, 60)},
		{together(keeps(1, 2), keeps(4, 7)), dots(1, 2, 4, 7)},
		{together(keeps(1, 12), keeps(2, 11), keeps(3, 10), keeps(4, 9), keeps(5, 8)), dots(1, 12, 2, 11, 3, 10, 4, 9, 5, 8)},
	}
	for _, r := range rows {
		if got := impl.VectorOf(r.l); !slices.Equal(got, r.want) {
			t.Errorf("VectorOf(%v) = %v", r.l, got)
		}
	}
	for _, l := range wrongSets(t) {
		if got := impl.VectorOf(l); len(got) != 0 {
			t.Errorf("VectorOf(%v) = %v", l, got)
		}
	}
}

// quarrels has pairs of right sets that do not agree, by each field in which two updates may be unlike.
func quarrels(t *testing.T) [][2][]impl.Update {
	t.Helper()
	one := read(t, "keep 1 1 1 0 1", "span 1 2 5 0 7 1 0 3 4 web", "keep 2 1 3 0 2")
	all := [][2][]impl.Update{{keeps(1, 1), read(t, "life 1 1 1 0 1 1")}, {read(t, "life 1 1 1 0 1 1"), read(t, "life 1 1 1 0 1 2")}}
	for _, s := range []string{
		"span 1 2 6 0 7 1 0 3 4 web", "span 1 2 5 1 7 1 0 3 4 web", "span 1 2 5 0 8 1 0 3 4 web", "span 1 2 5 0 7 2 0 3 4 web", "span 1 2 5 0 7 1 9 3 4 web",
		"span 1 2 5 0 7 1 0 2 4 web", "span 1 2 5 0 7 1 0 3 5 web", "span 1 2 5 0 7 1 0 3 4 wed", "keep 1 2 5 0 7", "life 1 2 5 0 7 1",
	} {
		all = append(all, [2][]impl.Update{one, together(one[:1], read(t, s))})
		all = append(all, [2][]impl.Update{one, together(one[:1], read(t, s), one[2:])})
	}
	all = append(all, [2][]impl.Update{one, together(one[:2], read(t, "keep 2 1 3 0 1", "keep 2 2 4 0 1"))})
	return all
}

func TestAgree(t *testing.T) {
	a := read(t, "keep 1 1 5 0 1", "life 1 2 6 0 1 1", "keep 2 1 3 0 2")
	for _, b := range [][]impl.Update{nil, a, a[:1], a[:2], keeps(3, 2), read(t, "keep 1 1 5 0 1", "life 1 2 6 0 1 1", "keep 1 3 7 0 2", "keep 2 1 3 0 2", "keep 2 2 4 0 2")} {
		if !impl.Agree(a, b) || !impl.Agree(b, a) {
			t.Errorf("%v does not agree", b)
		}
	}
	if !impl.Agree(nil, nil) || !impl.Agree(keeps(1, 60), keeps(2, 60)) {
		t.Error("no update or too many together do not make a quarrel")
	}
	for _, q := range quarrels(t) {
		if impl.Agree(q[0], q[1]) || impl.Agree(q[1], q[0]) {
			t.Errorf("%v and %v agree", q[0], q[1])
		}
		for _, l := range [][]impl.Update{q[0], q[1]} {
			if !impl.SetOk(l) || !impl.Agree(l, l) {
				t.Errorf("%v is not right", l)
			}
		}
	}
	for _, wrong := range wrongSets(t) {
		if impl.Agree(wrong, nil) || impl.Agree(nil, wrong) || impl.Agree(wrong, wrong) || impl.Agree(wrong, keeps(5, 2)) {
			t.Errorf("%v agrees", wrong)
		}
	}
}

func TestJoinedRows(t *testing.T) {
	a := read(t, "keep 1 1 5 0 1", "life 1 2 6 0 1 1", "keep 2 1 3 0 2")
	b := read(t, "keep 1 1 5 0 1", "keep 2 1 3 0 2", "keep 2 2 4 0 3", "keep 3 1 0 0 1")
	both := read(t, "keep 1 1 5 0 1", "life 1 2 6 0 1 1", "keep 2 1 3 0 2", "keep 2 2 4 0 3", "keep 3 1 0 0 1")
	rows := [][3][]impl.Update{
		{nil, nil, nil}, {a, nil, a}, {a, a, a}, {a, b, both}, {both, a, both}, {both, both, both},
		{keeps(5, 3), keeps(1, 2), together(keeps(1, 2), keeps(5, 3))},
		{keeps(1, 40), keeps(2, 20), together(keeps(1, 40), keeps(2, 20))},
		{keeps(1, 60), keeps(1, 60), keeps(1, 60)}, {keeps(1, 60), keeps(1, 1), keeps(1, 60)}, {keeps(1, 60), nil, keeps(1, 60)},
	}
	for _, r := range rows {
		if got, ok := impl.Joined(r[0], r[1]); !ok || !slices.Equal(got, r[2]) {
			t.Errorf("Joined(%v, %v) = %v, %v", r[0], r[1], got, ok)
		}
		if got, ok := impl.Joined(r[1], r[0]); !ok || !slices.Equal(got, r[2]) {
			t.Errorf("Joined(%v, %v) = %v, %v", r[1], r[0], got, ok)
		}
	}
}

func refuseJoined(t *testing.T, a []impl.Update, b []impl.Update) {
	t.Helper()
	if got, ok := impl.Joined(a, b); ok || len(got) != 0 {
		t.Errorf("Joined(%v, %v) = %v, %v", a, b, got, ok)
	}
	if got, ok := impl.Joined(b, a); ok || len(got) != 0 {
		t.Errorf("Joined(%v, %v) = %v, %v", b, a, got, ok)
	}
}

func TestJoinedWrong(t *testing.T) {
	for _, q := range quarrels(t) {
		refuseJoined(t, q[0], q[1])
	}
	refuseJoined(t, keeps(1, 40), keeps(2, 21))
	refuseJoined(t, keeps(1, 60), keeps(2, 1))
	refuseJoined(t, keeps(1, 60), keeps(2, 60))
	for _, wrong := range wrongSets(t) {
		refuseJoined(t, wrong, nil)
		refuseJoined(t, wrong, wrong)
		refuseJoined(t, wrong, keeps(1, 2))
	}
	// What is wrong by itself is not mended by what the other has.
	refuseJoined(t, keeps(1, 3)[1:], keeps(1, 3))
}

// P3: sets joined have the updates of both, in whatever order.
func TestJoinedHasBoth(t *testing.T) {
	r := rand.New(rand.NewSource(5))
	for range 3000 {
		history := anyHistory(r, 12)
		a, b, c := anySet(r, history), anySet(r, history), anySet(r, history)
		got, ok := impl.Joined(a, b)
		again, _ := impl.Joined(b, a)
		if !ok || !impl.SetOk(got) || !slices.Equal(got, again) {
			t.Fatalf("Joined(%v, %v) = %v, %v", a, b, got, ok)
		}
		for _, u := range together(a, b) {
			if !slices.Contains(got, u) {
				t.Fatalf("%v is lost", u)
			}
		}
		for _, u := range got {
			if !slices.Contains(a, u) && !slices.Contains(b, u) {
				t.Fatalf("%v is of neither", u)
			}
		}
		if v := impl.VectorOf(got); !slices.Equal(v, impl.VecJoin(impl.VectorOf(a), impl.VectorOf(b))) {
			t.Fatalf("the vector is %v", v)
		}
		bc, _ := impl.Joined(b, c)
		left, _ := impl.Joined(got, c)
		right, _ := impl.Joined(a, bc)
		if !slices.Equal(left, right) {
			t.Fatalf("%v, %v and %v join to two things", a, b, c)
		}
	}
}

func TestSinceRows(t *testing.T) {
	l := together(keeps(1, 3), keeps(2, 2), keeps(5, 4))
	rows := []struct {
		v    []impl.Dot
		most int64
		want []impl.Update
	}{
		{nil, 1, l[:1]}, {nil, 2, l[:2]}, {nil, 8, l[:8]}, {nil, 9, l}, {nil, 10, l}, {nil, impl.MaxUpdates, l},
		{dots(1, 3), 60, l[3:]}, {dots(1, 2), 60, l[2:]}, {dots(1, 2), 2, l[2:4]}, {dots(1, 1), 1, l[1:2]}, {dots(1, impl.MaxCount), 1, l[3:4]},
		{dots(1, 1, 2, 1, 5, 3), 60, together(l[1:3], l[4:5], l[8:])}, {dots(1, 1, 2, 1, 5, 3), 3, together(l[1:3], l[4:5])},
		{dots(1, 3, 2, 2, 5, 4), 60, nil}, {dots(1, 4, 2, 4, 3, 4, 4, 4, 5, 4), 1, nil},
		{dots(3, 9, 4, 9), 60, l}, {dots(2, 2, 3, 1), 4, together(l[:3], l[5:6])},
	}
	for _, r := range rows {
		if got, ok := impl.Since(l, r.v, r.most); !ok || !slices.Equal(got, r.want) {
			t.Errorf("Since(.., %v, %d) = %v, %v", r.v, r.most, got, ok)
		}
		if got, ok := impl.Since(nil, r.v, r.most); !ok || len(got) != 0 {
			t.Errorf("Since(nil, %v, %d) = %v, %v", r.v, r.most, got, ok)
		}
	}
	if got, ok := impl.Since(keeps(4, 60), nil, 60); !ok || !slices.Equal(got, keeps(4, 60)) {
		t.Errorf("all of a full set: %v, %v", got, ok)
	}
}

func TestSinceWrong(t *testing.T) {
	refuse := func(l []impl.Update, v []impl.Dot, most int64) {
		if got, ok := impl.Since(l, v, most); ok || len(got) != 0 {
			t.Errorf("Since(%v, %v, %d) = %v, %v", l, v, most, got, ok)
		}
	}
	for _, most := range []int64{0, -1, impl.MaxUpdates + 1, math.MinInt64, math.MaxInt64} {
		refuse(keeps(1, 3), nil, most)
		refuse(nil, nil, most)
	}
	for _, v := range wrongVectors {
		refuse(keeps(1, 3), v, 3)
		refuse(nil, v, 3)
	}
	for _, l := range wrongSets(t) {
		refuse(l, nil, 3)
		refuse(l, dots(1, impl.MaxCount), impl.MaxUpdates)
	}
}

func TestTakenRows(t *testing.T) {
	l := read(t, "keep 1 1 5 0 1", "life 1 2 6 0 1 1", "keep 2 1 3 0 2")
	next, after, third := "keep 1 3 7 0 9", "keep 1 4 8 0 9", "keep 3 1 0 0 9"
	rows := []struct{ more, want []impl.Update }{
		{nil, l}, {l, l}, {l[:1], l},
		{read(t, next), together(l[:2], read(t, next), l[2:])},
		{read(t, next, after), together(l[:2], read(t, next, after), l[2:])},
		// Ahead of the one that it follows it is passed over, and stays away unless it comes again.
		{read(t, after, next), together(l[:2], read(t, next), l[2:])},
		{read(t, after), l},
		{read(t, after, next, after), together(l[:2], read(t, next, after), l[2:])},
		{read(t, next, next), together(l[:2], read(t, next), l[2:])},
		{read(t, next, "keep 1 3 9 0 8", after), together(l[:2], read(t, next, after), l[2:])},
		// What is there stays, whatever else comes under its Dot.
		{read(t, "keep 1 1 5 0 9", "keep 1 2 1 0 9", "span 2 1 3 0 2 1 0 0 0 a"), l},
		{read(t, third, "keep 2 2 4 0 9", next), together(l[:2], read(t, next), l[2:], read(t, "keep 2 2 4 0 9", third))},
		{read(t, "keep 3 2 1 0 9", third, "keep 4 2 1 0 9"), together(l, read(t, third))},
		{read(t, "keep 1 1000000 9 0 1"), l},
	}
	for _, r := range rows {
		if got, ok := impl.Taken(l, r.more); !ok || !slices.Equal(got, r.want) {
			t.Errorf("Taken(.., %v) = %v, %v", r.more, got, ok)
		}
	}
	if got, ok := impl.Taken(nil, read(t, third, "keep 1 1 0 0 1")); !ok || !slices.Equal(got, read(t, "keep 1 1 0 0 1", third)) {
		t.Errorf("taken to nothing: %v, %v", got, ok)
	}
}

func TestTakenLimits(t *testing.T) {
	rows := []struct{ l, more, want []impl.Update }{
		{nil, keeps(3, 60), keeps(3, 60)},
		{keeps(1, 40), keeps(2, 20), together(keeps(1, 40), keeps(2, 20))},
		{keeps(1, 59), keeps(1, 60), keeps(1, 60)},
		{keeps(1, 60), keeps(1, 60), keeps(1, 60)},
		{keeps(1, 60), slices.Repeat(keeps(1, 1), 60), keeps(1, 60)},
		{keeps(1, 60), read(t, "keep 2 2 1 0 1"), keeps(1, 60)},
	}
	for _, r := range rows {
		if got, ok := impl.Taken(r.l, r.more); !ok || !slices.Equal(got, r.want) {
			t.Errorf("Taken(%v, %v) = %v, %v", r.l, r.more, got, ok)
		}
	}
	refuseTaken(t, keeps(1, 40), keeps(2, 21))
	refuseTaken(t, keeps(1, 60), keeps(2, 1))
	refuseTaken(t, keeps(1, 60), keeps(1, 61)[60:])
	refuseTaken(t, nil, keeps(3, 61))
	refuseTaken(t, keeps(1, 1), slices.Repeat(keeps(1, 1), 61))
}

func refuseTaken(t *testing.T, l []impl.Update, more []impl.Update) {
	t.Helper()
	if got, ok := impl.Taken(l, more); ok || len(got) != 0 {
		t.Errorf("Taken(%v, %v) = %v, %v", l, more, got, ok)
	}
}

func TestTakenWrong(t *testing.T) {
	l := read(t, "keep 1 1 5 0 1", "life 1 2 6 4 1 1", "keep 2 1 3 0 2")
	for _, s := range []string{"keep 1 3 6 4 1", "keep 1 3 6 3 1", "keep 1 3 5 9 1", "keep 2 2 3 0 3", "keep 2 2 0 0 3"} {
		refuseTaken(t, l, read(t, s))
		refuseTaken(t, l, read(t, "keep 3 1 0 0 1", s, "keep 3 2 1 0 1"))
	}
	refuseTaken(t, l, read(t, "keep 3 1 5 0 1", "keep 3 2 5 0 1"))
	for _, u := range wrongUpdates() {
		refuseTaken(t, l, []impl.Update{u})
		refuseTaken(t, l, []impl.Update{keeps(3, 1)[0], u})
		refuseTaken(t, nil, []impl.Update{u, keeps(3, 1)[0]})
	}
	for _, wrong := range wrongSets(t) {
		refuseTaken(t, wrong, nil)
		refuseTaken(t, wrong, keeps(1, 3))
	}
	// One that would be passed over must be right all the same.
	far := keeps(1, 9)[8]
	far.Trace = 0
	refuseTaken(t, l, []impl.Update{far})
}

// P3: what is taken of another set that agrees is both joined.
func TestTakenIsJoined(t *testing.T) {
	r := rand.New(rand.NewSource(7))
	for range 3000 {
		history := anyHistory(r, 14)
		a, b := anySet(r, history), anySet(r, history)
		want, wantOk := impl.Joined(a, b)
		if got, ok := impl.Taken(a, b); ok != wantOk || !slices.Equal(got, want) {
			t.Fatalf("Taken(%v, %v) = %v, %v", a, b, got, ok)
		}
		news, ok := impl.Since(b, impl.VectorOf(a), impl.MaxUpdates)
		if ok != impl.SetOk(b) {
			t.Fatalf("Since(%v, %v, 60) = %v, %v", b, impl.VectorOf(a), news, ok)
		}
		if got, ok := impl.Taken(a, news); impl.SetOk(b) && (ok != wantOk || !slices.Equal(got, want)) {
			t.Fatalf("Taken(%v, %v) = %v, %v", a, news, got, ok)
		}
	}
}

// takenByWords goes over the words of the document, with no list kept in order.
func takenByWords(l []impl.Update, more []impl.Update) []impl.Update {
	out := slices.Clone(l)
	for _, u := range more {
		last := int64(0)
		for _, o := range out {
			if o.Dot.Region == u.Dot.Region {
				last = max(last, o.Dot.N)
			}
		}
		if u.Dot.N == last+1 {
			out = append(out, u)
		}
	}
	slices.SortFunc(out, func(a, b impl.Update) int {
		if impl.DotAhead(a.Dot, b.Dot) {
			return -1
		}
		return 1
	})
	return out
}

func TestTakenByWords(t *testing.T) {
	r := rand.New(rand.NewSource(11))
	for range 3000 {
		history, others := anyHistory(r, 6), anyHistory(r, 6)
		l := anySet(r, history)
		more := together(anySet(r, history), anySet(r, others), anySet(r, history))
		r.Shuffle(len(more), func(i, j int) { more[i], more[j] = more[j], more[i] })
		more = more[:min(len(more), impl.MaxUpdates)]
		want := takenByWords(l, more)
		got, ok := impl.Taken(l, more)
		if ok != setByWords(want) || ok && !slices.Equal(got, want) || !ok && len(got) != 0 {
			t.Fatalf("Taken(%v, %v) = %v, %v", l, more, got, ok)
		}
	}
}

func spoilUpdates(lists ...[]impl.Update) {
	for _, l := range lists {
		l = l[:cap(l)]
		for i := range l {
			l[i] = impl.Update{Trace: -7}
		}
	}
}

func TestSetsAreNewMemory(t *testing.T) {
	room := together(keeps(1, 2), keeps(2, 2), keeps(3, 2), keeps(4, 2))
	kept := slices.Clone(room)
	more := together(keeps(1, 3), keeps(5, 2))
	keptMore := slices.Clone(more)
	for end := range room {
		a := room[:end]
		for _, b := range [][]impl.Update{nil, room[:1], room[:2], more[:3], a} {
			left, _ := impl.Joined(a, b)
			right, _ := impl.Joined(b, a)
			since, _ := impl.Since(a, impl.VectorOf(b), 60)
			all, _ := impl.Since(a, nil, 60)
			taken, _ := impl.Taken(a, b)
			impl.Agree(a, b)
			impl.SetOk(a)
			spoilUpdates(left, right, since, all, taken)
			if !slices.Equal(room, kept) || !slices.Equal(more, keptMore) {
				t.Fatalf("an argument was written: %v, %v", room, more)
			}
		}
	}
}

func TestServicesOfSetsAreNewMemory(t *testing.T) {
	l := read(t, "span 1 1 0 0 1 1 0 0 0 web")
	joined, _ := impl.Joined(l, nil)
	other, _ := impl.Joined(nil, l)
	since, _ := impl.Since(l, nil, 1)
	taken, _ := impl.Taken(nil, l)
	for _, got := range [][]impl.Update{joined, other, since, taken} {
		if len(got) != 1 || got[0].Span.Service != "web" {
			t.Fatal(got)
		}
		if unsafe.StringData(got[0].Span.Service) == unsafe.StringData(l[0].Span.Service) {
			t.Error("Service is that of the argument")
		}
	}
}

// P9: the order in which a map is gone through is not seen.
func TestSetsAreTheSameAgain(t *testing.T) {
	a, b := together(keeps(1, 9), keeps(3, 9)), together(keeps(2, 9), keeps(4, 9), keeps(5, 9))
	want, _ := impl.Joined(a, b)
	for range 50 {
		joined, _ := impl.Joined(a, b)
		taken, _ := impl.Taken(b, a)
		if !slices.Equal(joined, want) || !slices.Equal(taken, want) {
			t.Fatalf("%v, %v", joined, taken)
		}
	}
}
