package tests

import (
	"math"
	"math/rand"
	"slices"
	"testing"
	"unsafe"

	"loop.example/g00368/impl"
)

func regionAt(wall, count, id int64, set []impl.Update) impl.Region {
	return impl.Region{Id: id, Clock: stamp(wall, count, id), Set: set}
}

func op(kind, trace int64) impl.Op {
	return impl.Op{Kind: kind, Trace: trace}
}

func spanOp(trace int64, s impl.Span) impl.Op {
	return impl.Op{Kind: impl.OpSpan, Trace: trace, Span: s}
}

func sameRegion(a, b impl.Region) bool {
	return a.Id == b.Id && a.Clock == b.Clock && slices.Equal(a.Set, b.Set)
}

// issue wants it done, and what is issued to be right and in the set.
func issue(t *testing.T, r impl.Region, o impl.Op, now int64) (impl.Region, impl.Update) {
	t.Helper()
	next, u, code := impl.Issued(r, o, now)
	if code != impl.RgDone || !impl.RegionOk(next) || !impl.UpdateOk(u) || !slices.Contains(next.Set, u) || len(next.Set) != len(r.Set)+1 {
		t.Fatalf("Issued(%v, %v, %d) = %v, %v, %d", r, o, now, next, u, code)
	}
	return next, u
}

func receive(t *testing.T, r impl.Region, l []impl.Update, now int64) impl.Region {
	t.Helper()
	next, code := impl.Received(r, l, now)
	if code != impl.RgDone || !impl.RegionOk(next) {
		t.Fatalf("Received(%v, %v, %d) = %v, %d", r, l, now, next, code)
	}
	return next
}

// leftAs is what a refusal answers for r: as it is, or none when it is not right.
func leftAs(r impl.Region, code int64) impl.Region {
	if code == impl.RgWrong {
		return impl.Region{}
	}
	return r
}

func refuseIssued(t *testing.T, r impl.Region, o impl.Op, now int64, code int64) {
	t.Helper()
	got, u, c := impl.Issued(r, o, now)
	if c != code || !sameRegion(got, leftAs(r, code)) || u != (impl.Update{}) {
		t.Errorf("Issued(%v, %v, %d) = %v, %v, %d, not %d", r, o, now, got, u, c, code)
	}
}

func refuseReceived(t *testing.T, r impl.Region, l []impl.Update, now int64, code int64) {
	t.Helper()
	got, c := impl.Received(r, l, now)
	if c != code || !sameRegion(got, leftAs(r, code)) {
		t.Errorf("Received(%v, %v, %d) = %v, %d, not %d", r, l, now, got, c, code)
	}
}

func rightRegions(t *testing.T) []impl.Region {
	t.Helper()
	mixed := read(t, "keep 1 1 3 9 1", "keep 2 1 9 4 1", "keep 5 1 9 2 1", "keep 5 2 9 3 1")
	return []impl.Region{
		regionAt(0, 0, 1, nil), regionAt(0, 0, 5, []impl.Update{}), regionAt(impl.MaxTime, impl.MaxCount, 3, nil),
		// Just the Wall and Count of the greatest stamp, and beyond it.
		regionAt(9, 4, 1, mixed), regionAt(9, 4, 2, mixed), regionAt(9, 4, 5, mixed), regionAt(9, 5, 1, mixed), regionAt(10, 0, 1, mixed),
		regionAt(0, 0, 1, read(t, "keep 5 1 0 0 1")), regionAt(0, 0, 5, read(t, "keep 1 1 0 0 1")),
		regionAt(impl.MaxTime, impl.MaxCount, 4, read(t, "keep 2 1 1000000000 1000000 1")),
		regionAt(60, 0, 1, keeps(1, 60)), regionAt(60, 0, 2, keeps(1, 60)), regionAt(30, 0, 3, together(keeps(2, 30), keeps(4, 30))),
	}
}

func wrongRegions(t *testing.T) []impl.Region {
	t.Helper()
	mixed := read(t, "keep 1 1 3 9 1", "keep 2 1 9 4 1", "keep 5 1 9 2 1", "keep 5 2 9 3 1")
	all := []impl.Region{
		{}, {Id: 1}, {Clock: stamp(0, 0, 1)}, {Id: 1, Clock: stamp(0, 0, 2)}, {Id: 2, Clock: stamp(0, 0, 1)}, {Id: 5, Clock: stamp(0, 0, 4)},
		{Id: 0, Clock: stamp(0, 0, 1)}, {Id: 6, Clock: stamp(0, 0, 5)},
		regionAt(0, 0, 0, nil), regionAt(0, 0, impl.MaxRegions+1, nil), regionAt(0, 0, -1, nil), regionAt(0, 0, math.MinInt64, nil), regionAt(0, 0, math.MaxInt64, nil),
		// One less than the greatest stamp, and a lesser Wall with a greater Count.
		regionAt(9, 3, 1, mixed), regionAt(9, 3, 2, mixed), regionAt(9, 3, 5, mixed), regionAt(8, 4, 1, mixed), regionAt(8, 9, 1, mixed),
		regionAt(8, impl.MaxCount, 2, mixed), regionAt(3, 9, 1, mixed), regionAt(0, 0, 1, mixed),
		regionAt(0, 0, 1, read(t, "keep 5 1 0 1 1")), regionAt(0, impl.MaxCount, 1, read(t, "keep 1 1 1 0 1")),
		regionAt(impl.MaxTime, impl.MaxCount-1, 4, read(t, "keep 2 1 1000000000 1000000 1")),
		regionAt(59, 9, 1, keeps(1, 60)),
	}
	for _, s := range wrongStamps {
		all = append(all, impl.Region{Id: 1, Clock: s}, impl.Region{Id: s.Region, Clock: s})
	}
	for _, l := range wrongSets(t) {
		all = append(all, regionAt(impl.MaxTime, 0, 1, l))
	}
	return all
}

func TestRegionOk(t *testing.T) {
	for _, r := range rightRegions(t) {
		if !impl.RegionOk(r) || !regionByWords(r) {
			t.Errorf("%v is refused", r)
		}
	}
	for _, r := range wrongRegions(t) {
		if impl.RegionOk(r) || regionByWords(r) {
			t.Errorf("%v is accepted", r)
		}
	}
}

func TestRegionNew(t *testing.T) {
	for id := int64(1); id <= impl.MaxRegions; id++ {
		if r, ok := impl.RegionNew(id); !ok || !sameRegion(r, regionAt(0, 0, id, nil)) || !impl.RegionOk(r) {
			t.Errorf("RegionNew(%d) = %v, %v", id, r, ok)
		}
	}
	for _, id := range []int64{0, impl.MaxRegions + 1, -1, math.MinInt64, math.MaxInt64} {
		if r, ok := impl.RegionNew(id); ok || !sameRegion(r, impl.Region{}) {
			t.Errorf("RegionNew(%d) = %v, %v", id, r, ok)
		}
	}
}

func TestIssuedRows(t *testing.T) {
	set := read(t, "keep 1 1 5 0 1", "life 1 2 6 0 7 1", "keep 3 1 9 4 2", "life 3 2 9 5 8 6")
	rows := []struct {
		id   int64
		o    impl.Op
		now  int64
		want string
	}{
		{2, spanOp(5, span(6, 0, "web", 7, 8)), 10, "span 2 1 10 0 5 6 0 7 8 web"},
		{2, op(impl.OpKeep, 5), 10, "keep 2 1 10 0 5"},
		{2, op(impl.OpKeep, 1), 10, "keep 2 1 10 0 1"},
		{2, op(impl.OpRetire, 5), 10, "life 2 1 10 0 5 1"},
		{2, op(impl.OpRetire, 8), 10, "life 2 1 10 0 8 7"},
		{2, op(impl.OpRevive, 7), 10, "life 2 1 10 0 7 2"},
		{1, op(impl.OpRevive, 7), 10, "life 1 3 10 0 7 2"},
		{3, op(impl.OpRetire, 8), 10, "life 3 3 10 0 8 7"},
		{5, op(impl.OpKeep, 7), 10, "keep 5 1 10 0 7"},
		// The time is that of the clock, or went back.
		{1, op(impl.OpKeep, 5), 9, "keep 1 3 9 6 5"},
		{1, op(impl.OpKeep, 5), 8, "keep 1 3 9 6 5"},
		{1, op(impl.OpKeep, 5), 0, "keep 1 3 9 6 5"},
		{1, op(impl.OpKeep, 5), impl.MaxTime, "keep 1 3 1000000000 0 5"},
		{1, op(impl.OpKeep, impl.MaxId), 10, "keep 1 3 10 0 1000"},
		{4, spanOp(1, span(1000, 1, "abcdefghijkl", 0, impl.MaxTime)), 10, "span 4 1 10 0 1 1000 1 0 1000000000 abcdefghijkl"},
	}
	for _, row := range rows {
		r := regionAt(9, 5, row.id, set)
		next, u := issue(t, r, row.o, row.now)
		if impl.UpdateText(u) != row.want {
			t.Errorf("Issued(.., %v, %d) tells %q, not %q", row.o, row.now, impl.UpdateText(u), row.want)
		}
		if want := takenByWords(set, []impl.Update{u}); !sameRegion(next, impl.Region{Id: row.id, Clock: u.Stamp, Set: want}) {
			t.Errorf("Issued(.., %v, %d) = %v", row.o, row.now, next)
		}
	}
}

func TestIssuedAmongOthers(t *testing.T) {
	set := read(t, "keep 1 1 5 0 1", "keep 1 2 6 0 1", "keep 3 1 2 0 1", "keep 3 2 3 0 1", "keep 5 1 1 0 1")
	places := map[int64]int{1: 2, 2: 2, 3: 4, 4: 4, 5: 5}
	for id, place := range places {
		next, u := issue(t, regionAt(6, 0, id, set), op(impl.OpKeep, 9), 7)
		if !slices.Equal(next.Set, slices.Insert(slices.Clone(set), place, u)) {
			t.Errorf("region %d: %v", id, next.Set)
		}
	}
}

func TestIssuedForm(t *testing.T) {
	r := regionAt(9, 4, 2, read(t, "keep 1 1 3 9 1", "life 2 1 9 4 7 1"))
	for _, kind := range []int64{0, 5, -1, math.MinInt64, math.MaxInt64} {
		refuseIssued(t, r, op(kind, 5), 10, impl.RgForm)
		refuseIssued(t, r, impl.Op{Kind: kind, Trace: 5, Span: span(1, 0, "a", 0, 0)}, 10, impl.RgForm)
	}
	for _, s := range wrongSpans() {
		refuseIssued(t, r, spanOp(5, s), 10, impl.RgForm)
	}
	for _, s := range rightSpans() {
		if _, u := issue(t, r, spanOp(5, s), 10); u.Span != s || u.Kind != impl.UpSpan || u.Level != 0 {
			t.Errorf("%v is issued as %v", s, u)
		}
	}
	// Each of these would be done if the span were zero.
	for _, o := range []impl.Op{op(impl.OpKeep, 5), op(impl.OpRetire, 5), op(impl.OpRevive, 7)} {
		issue(t, r, o, 10)
		for _, s := range []impl.Span{span(1, 0, "a", 0, 0), {Id: 1}, {Parent: 1}, {Service: "a"}, {Start: 1}, {End: 1}, {End: -1}} {
			o.Span = s
			refuseIssued(t, r, o, 10, impl.RgForm)
		}
	}
	s := span(1, 0, "a", 0, 0)
	for _, trace := range []int64{0, impl.MaxId + 1, -1, math.MinInt64, math.MaxInt64} {
		for _, o := range []impl.Op{spanOp(trace, s), op(impl.OpKeep, trace), op(impl.OpRetire, trace), op(impl.OpRevive, trace)} {
			refuseIssued(t, r, o, 10, impl.RgForm)
		}
	}
	for _, trace := range []int64{1, impl.MaxId} {
		for _, o := range []impl.Op{spanOp(trace, s), op(impl.OpKeep, trace), op(impl.OpRetire, trace)} {
			if _, u := issue(t, r, o, 10); u.Trace != trace {
				t.Errorf("%v is issued as %v", o, u)
			}
		}
	}
	for _, now := range wrongTimes {
		for _, o := range []impl.Op{spanOp(5, s), op(impl.OpKeep, 5), op(impl.OpRetire, 5), op(impl.OpRevive, 7)} {
			refuseIssued(t, r, o, now, impl.RgForm)
		}
	}
}

func TestIssuedClock(t *testing.T) {
	keep := op(impl.OpKeep, 5)
	rows := []struct {
		wall, count, now int64
		want             impl.Stamp
	}{
		{0, 0, 0, stamp(0, 1, 2)}, {0, 0, 1, stamp(1, 0, 2)}, {0, 0, impl.MaxTime, stamp(impl.MaxTime, 0, 2)},
		{12, impl.MaxCount - 1, 12, stamp(12, impl.MaxCount, 2)}, {12, impl.MaxCount - 1, 3, stamp(12, impl.MaxCount, 2)},
		{12, impl.MaxCount, 13, stamp(13, 0, 2)}, {impl.MaxTime, 0, impl.MaxTime, stamp(impl.MaxTime, 1, 2)}, {impl.MaxTime, 3, 0, stamp(impl.MaxTime, 4, 2)},
	}
	for _, row := range rows {
		next, u := issue(t, regionAt(row.wall, row.count, 2, nil), keep, row.now)
		if u.Stamp != row.want || next.Clock != row.want {
			t.Errorf("a clock of %d and %d at %d: %v, %v", row.wall, row.count, row.now, next, u)
		}
	}
	for _, now := range []int64{0, 11, 12} {
		refuseIssued(t, regionAt(12, impl.MaxCount, 2, keeps(1, 3)), keep, now, impl.RgClock)
	}
	refuseIssued(t, regionAt(impl.MaxTime, impl.MaxCount, 2, nil), keep, impl.MaxTime, impl.RgClock)
	refuseIssued(t, regionAt(0, impl.MaxCount, 1, nil), spanOp(1, span(1, 0, "a", 0, 0)), 0, impl.RgClock)
}

// P5: retiring hides, reviving shows.
func TestIssuedLife(t *testing.T) {
	r, _ := impl.RegionNew(3)
	for level := int64(1); level <= 9; level++ {
		kind, other := int64(impl.OpRetire), int64(impl.OpRevive)
		if level%2 == 0 {
			kind, other = other, kind
		}
		refuseIssued(t, r, op(other, 7), level, impl.RgNot)
		next, u := issue(t, r, op(kind, 7), level)
		if u.Kind != impl.UpLife || u.Level != level || impl.LevelOf(next.Set, 7) != level || impl.Visible(next.Set, 7) != (kind == impl.OpRevive) {
			t.Fatalf("level %d: %v", level, next)
		}
		if !impl.Visible(next.Set, 8) {
			t.Fatal("another trace is hidden")
		}
		r = next
	}
	refuseIssued(t, regionAt(0, 0, 1, nil), op(impl.OpRevive, 7), 0, impl.RgNot)
	// What others made of its life counts, too; what keeps a trace or is seen of it does not.
	others := read(t, "life 2 1 3 0 7 3", "life 4 1 1 0 8 4", "keep 4 2 2 0 7", "span 5 1 4 0 7 1 0 0 0 a")
	at := regionAt(4, 0, 1, others)
	refuseIssued(t, at, op(impl.OpRetire, 7), 9, impl.RgNot)
	refuseIssued(t, at, op(impl.OpRevive, 8), 9, impl.RgNot)
	refuseIssued(t, at, op(impl.OpRevive, 9), 9, impl.RgNot)
	if _, u := issue(t, at, op(impl.OpRevive, 7), 9); u.Level != 4 {
		t.Error(u)
	}
	if _, u := issue(t, at, op(impl.OpRetire, 8), 9); u.Level != 5 {
		t.Error(u)
	}
}

func TestIssuedLevelAtItsGreatest(t *testing.T) {
	last := regionAt(1, 0, 1, lives(impl.MaxCount-1))
	next, u := issue(t, last, op(impl.OpRevive, 7), 2)
	if u.Level != impl.MaxCount || !impl.Visible(next.Set, 7) {
		t.Errorf("%v, %v", next, u)
	}
	for _, r := range []impl.Region{next, regionAt(1, 0, 2, lives(impl.MaxCount)), regionAt(9, 9, 5, lives(impl.MaxCount, 1))} {
		refuseIssued(t, r, op(impl.OpRetire, 7), 20, impl.RgFull)
		refuseIssued(t, r, op(impl.OpRevive, 7), 20, impl.RgNot)
		issue(t, r, op(impl.OpKeep, 7), 20)
		issue(t, r, op(impl.OpRetire, 8), 20)
	}
}

func TestIssuedFull(t *testing.T) {
	ops := []impl.Op{spanOp(5, span(1, 0, "a", 0, 0)), op(impl.OpKeep, 5), op(impl.OpRetire, 5)}
	for _, o := range ops {
		for _, full := range [][]impl.Update{keeps(1, 60), keeps(2, 60), together(keeps(1, 30), keeps(3, 30)), together(keeps(2, 59), keeps(4, 1))} {
			for _, now := range []int64{0, 99, impl.MaxTime} {
				refuseIssued(t, regionAt(60, 0, 2, full), o, now, impl.RgFull)
			}
		}
		for _, nearly := range [][]impl.Update{keeps(1, 59), keeps(2, 59), together(keeps(1, 30), keeps(3, 29)), together(keeps(2, 58), keeps(4, 1))} {
			next, u := issue(t, regionAt(60, 0, 2, nearly), o, 99)
			if u.Dot.N != impl.VecOf(impl.VectorOf(nearly), 2)+1 || len(next.Set) != impl.MaxUpdates {
				t.Errorf("%v, %v", next, u)
			}
			refuseIssued(t, next, op(impl.OpKeep, 5), 99, impl.RgFull)
		}
	}
	if _, u := issue(t, regionAt(60, 0, 2, keeps(2, 59)), op(impl.OpKeep, 5), 99); u.Dot.N != impl.MaxUpdates {
		t.Errorf("the last N: %v", u)
	}
}

func TestIssuedWrong(t *testing.T) {
	for _, r := range wrongRegions(t) {
		for _, o := range []impl.Op{op(impl.OpKeep, 5), op(impl.OpRetire, 1), op(impl.OpRevive, 1), spanOp(5, span(1, 0, "a", 0, 0)), {}} {
			refuseIssued(t, r, o, 70, impl.RgWrong)
			refuseIssued(t, r, o, -1, impl.RgWrong)
		}
	}
}

// meeting is a right region in which refusals meet: trace 8 is retired, trace 7 is not.
func meeting(t *testing.T) impl.Region {
	t.Helper()
	return regionAt(100, 0, 2, together(read(t, "life 1 1 1 0 8 1", "life 1 2 2 0 8 3"), keeps(3, 3)))
}

// filled has as many updates as a set may have.
func filled(r impl.Region) []impl.Update {
	return together(r.Set, keeps(4, impl.MaxUpdates-int64(len(r.Set))))
}

// spoilRegion has ways in which the region of meeting, filled or not, is no longer right.
var spoilRegion = []func(r *impl.Region){
	func(r *impl.Region) { r.Id = 4 },
	func(r *impl.Region) { r.Clock.Wall = 0 },
	func(r *impl.Region) { r.Clock.Region = 6 },
	func(r *impl.Region) { r.Set = r.Set[1:] },
}

// Of two refusals, and of more, that meet in one call the one that is told first is answered.
func TestIssuedFirstRefusal(t *testing.T) {
	const wrong, form, not, clock, full = 1, 2, 4, 8, 16
	inOrder := []struct{ bit, code int64 }{{wrong, impl.RgWrong}, {form, impl.RgForm}, {not, impl.RgNot}, {clock, impl.RgClock}, {full, impl.RgFull}}
	forms := []func(o *impl.Op, now *int64){
		func(o *impl.Op, now *int64) { *now = -1 },
		func(o *impl.Op, now *int64) { *now = impl.MaxTime + 1 },
		func(o *impl.Op, now *int64) { o.Trace = 0 },
		func(o *impl.Op, now *int64) { o.Trace = impl.MaxId + 1 },
		func(o *impl.Op, now *int64) { o.Span = span(1, 0, "a", 0, 0) },
		func(o *impl.Op, now *int64) { o.Kind = impl.OpSpan },
		func(o *impl.Op, now *int64) { o.Kind = 9 },
	}
	nots := []impl.Op{op(impl.OpRevive, 7), op(impl.OpRetire, 8)}
	issue(t, meeting(t), op(impl.OpKeep, 7), 200)
	for met := int64(1); met < 32; met++ {
		for way := range 84 {
			r, o, now := meeting(t), op(impl.OpKeep, 7), int64(200)
			if met&full != 0 {
				r.Set = filled(r)
			}
			if met&clock != 0 {
				r.Clock.Count, now = impl.MaxCount, 100
			}
			if met&not != 0 {
				o = nots[way%len(nots)]
			}
			if met&form != 0 {
				forms[way%len(forms)](&o, &now)
			}
			if met&wrong != 0 {
				spoilRegion[way%len(spoilRegion)](&r)
			}
			for _, first := range inOrder {
				if met&first.bit != 0 {
					refuseIssued(t, r, o, now, first.code)
					break
				}
			}
		}
	}
}

// A level that can't grow makes the region full behind all other refusals.
func TestIssuedFirstRefusalAtTheGreatestLevel(t *testing.T) {
	set := lives(impl.MaxCount)
	refuseIssued(t, regionAt(5, impl.MaxCount, 2, set), op(impl.OpRetire, 7), 5, impl.RgClock)
	refuseIssued(t, regionAt(5, 0, 2, set), op(impl.OpRevive, 7), 5, impl.RgNot)
	refuseIssued(t, regionAt(5, 0, 2, set), op(impl.OpRetire, 7), -1, impl.RgForm)
	refuseIssued(t, regionAt(0, 0, 2, set), op(impl.OpRetire, 7), 5, impl.RgWrong)
	refuseIssued(t, regionAt(5, 0, 2, set), op(impl.OpRetire, 7), 5, impl.RgFull)
}

// P5: what is received is had as far as it came next.
func TestReceivedRows(t *testing.T) {
	set := read(t, "keep 1 1 5 0 1", "life 1 2 6 0 1 1", "keep 2 1 3 0 2")
	next, after, third := "keep 1 3 7 0 9", "keep 1 4 8 0 9", "keep 3 1 0 0 9"
	rows := []struct {
		l, want []impl.Update
		clock   impl.Stamp
	}{
		{read(t, next), together(set[:2], read(t, next), set[2:]), stamp(7, 1, 2)},
		{read(t, next, after), together(set[:2], read(t, next, after), set[2:]), stamp(8, 1, 2)},
		// Ahead of the one that it follows, it is not had, but the clock has met it.
		{read(t, after), set, stamp(8, 1, 2)},
		{read(t, after, next), together(set[:2], read(t, next), set[2:]), stamp(8, 2, 2)},
		{read(t, after, next, after), together(set[:2], read(t, next, after), set[2:]), stamp(8, 3, 2)},
		{read(t, next, next), together(set[:2], read(t, next), set[2:]), stamp(7, 2, 2)},
		{set, set, stamp(6, 7, 2)},
		{set[2:], set, stamp(6, 5, 2)},
		// What is there stays, whatever else comes under its Dot.
		{read(t, "keep 1 1 5 0 9"), set, stamp(6, 5, 2)},
		{read(t, next, "life 1 3 9 0 8 2"), together(set[:2], read(t, next), set[2:]), stamp(9, 1, 2)},
		{read(t, "span 2 1 30 7 2 1 0 0 0 a"), set, stamp(30, 8, 2)},
		{read(t, third), together(set, read(t, third)), stamp(6, 5, 2)},
		{read(t, third, "keep 2 2 4 0 9", next), together(set[:2], read(t, next), set[2:], read(t, "keep 2 2 4 0 9", third)), stamp(7, 1, 2)},
		{read(t, "keep 5 1000000 6 3 1"), set, stamp(6, 5, 2)},
	}
	for _, row := range rows {
		got := receive(t, regionAt(6, 4, 2, set), row.l, 6)
		if !sameRegion(got, impl.Region{Id: 2, Clock: row.clock, Set: row.want}) {
			t.Errorf("Received(.., %v, 6) = %v", row.l, got)
		}
	}
}

func TestReceivedNone(t *testing.T) {
	for _, r := range rightRegions(t) {
		for _, now := range []int64{0, 9, impl.MaxTime} {
			for _, l := range [][]impl.Update{nil, {}} {
				if got := receive(t, r, l, now); !sameRegion(got, r) {
					t.Errorf("Received(%v, none, %d) = %v", r, now, got)
				}
			}
		}
	}
}

func TestReceivedClock(t *testing.T) {
	rows := []struct {
		wall, count, now int64
		l                []string
		want             impl.Stamp
	}{
		{0, 0, 0, []string{"keep 1 1 0 0 1"}, stamp(0, 1, 2)},
		{5, 3, 4, []string{"keep 1 1 5 2 1"}, stamp(5, 4, 2)},
		{5, 3, 4, []string{"keep 1 1 5 3 1"}, stamp(5, 4, 2)},
		{5, 3, 4, []string{"keep 1 1 5 4 1"}, stamp(5, 5, 2)},
		{5, 3, 6, []string{"keep 1 1 5 4 1"}, stamp(6, 0, 2)},
		{5, 3, 6, []string{"keep 1 1 5 4 1", "keep 3 1 2 9 1"}, stamp(6, 1, 2)},
		{5, 3, 6, []string{"keep 1 1 9 4 1", "keep 3 1 2 9 1", "keep 4 1 9 5 1"}, stamp(9, 7, 2)},
		{5, 3, 6, []string{"keep 4 1 9 7 1", "keep 1 1 9 4 1"}, stamp(9, 9, 2)},
		{5, 3, 6, []string{"keep 5 1 1000000000 0 1"}, stamp(impl.MaxTime, 1, 2)},
		{5, 3, impl.MaxTime, []string{"keep 5 1 9 1000000 1"}, stamp(impl.MaxTime, 0, 2)},
		{5, 3, 6, []string{"keep 5 1 1000000000 999999 1"}, stamp(impl.MaxTime, impl.MaxCount, 2)},
		{5, 3, 5, []string{"keep 5 1 5 999999 1"}, stamp(5, impl.MaxCount, 2)},
		{5, impl.MaxCount - 1, 5, []string{"keep 5 1 0 0 1"}, stamp(5, impl.MaxCount, 2)},
		{5, impl.MaxCount, 6, []string{"keep 5 1 0 0 1"}, stamp(6, 0, 2)},
		{5, impl.MaxCount, 5, []string{"keep 5 1 6 0 1"}, stamp(6, 1, 2)},
		{5, 3, 6, []string{"keep 5 1 4 1000000 1"}, stamp(6, 0, 2)},
	}
	for _, row := range rows {
		l := read(t, row.l...)
		got := receive(t, regionAt(row.wall, row.count, 2, nil), l, row.now)
		if got.Clock != row.want || got.Id != 2 || len(got.Set) != len(l) {
			t.Errorf("a clock of %d and %d that meets %v at %d: %v", row.wall, row.count, row.l, row.now, got)
		}
	}
}

func TestReceivedClockRefused(t *testing.T) {
	set := keeps(3, 2)
	rows := []struct {
		wall, count, now int64
		l                []string
	}{
		{5, 3, 6, []string{"keep 5 1 1000000000 1000000 1"}},
		{5, 3, impl.MaxTime, []string{"keep 5 1 1000000000 1000000 1"}},
		{5, 3, 6, []string{"keep 5 1 6 1000000 1"}},
		{5, impl.MaxCount, 5, []string{"keep 5 1 0 0 1"}},
		{5, impl.MaxCount, 0, []string{"keep 5 1 5 1000000 1"}},
		{5, impl.MaxCount - 1, 5, []string{"keep 5 1 0 0 1", "keep 4 1 0 0 1"}},
		{impl.MaxTime, impl.MaxCount, impl.MaxTime, []string{"keep 5 1 0 0 1"}},
		// Those that are passed over are met, too, wherever they stand.
		{5, 3, 6, []string{"keep 5 2 1000000000 1000000 1"}},
		{5, 3, 6, []string{"keep 3 1 1000000000 1000000 1"}},
		{5, 3, 6, []string{"keep 5 1 7 0 1", "keep 4 9 1000000000 1000000 1", "keep 5 2 8 0 1"}},
		{5, 3, 6, []string{"keep 5 1 1000000000 999999 1", "keep 4 1 0 0 1"}},
	}
	for _, row := range rows {
		refuseReceived(t, regionAt(row.wall, row.count, 2, set), read(t, row.l...), row.now, impl.RgClock)
	}
}

func TestReceivedLimits(t *testing.T) {
	fresh, _ := impl.RegionNew(4)
	if got := receive(t, fresh, keeps(3, 60), 0); !sameRegion(got, regionAt(60, 1, 4, keeps(3, 60))) {
		t.Errorf("MaxUpdates received: %v", got)
	}
	refuseReceived(t, fresh, keeps(3, 61), 0, impl.RgForm)
	refuseReceived(t, regionAt(1, 0, 4, keeps(1, 1)), slices.Repeat(keeps(1, 1), 61), 9, impl.RgForm)
	if got := receive(t, regionAt(1, 0, 4, keeps(1, 1)), slices.Repeat(keeps(1, 1), 60), 9); !sameRegion(got, regionAt(9, 59, 4, keeps(1, 1))) {
		t.Errorf("one, MaxUpdates times: %v", got)
	}
	if got := receive(t, regionAt(40, 0, 1, keeps(1, 40)), keeps(2, 20), 50); len(got.Set) != impl.MaxUpdates {
		t.Errorf("a set of MaxUpdates: %v", got)
	}
	refuseReceived(t, regionAt(40, 0, 1, keeps(1, 40)), keeps(2, 21), 50, impl.RgFull)
	refuseReceived(t, regionAt(60, 0, 1, keeps(1, 60)), keeps(2, 1), 99, impl.RgFull)
	refuseReceived(t, regionAt(60, 0, 1, keeps(1, 60)), keeps(1, 61)[60:], 99, impl.RgFull)
	if got := receive(t, regionAt(60, 0, 1, keeps(1, 60)), read(t, "keep 2 2 1 0 1"), 99); !sameRegion(got, regionAt(99, 0, 1, keeps(1, 60))) {
		t.Errorf("one that is passed over by a full set: %v", got)
	}
	// The next one of its region whose stamp does not go on can't be had.
	r := regionAt(6, 4, 2, read(t, "keep 1 1 5 0 1", "life 1 2 6 4 1 1"))
	for _, s := range []string{"keep 1 3 6 4 1", "keep 1 3 6 3 1", "keep 1 3 5 9 1"} {
		refuseReceived(t, r, read(t, s), 9, impl.RgFull)
		refuseReceived(t, r, read(t, "keep 3 1 0 0 1", s, "keep 3 2 1 0 1"), 9, impl.RgFull)
	}
	for _, now := range []int64{0, impl.MaxTime} {
		receive(t, r, keeps(3, 2), now)
	}
}

func TestReceivedForm(t *testing.T) {
	r := regionAt(9, 4, 2, read(t, "keep 1 1 3 9 1", "life 2 1 9 4 7 1"))
	for _, now := range wrongTimes {
		for _, l := range [][]impl.Update{nil, keeps(3, 1), r.Set} {
			refuseReceived(t, r, l, now, impl.RgForm)
		}
	}
	for _, u := range wrongUpdates() {
		refuseReceived(t, r, []impl.Update{u}, 10, impl.RgForm)
		refuseReceived(t, r, []impl.Update{keeps(3, 1)[0], u}, 10, impl.RgForm)
		refuseReceived(t, r, []impl.Update{u, keeps(3, 1)[0]}, 10, impl.RgForm)
	}
	far := keeps(3, 9)[8]
	far.Trace = 0
	refuseReceived(t, r, []impl.Update{far}, 10, impl.RgForm)
}

func TestReceivedWrong(t *testing.T) {
	for _, r := range wrongRegions(t) {
		for _, l := range [][]impl.Update{nil, keeps(3, 1), {{}}, keeps(3, 61)} {
			refuseReceived(t, r, l, 70, impl.RgWrong)
			refuseReceived(t, r, l, -1, impl.RgWrong)
		}
	}
}

// fullBy makes Taken false, with a list whose stamps the clock can meet.
func fullBy(t *testing.T, way int, r *impl.Region) []impl.Update {
	t.Helper()
	if way%2 == 0 {
		return read(t, "keep 3 4 3 0 1")
	}
	r.Set = filled(*r)
	return read(t, "keep 5 1 3 0 1")
}

func TestReceivedFirstRefusal(t *testing.T) {
	const wrong, form, full, clock = 1, 2, 4, 8
	inOrder := []struct{ bit, code int64 }{{wrong, impl.RgWrong}, {form, impl.RgForm}, {full, impl.RgFull}, {clock, impl.RgClock}}
	greatest := read(t, "keep 1 9 1000000000 1000000 1")
	forms := []func(l *[]impl.Update, now *int64){
		func(l *[]impl.Update, now *int64) { *now = -1 },
		func(l *[]impl.Update, now *int64) { *now = impl.MaxTime + 1 },
		func(l *[]impl.Update, now *int64) { *l = together(*l, []impl.Update{{}}) },
		func(l *[]impl.Update, now *int64) { *l = together([]impl.Update{{}}, *l) },
		func(l *[]impl.Update, now *int64) { *l = together(*l, slices.Repeat(keeps(1, 1), impl.MaxUpdates)) },
	}
	receive(t, meeting(t), keeps(5, 1), 200)
	for met := int64(1); met < 16; met++ {
		for way := range 60 {
			r, l, now := meeting(t), keeps(5, 1), int64(200)
			if met&full != 0 {
				l = fullBy(t, way, &r)
			}
			if met&clock != 0 && way%3 == 0 {
				r.Clock.Count, now = impl.MaxCount, 100
			} else if met&clock != 0 && way%3 == 1 {
				l = together(l, greatest)
			} else if met&clock != 0 {
				l = together(greatest, l)
			}
			if met&form != 0 {
				forms[way%len(forms)](&l, &now)
			}
			if met&wrong != 0 {
				spoilRegion[way%len(spoilRegion)](&r)
			}
			for _, first := range inOrder {
				if met&first.bit != 0 {
					refuseReceived(t, r, l, now, first.code)
					break
				}
			}
		}
	}
}

// P5: two that retire a trace without knowing of one another retire it once, so that one revival shows it to all.
func TestRetiredOnce(t *testing.T) {
	a, _ := impl.RegionNew(1)
	b, _ := impl.RegionNew(2)
	a, mine := issue(t, a, op(impl.OpRetire, 7), 3)
	b, other := issue(t, b, op(impl.OpRetire, 7), 8)
	if mine.Level != 1 || other.Level != 1 {
		t.Fatal(mine, other)
	}
	a, b = receive(t, a, b.Set, 9), receive(t, b, a.Set, 9)
	for _, r := range []impl.Region{a, b} {
		if impl.LevelOf(r.Set, 7) != 1 || impl.Visible(r.Set, 7) {
			t.Errorf("retired by both: %v", r)
		}
		refuseIssued(t, r, op(impl.OpRetire, 7), 10, impl.RgNot)
	}
	a, shown := issue(t, a, op(impl.OpRevive, 7), 10)
	b = receive(t, b, []impl.Update{shown}, 11)
	for _, r := range []impl.Region{a, b} {
		if impl.LevelOf(r.Set, 7) != 2 || !impl.Visible(r.Set, 7) {
			t.Errorf("revived by one: %v", r)
		}
		refuseIssued(t, r, op(impl.OpRevive, 7), 12, impl.RgNot)
	}
}

// setOf has the updates of one region alone.
func setOf(l []impl.Update, region int64) []impl.Update {
	var own []impl.Update
	for _, u := range l {
		if u.Dot.Region == region {
			own = append(own, u)
		}
	}
	return own
}

// regionByWords and its two neighbours below go over the words of the document, with nothing of a region's own code.
func regionByWords(r impl.Region) bool {
	right := 1 <= r.Id && r.Id <= impl.MaxRegions && impl.StampOk(r.Clock) && r.Clock.Region == r.Id && setByWords(r.Set)
	for _, u := range r.Set {
		right = right && u.Stamp.Wall <= r.Clock.Wall && (u.Stamp.Wall != r.Clock.Wall || u.Stamp.Count <= r.Clock.Count)
	}
	return right
}

func issuedByWords(r impl.Region, o impl.Op, now int64) (impl.Region, impl.Update, int64) {
	if !regionByWords(r) {
		return impl.Region{}, impl.Update{}, impl.RgWrong
	}
	u := impl.Update{Dot: impl.Dot{Region: r.Id, N: int64(len(setOf(r.Set, r.Id))) + 1}, Trace: o.Trace}
	visible := impl.Visible(r.Set, o.Trace)
	form, not := 0 <= now && now <= impl.MaxTime && 1 <= o.Trace && o.Trace <= impl.MaxId, false
	switch o.Kind {
	case impl.OpSpan:
		form = form && impl.SpanOk(o.Span)
		u.Kind, u.Span = impl.UpSpan, o.Span
	case impl.OpKeep:
		form = form && o.Span == impl.Span{}
		u.Kind = impl.UpKeep
	case impl.OpRetire, impl.OpRevive:
		form = form && o.Span == impl.Span{}
		not = visible == (o.Kind == impl.OpRevive)
		u.Kind, u.Level = impl.UpLife, impl.LevelOf(r.Set, o.Trace)+1
	default:
		form = false
	}
	clock, goesOn := impl.Ticked(r.Clock, now)
	u.Stamp = clock
	next := impl.Region{Id: r.Id, Clock: clock, Set: takenByWords(r.Set, []impl.Update{u})}
	switch {
	case !form:
		return r, impl.Update{}, impl.RgForm
	case not:
		return r, impl.Update{}, impl.RgNot
	case !goesOn:
		return r, impl.Update{}, impl.RgClock
	case !regionByWords(next):
		return r, impl.Update{}, impl.RgFull
	}
	return next, u, impl.RgDone
}

func receivedByWords(r impl.Region, l []impl.Update, now int64) (impl.Region, int64) {
	if !regionByWords(r) {
		return impl.Region{}, impl.RgWrong
	}
	form := len(l) <= impl.MaxUpdates && 0 <= now && now <= impl.MaxTime
	clock, goesOn := r.Clock, true
	for _, u := range l {
		form = form && impl.UpdateOk(u)
		if goesOn {
			clock, goesOn = impl.Met(clock, u.Stamp, now)
		}
	}
	next := impl.Region{Id: r.Id, Clock: clock, Set: takenByWords(r.Set, l)}
	switch {
	case !form:
		return r, impl.RgForm
	case !setByWords(next.Set):
		return r, impl.RgFull
	case !goesOn:
		return r, impl.RgClock
	}
	return next, impl.RgDone
}

// anyRegion is near its limits more often than not, and not always right.
func anyRegion(r *rand.Rand, history [][]impl.Update) impl.Region {
	at := impl.Region{Id: 1 + r.Int63n(impl.MaxRegions), Set: anySet(r, history)}
	at.Clock.Region = at.Id
	for _, u := range at.Set {
		if impl.StampAhead(at.Clock, u.Stamp) {
			at.Clock.Wall, at.Clock.Count = u.Stamp.Wall, u.Stamp.Count
		}
	}
	switch r.Intn(8) {
	case 0:
		at.Clock.Count = impl.MaxCount - r.Int63n(3)
	case 1:
		at.Clock.Wall += r.Int63n(3)
	case 2:
		at.Clock.Count = max(0, at.Clock.Count-1)
	case 3:
		at.Clock.Wall = impl.MaxTime
	case 4:
		at.Clock.Region = 1 + r.Int63n(impl.MaxRegions)
	}
	return at
}

func anyOp(r *rand.Rand) impl.Op {
	o := op(1+r.Int63n(4), 1+r.Int63n(3))
	if o.Kind == impl.OpSpan {
		o.Span = span(1+r.Int63n(4), 5*r.Int63n(2), []string{"web", "db"}[r.Intn(2)], r.Int63n(4), 3+r.Int63n(4))
	}
	switch r.Intn(16) {
	case 0:
		o.Kind = r.Int63n(7) - 1
	case 1:
		o.Trace = []int64{0, 1, impl.MaxId, impl.MaxId + 1}[r.Intn(4)]
	case 2:
		o.Span.Start = r.Int63n(9)
	}
	return o
}

func anyNow(r *rand.Rand) int64 {
	if r.Intn(8) == 0 {
		return []int64{-1, 0, impl.MaxTime, impl.MaxTime + 1}[r.Intn(4)]
	}
	return r.Int63n(25)
}

func TestIssuedByWords(t *testing.T) {
	r := rand.New(rand.NewSource(19))
	codes := [6]int{}
	for range 20000 {
		at, o, now := anyRegion(r, anyHistory(r, 4+20*r.Intn(2))), anyOp(r), anyNow(r)
		got, u, code := impl.Issued(at, o, now)
		want, wantU, wantCode := issuedByWords(at, o, now)
		if code != wantCode || u != wantU || !sameRegion(got, want) {
			t.Fatalf("Issued(%v, %v, %d) = %v, %v, %d, not %v, %v, %d", at, o, now, got, u, code, want, wantU, wantCode)
		}
		codes[code]++
	}
	if slices.Contains(codes[:], 0) {
		t.Errorf("a code was never met: %v", codes)
	}
}

func TestReceivedByWords(t *testing.T) {
	r := rand.New(rand.NewSource(23))
	codes := [5]int{}
	for range 10000 {
		history := anyHistory(r, 4+20*r.Intn(2))
		at, now := anyRegion(r, history), anyNow(r)
		l := together(anySet(r, history), anySet(r, anyHistory(r, 3)))
		r.Shuffle(r.Intn(len(l)+1), func(i, j int) { l[i], l[j] = l[j], l[i] })
		l = l[:min(len(l), impl.MaxUpdates+r.Intn(2))]
		if len(l) > 0 && r.Intn(8) == 0 {
			l[r.Intn(len(l))].Trace = 0
		}
		got, code := impl.Received(at, l, now)
		want, wantCode := receivedByWords(at, l, now)
		if code != wantCode || !sameRegion(got, want) {
			t.Fatalf("Received(%v, %v, %d) = %v, %d, not %v, %d", at, l, now, got, code, want, wantCode)
		}
		codes[code]++
	}
	if slices.Contains(codes[:], 0) {
		t.Errorf("a code was never met: %v", codes)
	}
}

// seen has of a region the stamps of all that it issued and received, had or not.
type seen [impl.MaxRegions + 1][]impl.Stamp

func checkIssued(t *testing.T, before, after impl.Region, u impl.Update, known []impl.Stamp) {
	t.Helper()
	if u.Dot != (impl.Dot{Region: before.Id, N: impl.VecOf(impl.VectorOf(before.Set), before.Id) + 1}) {
		t.Fatalf("%v is not the next update of %v", u, before)
	}
	for _, s := range known {
		if u.Stamp.Wall < s.Wall || u.Stamp.Wall == s.Wall && u.Stamp.Count <= s.Count {
			t.Fatalf("%v is not behind %v", u, s)
		}
	}
	if joined, ok := impl.Taken(before.Set, []impl.Update{u}); !ok || !slices.Equal(joined, after.Set) || after.Clock != u.Stamp {
		t.Fatalf("%v, with %v: %v", before, u, after)
	}
}

// P5: what a region issues is its next update, behind all it has seen, whatever the times are and whatever comes.
func TestIssuedIsBehindAllSeen(t *testing.T) {
	r := rand.New(rand.NewSource(29))
	for range 300 {
		var regions [impl.MaxRegions + 1]impl.Region
		for id := range regions {
			regions[id], _ = impl.RegionNew(int64(id))
		}
		known := seen{}
		for range 60 {
			id, from := 1+r.Intn(impl.MaxRegions), 1+r.Intn(impl.MaxRegions)
			if set := regions[from].Set; r.Intn(2) == 0 {
				first := r.Intn(len(set) + 1)
				piece := set[first : first+r.Intn(len(set)-first+1)]
				regions[id] = receive(t, regions[id], piece, r.Int63n(30))
				for _, u := range piece {
					known[id] = append(known[id], u.Stamp)
				}
				continue
			}
			before := regions[id]
			after, u, code := impl.Issued(before, anyOp(r), r.Int63n(30))
			regions[id] = after
			if code != impl.RgDone {
				continue
			}
			checkIssued(t, before, after, u, known[id])
			known[id] = append(known[id], u.Stamp)
		}
	}
}

// apart says that no Service of got lies in the memory of one of these.
func apart(t *testing.T, got []string, args ...string) {
	t.Helper()
	for i, s := range got {
		for _, arg := range append(args, got[:i]...) {
			if s != "" && unsafe.StringData(s) == unsafe.StringData(arg) {
				t.Errorf("Service %q is memory of another", s)
			}
		}
	}
}

func TestRegionsAreNewMemory(t *testing.T) {
	room := together(read(t, "span 1 1 1 0 7 1 0 0 0 web"), keeps(2, 2), keeps(3, 3), keeps(4, 1))
	kept := slices.Clone(room)
	more := together(keeps(2, 3), keeps(4, 1), keeps(5, 1), keeps(5, 1))
	keptMore := slices.Clone(more)
	db := spanOp(7, span(2, 1, "db", 0, 0))
	for end := 1; end < len(room); end++ {
		for _, id := range []int64{1, 2, 5} {
			for _, count := range []int64{0, impl.MaxCount} {
				at := regionAt(100, count, id, room[:end])
				for _, o := range []impl.Op{db, op(impl.OpKeep, 7), op(impl.OpRevive, 7), op(9, 7)} {
					for _, now := range []int64{-1, 50, 150} {
						got, u, _ := impl.Issued(at, o, now)
						services := []string{u.Span.Service}
						for _, x := range got.Set {
							services = append(services, x.Span.Service)
						}
						apart(t, services, o.Span.Service, room[0].Span.Service)
						other, _ := impl.Received(at, more[:3], now)
						again, _ := impl.Received(at, nil, now)
						impl.RegionOk(at)
						spoilUpdates(got.Set, other.Set, again.Set)
					}
				}
			}
		}
		if !slices.Equal(room, kept) || !slices.Equal(more, keptMore) {
			t.Fatalf("an argument was written: %v, %v", room, more)
		}
	}
}

func TestServicesReceivedAreNewMemory(t *testing.T) {
	have, come := read(t, "span 1 1 1 0 7 1 0 0 0 web"), read(t, "span 3 1 1 0 7 2 0 0 0 db")
	for _, at := range []impl.Region{regionAt(9, 0, 2, have), regionAt(9, impl.MaxCount, 2, have)} {
		got, _ := impl.Received(at, come, 5)
		var services []string
		for _, u := range got.Set {
			services = append(services, u.Span.Service)
		}
		apart(t, services, have[0].Span.Service, come[0].Span.Service)
	}
}

// P9: the same arguments give the same answers, also when others were refused between.
func TestRegionsTellTheSameAgain(t *testing.T) {
	at, o := regionAt(100, 0, 2, together(keeps(1, 9), keeps(2, 9), keeps(5, 9))), op(impl.OpRetire, 7)
	want, wantU := issue(t, at, o, 120)
	wantTaken := receive(t, at, keeps(3, 5), 120)
	for range 50 {
		refuseIssued(t, at, op(impl.OpRevive, 7), 120, impl.RgNot)
		refuseReceived(t, at, keeps(3, 5), -1, impl.RgForm)
		got, u := issue(t, at, o, 120)
		if taken := receive(t, at, keeps(3, 5), 120); u != wantU || !sameRegion(got, want) || !sameRegion(taken, wantTaken) {
			t.Fatalf("%v, %v, %v", got, u, taken)
		}
	}
}
