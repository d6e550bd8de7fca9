package tests

import (
	"math"
	"math/rand"
	"reflect"
	"runtime"
	"slices"
	"sync"
	"testing"
	"unsafe"

	"loop.example/g00368/impl"
)

func opAct(who int64, o impl.Op) impl.WAct {
	return impl.WAct{Kind: impl.WaOp, Who: who, Op: o}
}

func keepAct(who int64) impl.WAct {
	return opAct(who, op(impl.OpKeep, who))
}

func askAct(who, to int64) impl.WAct {
	return impl.WAct{Kind: impl.WaAsk, Who: who, To: to}
}

func mailAct(kind, at int64) impl.WAct {
	return impl.WAct{Kind: kind, At: at}
}

func asks(from, to int64, v []impl.Dot) impl.Mail {
	return impl.Mail{From: from, To: to, Ask: true, Vector: v}
}

func tells(from, to int64, l ...impl.Update) impl.Mail {
	return impl.Mail{From: from, To: to, Delta: l}
}

// worldAt has a region for each set, all with a clock of that Wall.
func worldAt(now, wall int64, sets ...[]impl.Update) impl.World {
	w := impl.World{Now: now}
	for i, l := range sets {
		w.Regions = append(w.Regions, regionAt(wall, 0, int64(i)+1, l))
	}
	return w
}

func sameMail(a, b impl.Mail) bool {
	return a.From == b.From && a.To == b.To && a.Ask == b.Ask && slices.Equal(a.Vector, b.Vector) && slices.Equal(a.Delta, b.Delta)
}

func sameWorld(a, b impl.World) bool {
	return a.Now == b.Now && slices.EqualFunc(a.Regions, b.Regions, sameRegion) && slices.EqualFunc(a.Mail, b.Mail, sameMail)
}

// withMail and withRegion leave w as it is.
func withMail(w impl.World, mail ...impl.Mail) impl.World {
	w.Mail = slices.Concat(w.Mail, mail)
	return w
}

func withRegion(w impl.World, r impl.Region) impl.World {
	w.Regions = slices.Clone(w.Regions)
	w.Regions[r.Id-1] = r
	return w
}

// do wants the act done, a world that is right, and the time one later.
func do(t *testing.T, w impl.World, a impl.WAct) impl.World {
	t.Helper()
	next, code := impl.WorldDo(w, a)
	if code != impl.WdDone || !impl.WorldOk(next) || !worldByWords(next) || next.Now != min(w.Now+1, impl.MaxTime) {
		t.Fatalf("WorldDo(%v, %v) = %v, %d", w, a, next, code)
	}
	return next
}

func refuseDo(t *testing.T, w impl.World, a impl.WAct, code int64) {
	t.Helper()
	want := w
	if code == impl.WdWrong {
		want = impl.World{}
	}
	if got, c := impl.WorldDo(w, a); c != code || !sameWorld(got, want) {
		t.Errorf("WorldDo(%v, %v) = %v, %d, not %d", w, a, got, c, code)
	}
}

func calm(t *testing.T, w impl.World) (impl.World, int64) {
	t.Helper()
	next, rounds, ok := impl.Calmed(w)
	if !ok || !impl.WorldOk(next) || len(next.Mail) != 0 || next.Now != w.Now {
		t.Fatalf("Calmed(%v) = %v, %d, %v", w, next, rounds, ok)
	}
	return next, rounds
}

func refuseCalmed(t *testing.T, w impl.World) {
	t.Helper()
	if got, rounds, ok := impl.Calmed(w); ok || rounds != 0 || !sameWorld(got, impl.World{}) {
		t.Errorf("Calmed(%v) = %v, %d, %v", w, got, rounds, ok)
	}
}

// trio is a right world of three regions that have not all of one another.
func trio() impl.World {
	return worldAt(50, 40, together(keeps(1, 5), keeps(2, 1)), together(keeps(1, 2), keeps(2, 3)), together(keeps(1, 5), keeps(2, 2), keeps(3, 1)))
}

func rightWorlds(t *testing.T) []impl.World {
	t.Helper()
	one, two := keeps(1, 5), keeps(2, 3)
	ask, tell := asks(2, 1, dots(1, 2, 2, 3)), tells(1, 2, one[2:5]...)
	all := []impl.World{
		worldAt(0, 0, nil, nil), worldAt(0, 0, nil, nil, nil), worldAt(0, 0, nil, nil, nil, nil, nil), worldAt(impl.MaxTime, 0, nil, nil),
		trio(), withMail(trio(), ask, tell), withMail(trio(), slices.Repeat([]impl.Mail{ask}, 40)...), withMail(trio(), slices.Repeat([]impl.Mail{tell}, 40)...),
		// The time may be behind the clocks, or ahead of them.
		worldAt(0, 40, one, one), worldAt(impl.MaxTime, impl.MaxTime, one, nil),
		// MaxUpdates in all, though no set has them; in all of them; in one.
		worldAt(0, 60, keeps(1, 30), keeps(2, 30)), worldAt(0, 60, keeps(1, 12), keeps(2, 12), keeps(3, 12), keeps(4, 12), keeps(5, 12)),
		worldAt(0, 60, keeps(1, 60), keeps(1, 60), keeps(1, 60)), worldAt(0, 60, nil, keeps(2, 60)),
		withMail(worldAt(0, 0, nil, nil), asks(1, 2, nil), asks(2, 1, []impl.Dot{})),
		withMail(worldAt(0, 60, one, two), impl.Mail{From: 2, To: 1, Ask: true, Vector: dots(2, 3), Delta: []impl.Update{}}, impl.Mail{From: 2, To: 1, Vector: []impl.Dot{}, Delta: two}),
		// What is asked may be of regions that are not there; what is told may be had, be of another one, stand in any order and twice.
		withMail(trio(), asks(1, 3, dots(1, 1, 2, impl.MaxCount, 4, 1, 5, 9)), asks(3, 1, dots(5, impl.MaxCount))),
		withMail(trio(), tells(1, 2, one[0]), tells(2, 1, one[4], one[0]), tells(3, 1, two[2], keeps(3, 1)[0], one[1]), tells(3, 2, one[3], one[3], one[3])),
	}
	for _, v := range rightVectors() {
		all = append(all, withMail(trio(), asks(3, 2, v)))
	}
	return all
}

func wrongMail(t *testing.T) []impl.Mail {
	t.Helper()
	one := keeps(1, 5)
	all := []impl.Mail{
		{}, {Ask: true}, {From: 1, To: 2},
		asks(1, 1, nil), asks(3, 3, nil), tells(2, 2, one[0]),
		{From: 2, To: 1, Ask: true, Vector: dots(1, 2), Delta: one[:1]}, {From: 2, To: 1, Ask: true, Delta: one[:3]},
		{From: 2, To: 1, Vector: dots(1, 2), Delta: one[:1]}, {From: 2, To: 1, Vector: dots(1, 2)}, {From: 2, To: 1, Vector: dots(9, 9), Delta: one[:3]},
		tells(1, 2), tells(1, 2, one[:4]...), tells(1, 2, one[0], one[0], one[0], one[0]), tells(1, 2, slices.Repeat(one, 20)...),
		// An update of no set: one too late, one of a region without any, or another one with a Dot that is there.
		tells(1, 2, keeps(1, 6)[5]), tells(1, 2, keeps(2, 4)[3]), tells(1, 2, keeps(4, 1)[0]), tells(1, 2, one[0], one[1], keeps(3, 2)[1]),
		tells(1, 2, read(t, "keep 1 1 1 0 2")...), tells(1, 2, read(t, "keep 1 1 1 1 1")...), tells(1, 2, read(t, "life 1 1 1 0 1 1")...),
		tells(1, 2, impl.Update{}), tells(1, 2, one[0], impl.Update{}), tells(1, 2, impl.Update{Dot: one[0].Dot}),
	}
	for _, id := range []int64{0, 4, -1, 6, math.MinInt64, math.MaxInt64} {
		all = append(all, asks(id, 1, nil), asks(1, id, nil), tells(id, 1, one[0]), tells(1, id, one[0]), asks(id, id, nil))
	}
	for _, v := range wrongVectors {
		all = append(all, asks(1, 2, v))
	}
	for _, u := range wrongUpdates() {
		all = append(all, tells(1, 2, u), tells(1, 2, one[0], one[1], u))
	}
	return all
}

func wrongWorlds(t *testing.T) []impl.World {
	t.Helper()
	one, w := keeps(1, 5), trio()
	all := []impl.World{
		{}, worldAt(0, 0), worldAt(0, 0, nil), worldAt(0, 60, one), worldAt(0, 0, nil, nil, nil, nil, nil, nil),
		{Regions: []impl.Region{regionAt(0, 0, 2, nil), regionAt(0, 0, 1, nil)}}, {Regions: []impl.Region{regionAt(0, 0, 1, nil), regionAt(0, 0, 1, nil)}},
		{Regions: []impl.Region{regionAt(0, 0, 2, nil), regionAt(0, 0, 3, nil)}}, {Regions: []impl.Region{regionAt(0, 0, 1, nil), regionAt(0, 0, 3, nil)}},
		{Regions: []impl.Region{{}, {}}}, {Regions: []impl.Region{regionAt(0, 0, 1, nil), {}}}, {Regions: slices.Repeat(w.Regions, 100)},
		// Sets that do not agree, in the first two and in the last two.
		worldAt(0, 60, one, read(t, "keep 1 1 1 0 2")), worldAt(0, 60, one, read(t, "keep 1 1 1 1 1")),
		worldAt(0, 60, nil, keeps(2, 2), read(t, "keep 2 1 1 0 1")), worldAt(0, 60, keeps(1, 1), nil, read(t, "life 1 1 1 0 1 1")),
		// Sets that agree and are too many when they are joined.
		worldAt(0, 70, keeps(1, 30), keeps(2, 31)), worldAt(0, 70, keeps(1, 60), keeps(2, 1)), worldAt(0, 70, keeps(1, 60), nil, keeps(3, 1)),
		worldAt(0, 70, keeps(1, 12), keeps(2, 12), keeps(3, 12), keeps(4, 12), keeps(5, 13)),
		// An update that its own region has not, or whose own region is not there.
		worldAt(0, 60, nil, one), worldAt(0, 60, one[:4], one), worldAt(0, 60, keeps(2, 1), nil), worldAt(0, 60, nil, keeps(2, 2), keeps(2, 3)),
		worldAt(0, 60, keeps(3, 1), nil), worldAt(0, 60, nil, keeps(3, 1)), worldAt(0, 60, nil, keeps(5, 1), nil, nil), worldAt(0, 60, nil, nil, nil, nil, keeps(1, 1)),
		withMail(w, slices.Repeat([]impl.Mail{asks(1, 2, nil)}, 41)...), withMail(w, slices.Repeat([]impl.Mail{tells(1, 2, one[0])}, 41)...),
		withMail(w, slices.Repeat([]impl.Mail{asks(1, 2, nil)}, 400)...),
	}
	for _, now := range wrongTimes {
		late := w
		late.Now = now
		all = append(all, late)
	}
	for _, r := range wrongRegions(t) {
		for at := range 3 {
			spoilt := w
			spoilt.Regions = slices.Clone(w.Regions)
			spoilt.Regions[at] = r
			all = append(all, spoilt)
		}
	}
	for _, m := range wrongMail(t) {
		all = append(all, withMail(w, m), withMail(w, asks(1, 2, nil), m), withMail(w, m, tells(1, 2, one[0])))
	}
	return all
}

func TestWorldOk(t *testing.T) {
	for _, w := range rightWorlds(t) {
		if !impl.WorldOk(w) || !worldByWords(w) {
			t.Errorf("%v is refused", w)
		}
	}
	for _, w := range wrongWorlds(t) {
		if impl.WorldOk(w) || worldByWords(w) {
			t.Errorf("%v is accepted", w)
		}
	}
}

func TestWorldNew(t *testing.T) {
	for n := int64(2); n <= impl.MaxRegions; n++ {
		if w, ok := impl.WorldNew(n); !ok || !sameWorld(w, worldAt(0, 0, make([][]impl.Update, n)...)) || !impl.WorldOk(w) {
			t.Errorf("WorldNew(%d) = %v, %v", n, w, ok)
		}
	}
	for _, n := range []int64{1, impl.MaxRegions + 1, 0, -1, math.MinInt64, math.MaxInt64} {
		if w, ok := impl.WorldNew(n); ok || !sameWorld(w, impl.World{}) {
			t.Errorf("WorldNew(%d) = %v, %v", n, w, ok)
		}
	}
}

func TestOpActs(t *testing.T) {
	w := withMail(trio(), asks(1, 2, nil), tells(1, 2, keeps(1, 1)...))
	db := spanOp(7, span(2, 0, "db", 3, 4))
	for _, o := range []impl.Op{db, op(impl.OpKeep, 7), op(impl.OpRetire, 7), op(impl.OpRetire, impl.MaxId)} {
		for _, r := range w.Regions {
			own, _ := issue(t, r, o, w.Now)
			want := withRegion(w, own)
			want.Now = 51
			if got := do(t, w, opAct(r.Id, o)); !sameWorld(got, want) {
				t.Errorf("%v at %d: %v", o, r.Id, got)
			}
		}
	}
	shown := do(t, do(t, w, opAct(2, op(impl.OpRetire, 7))), opAct(2, op(impl.OpRevive, 7)))
	if set := shown.Regions[1].Set; impl.LevelOf(set, 7) != 2 || set[6].Stamp != stamp(51, 0, 2) || shown.Now != 52 {
		t.Errorf("retired and revived: %v", shown)
	}
}

func TestOpActsRefused(t *testing.T) {
	w := trio()
	hidden := do(t, w, opAct(2, op(impl.OpRetire, 7)))
	stuck := withRegion(w, regionAt(50, impl.MaxCount, 2, w.Regions[1].Set))
	full := worldAt(50, 60, keeps(1, 30), together(keeps(1, 30), keeps(2, 30)))
	greatest := worldAt(50, 40, lives(impl.MaxCount), lives(impl.MaxCount))
	for _, row := range []struct {
		w impl.World
		o impl.Op
	}{
		{w, impl.Op{}}, {w, op(impl.OpKeep, 0)}, {w, op(impl.OpKeep, impl.MaxId+1)}, {w, op(9, 1)}, {w, spanOp(1, impl.Span{})},
		{w, impl.Op{Kind: impl.OpKeep, Trace: 1, Span: impl.Span{End: 1}}},
		{w, op(impl.OpRevive, 7)}, {hidden, op(impl.OpRetire, 7)},
		{stuck, op(impl.OpKeep, 1)}, {full, op(impl.OpKeep, 1)}, {greatest, op(impl.OpRetire, 7)},
	} {
		refuseDo(t, row.w, opAct(2, row.o), impl.WdRegion)
	}
	// What one region refuses another may do.
	do(t, hidden, opAct(1, op(impl.OpRetire, 7)))
	do(t, stuck, keepAct(1))
	do(t, greatest, opAct(2, op(impl.OpKeep, 7)))
}

func TestOpActsFull(t *testing.T) {
	// No set has MaxUpdates, yet all of them together have.
	for _, w := range []impl.World{worldAt(90, 60, keeps(1, 30), keeps(2, 30)), worldAt(90, 60, nil, keeps(2, 59), keeps(3, 1))} {
		for id := range w.Regions {
			refuseDo(t, w, keepAct(int64(id)+1), impl.WdFull)
		}
		do(t, w, askAct(1, 2))
	}
	w := do(t, worldAt(90, 60, keeps(1, 30), keeps(2, 29)), keepAct(1))
	if len(w.Regions[0].Set) != 31 {
		t.Error(w)
	}
	refuseDo(t, w, keepAct(1), impl.WdFull)
	refuseDo(t, w, keepAct(2), impl.WdFull)
	refuseDo(t, worldAt(90, 60, nil, keeps(2, 60)), keepAct(1), impl.WdFull)
	refuseDo(t, worldAt(90, 60, nil, keeps(2, 60)), keepAct(2), impl.WdRegion)
}

func TestAskActs(t *testing.T) {
	w := withMail(trio(), tells(1, 2, keeps(1, 1)...))
	for from := int64(1); from <= 3; from++ {
		for to := int64(1); to <= 3; to++ {
			if from == to {
				refuseDo(t, w, askAct(from, to), impl.WdForm)
				continue
			}
			want := withMail(w, asks(from, to, impl.VectorOf(w.Regions[from-1].Set)))
			want.Now = 51
			if got := do(t, w, askAct(from, to)); !sameWorld(got, want) {
				t.Errorf("%d asks %d: %v", from, to, got)
			}
		}
	}
	fresh, _ := impl.WorldNew(2)
	if got := do(t, fresh, askAct(2, 1)); len(got.Mail) != 1 || !sameMail(got.Mail[0], asks(2, 1, nil)) {
		t.Errorf("one that has nothing asks: %v", got)
	}
}

func TestActsForm(t *testing.T) {
	w := withMail(trio(), asks(1, 2, nil), tells(1, 2, keeps(1, 1)...))
	for _, kind := range []int64{0, 6, -1, math.MinInt64, math.MaxInt64} {
		for _, a := range []impl.WAct{{}, {Who: 1, Op: op(impl.OpKeep, 1)}, {Who: 1, To: 2}, {At: 1}} {
			a.Kind = kind
			refuseDo(t, w, a, impl.WdForm)
		}
	}
	for _, id := range []int64{0, 4, 5, 6, -1, math.MinInt64, math.MaxInt64} {
		for _, a := range []impl.WAct{opAct(id, op(impl.OpKeep, 1)), opAct(id, impl.Op{}), askAct(id, 1), askAct(1, id), askAct(id, id)} {
			refuseDo(t, w, a, impl.WdForm)
		}
	}
	// Each is done as long as what its Kind does not name is zero.
	const who, to, at, o = 1, 2, 4, 8
	named := map[int64]int{impl.WaOp: who | o, impl.WaAsk: who | to, impl.WaDeliver: at, impl.WaLose: at, impl.WaTwice: at}
	base := map[int64]impl.WAct{impl.WaOp: keepAct(1), impl.WaAsk: askAct(1, 2), impl.WaDeliver: mailAct(impl.WaDeliver, 1), impl.WaLose: mailAct(impl.WaLose, 0), impl.WaTwice: mailAct(impl.WaTwice, 1)}
	others := []struct {
		field int
		set   func(a *impl.WAct)
	}{
		{who, func(a *impl.WAct) { a.Who = 1 }}, {who, func(a *impl.WAct) { a.Who = -1 }}, {to, func(a *impl.WAct) { a.To = 2 }}, {to, func(a *impl.WAct) { a.To = -1 }},
		{at, func(a *impl.WAct) { a.At = 1 }}, {at, func(a *impl.WAct) { a.At = -1 }}, {at, func(a *impl.WAct) { a.At = math.MaxInt64 }},
		{o, func(a *impl.WAct) { a.Op = op(impl.OpKeep, 1) }}, {o, func(a *impl.WAct) { a.Op.Kind = 9 }}, {o, func(a *impl.WAct) { a.Op.Trace = 1 }},
		{o, func(a *impl.WAct) { a.Op.Span.Service = "a" }}, {o, func(a *impl.WAct) { a.Op.Span.Id = 1 }}, {o, func(a *impl.WAct) { a.Op.Span.End = -1 }},
	}
	for kind, fields := range named {
		do(t, w, base[kind])
		for _, other := range others {
			if fields&other.field == 0 {
				a := base[kind]
				other.set(&a)
				refuseDo(t, w, a, impl.WdForm)
			}
		}
	}
}

func TestPlaces(t *testing.T) {
	mail := []impl.Mail{asks(1, 2, nil), tells(1, 3, keeps(1, 2)...), asks(3, 1, dots(1, 5, 2, 3, 3, 1)), tells(3, 1, keeps(2, 3)[1:]...)}
	w := withMail(trio(), mail...)
	for _, kind := range []int64{impl.WaDeliver, impl.WaLose, impl.WaTwice} {
		for _, at := range []int64{-1, 4, 5, math.MinInt64, math.MaxInt64} {
			refuseDo(t, w, mailAct(kind, at), impl.WdNone)
		}
		for _, at := range []int64{-1, 0, 1} {
			refuseDo(t, trio(), mailAct(kind, at), impl.WdNone)
		}
		for at := range mail {
			got := do(t, w, mailAct(kind, int64(at)))
			left := slices.Delete(slices.Clone(mail), at, at+1)
			switch kind {
			case impl.WaTwice:
				left = append(slices.Clone(mail), mail[at])
			case impl.WaDeliver:
				left = append(left, backOf(w, mail[at])...)
			}
			if !slices.EqualFunc(got.Mail, left, sameMail) {
				t.Errorf("kind %d at %d: %v", kind, at, got.Mail)
			}
			if kind != impl.WaDeliver && !slices.EqualFunc(got.Regions, w.Regions, sameRegion) {
				t.Errorf("kind %d at %d changed a region: %v", kind, at, got.Regions)
			}
		}
	}
}

// backOf has the mail that is sent back, if there is any.
func backOf(w impl.World, m impl.Mail) []impl.Mail {
	var news []impl.Update
	for _, u := range w.Regions[m.To-1].Set {
		if m.Ask && len(news) < impl.Batch && u.Dot.N > impl.VecOf(m.Vector, u.Dot.Region) {
			news = append(news, u)
		}
	}
	if len(news) == 0 {
		return nil
	}
	return []impl.Mail{tells(m.To, m.From, news...)}
}

func TestAskIsDelivered(t *testing.T) {
	one, two := keeps(1, 5), keeps(2, 3)
	rows := []struct {
		ask  impl.Mail
		want []impl.Update
	}{
		{asks(2, 1, nil), one[:3]}, {asks(2, 1, dots(1, 1)), one[1:4]}, {asks(2, 1, dots(1, 2, 2, 3)), one[2:]}, {asks(2, 1, dots(1, 4)), together(one[4:], two[:1])},
		{asks(2, 1, dots(1, 5)), two[:1]}, {asks(2, 1, dots(1, 5, 2, 1)), nil}, {asks(2, 1, dots(1, 6, 2, 9, 5, 7)), nil},
		{asks(2, 1, dots(1, impl.MaxCount)), two[:1]}, {asks(2, 1, dots(2, 1)), one[:3]}, {asks(1, 3, dots(1, 5, 2, 1)), together(two[1:2], keeps(3, 1))},
		{asks(1, 2, dots(1, 5)), two}, {asks(3, 2, dots(1, 5, 2, 2, 3, 1)), two[2:]}, {asks(3, 2, dots(1, 2, 2, 3)), nil},
	}
	for _, row := range rows {
		last := tells(3, 1, one[0])
		got := do(t, withMail(trio(), row.ask, last), mailAct(impl.WaDeliver, 0))
		want := withMail(trio(), last)
		if want.Now = 51; len(row.want) > 0 {
			want = withMail(want, tells(row.ask.To, row.ask.From, row.want...))
		}
		if !sameWorld(got, want) {
			t.Errorf("%v: %v", row.ask, got)
		}
	}
	fresh, _ := impl.WorldNew(2)
	if got := do(t, withMail(fresh, asks(1, 2, nil)), mailAct(impl.WaDeliver, 0)); len(got.Mail) != 0 {
		t.Errorf("one that has nothing is asked: %v", got)
	}
	// Mail that goes leaves room for mail back.
	crowd := withMail(trio(), slices.Repeat([]impl.Mail{asks(2, 1, nil)}, impl.MaxMail)...)
	if got := do(t, crowd, mailAct(impl.WaDeliver, 7)); len(got.Mail) != impl.MaxMail || !sameMail(got.Mail[39], tells(1, 2, one[:3]...)) {
		t.Errorf("among MaxMail: %v", got.Mail)
	}
}

func TestTellIsDelivered(t *testing.T) {
	one, two := keeps(1, 5), keeps(2, 3)
	rows := []struct {
		to    int64
		delta []impl.Update
		set   []impl.Update
	}{
		{2, one[2:5], together(one, two)}, {2, one[2:3], together(one[:3], two)},
		// Had already, ahead of those that they follow, and in another order.
		{2, one[:2], together(one[:2], two)}, {2, one[3:5], together(one[:2], two)}, {2, []impl.Update{one[4], one[3], one[2]}, together(one[:3], two)},
		{2, []impl.Update{one[3], one[2], one[3]}, together(one[:4], two)}, {2, []impl.Update{one[2], one[2], one[2]}, together(one[:3], two)},
		{2, []impl.Update{one[1], one[2], one[4]}, together(one[:3], two)}, {2, []impl.Update{keeps(3, 1)[0], one[2]}, together(one[:3], two, keeps(3, 1))},
		{1, two[2:], together(one, two[:1])}, {1, two[1:], together(one, two)}, {1, []impl.Update{two[2], two[1]}, together(one, two[:2])},
		{1, one[2:], together(one, two[:1])}, {1, []impl.Update{two[2], keeps(3, 1)[0], two[1]}, together(one, two[:2], keeps(3, 1))},
	}
	for _, row := range rows {
		w := withMail(trio(), asks(1, 2, nil), tells(3, row.to, row.delta...))
		got := do(t, w, mailAct(impl.WaDeliver, 1))
		// Also those that are passed over are met, each by one count.
		r := regionAt(50, int64(len(row.delta))-1, row.to, row.set)
		want := withRegion(withMail(trio(), asks(1, 2, nil)), r)
		if want.Now = 51; !sameWorld(got, want) {
			t.Errorf("%v to %d: %v", row.delta, row.to, got)
		}
	}
}

// Mail that comes ahead of what it follows is not had: it is asked for again.
func TestMailOutOfOrder(t *testing.T) {
	all := keeps(1, 6)
	w := worldAt(50, 6, all, nil)
	early, late := tells(1, 2, all[3:]...), tells(1, 2, all[:3]...)
	w = do(t, withMail(w, early, late, late), mailAct(impl.WaDeliver, 0))
	if !sameRegion(w.Regions[1], regionAt(50, 2, 2, nil)) {
		t.Fatalf("ahead: %v", w.Regions[1])
	}
	w = do(t, w, mailAct(impl.WaDeliver, 0))
	if !sameRegion(w.Regions[1], regionAt(51, 2, 2, all[:3])) {
		t.Fatalf("in turn: %v", w.Regions[1])
	}
	w = do(t, w, mailAct(impl.WaDeliver, 0))
	if !sameRegion(w.Regions[1], regionAt(52, 2, 2, all[:3])) || len(w.Mail) != 0 {
		t.Fatalf("again: %v", w)
	}
	w = do(t, do(t, do(t, w, askAct(2, 1)), mailAct(impl.WaDeliver, 0)), mailAct(impl.WaDeliver, 0))
	if !sameRegion(w.Regions[1], regionAt(55, 2, 2, all)) || len(w.Mail) != 0 {
		t.Fatalf("asked for again: %v", w)
	}
	w = do(t, withMail(w, late, early), mailAct(impl.WaTwice, 1))
	for range 3 {
		w = do(t, w, mailAct(impl.WaDeliver, 0))
	}
	if !slices.Equal(w.Regions[1].Set, all) || !sameRegion(w.Regions[0], regionAt(6, 0, 1, all)) {
		t.Fatalf("behind, and twice: %v", w)
	}
}

func TestDeliverRefused(t *testing.T) {
	one := keeps(1, 5)
	w := withMail(trio(), tells(1, 2, one[2:4]...), asks(1, 2, nil), tells(1, 2, one[0], one[1]))
	rows := []struct {
		wall, count, now int64
		code             int64
	}{
		{50, impl.MaxCount, 50, impl.WdRegion}, {50, impl.MaxCount, 49, impl.WdRegion}, {50, impl.MaxCount, 51, impl.WdDone},
		{50, impl.MaxCount - 1, 50, impl.WdRegion}, {50, impl.MaxCount - 2, 50, impl.WdDone}, {impl.MaxTime, impl.MaxCount - 1, impl.MaxTime, impl.WdRegion},
	}
	for _, row := range rows {
		at := withRegion(w, regionAt(row.wall, row.count, 2, w.Regions[1].Set))
		at.Now = row.now
		for _, place := range []int64{0, 2} {
			if row.code != impl.WdDone {
				refuseDo(t, at, mailAct(impl.WaDeliver, place), row.code)
			} else {
				do(t, at, mailAct(impl.WaDeliver, place))
			}
		}
		// A clock that can't go on tells, and loses mail, all the same.
		for _, a := range []impl.WAct{mailAct(impl.WaDeliver, 1), mailAct(impl.WaLose, 0), mailAct(impl.WaTwice, 0), askAct(2, 1)} {
			do(t, at, a)
		}
	}
}

func TestMailIsFull(t *testing.T) {
	ask, tell := asks(2, 1, nil), tells(1, 2, keeps(1, 1)...)
	for _, m := range []impl.Mail{ask, tell} {
		w := withMail(trio(), slices.Repeat([]impl.Mail{m}, impl.MaxMail-1)...)
		for _, a := range []impl.WAct{askAct(1, 2), mailAct(impl.WaTwice, 0), mailAct(impl.WaTwice, 38)} {
			full := do(t, w, a)
			if len(full.Mail) != impl.MaxMail {
				t.Errorf("%d", len(full.Mail))
			}
			refuseDo(t, full, askAct(3, 2), impl.WdFull)
			refuseDo(t, full, mailAct(impl.WaTwice, 39), impl.WdFull)
			refuseDo(t, full, mailAct(impl.WaTwice, 0), impl.WdFull)
			do(t, full, keepAct(1))
			do(t, full, mailAct(impl.WaLose, 39))
			do(t, full, mailAct(impl.WaDeliver, 39))
		}
	}
}

func TestTimeOfActs(t *testing.T) {
	acts := []impl.WAct{keepAct(1), askAct(1, 2), mailAct(impl.WaDeliver, 0), mailAct(impl.WaDeliver, 1), mailAct(impl.WaLose, 0), mailAct(impl.WaTwice, 0)}
	for _, now := range []int64{0, 1, 50, impl.MaxTime - 1, impl.MaxTime} {
		w := withMail(trio(), asks(1, 2, nil), tells(1, 2, keeps(1, 3)[2]))
		w.Now = now
		for _, a := range acts {
			do(t, w, a)
		}
		refuseDo(t, w, mailAct(impl.WaLose, 2), impl.WdNone)
		if got := do(t, w, keepAct(1)); now > 40 && got.Regions[0].Clock != stamp(now, 0, 1) || now <= 40 && got.Regions[0].Clock != stamp(40, 1, 1) {
			t.Errorf("at %d: %v", now, got.Regions[0].Clock)
		}
	}
}

// spoilWorld has ways in which a right world of three is no longer right.
var spoilWorld = []func(w *impl.World, a *impl.WAct){
	func(w *impl.World, a *impl.WAct) { w.Now = -1 },
	func(w *impl.World, a *impl.WAct) { w.Now = impl.MaxTime + 1 },
	func(w *impl.World, a *impl.WAct) { w.Regions = w.Regions[:1] },
	func(w *impl.World, a *impl.WAct) { w.Regions[0].Set = w.Regions[0].Set[:1] },
	func(w *impl.World, a *impl.WAct) { w.Regions[2].Clock.Region = 2 },
	func(w *impl.World, a *impl.WAct) { w.Regions[1].Id = 4 },
	func(w *impl.World, a *impl.WAct) { *w = withMail(*w, asks(1, 1, nil)) },
	func(w *impl.World, a *impl.WAct) {
		*w = withMail(*w, slices.Repeat([]impl.Mail{asks(1, 2, nil)}, impl.MaxMail+1)...)
	},
}

var spoilAct = []func(w *impl.World, a *impl.WAct){
	func(w *impl.World, a *impl.WAct) { a.Kind = 0 },
	func(w *impl.World, a *impl.WAct) { a.Kind = 6 },
	func(w *impl.World, a *impl.WAct) { a.Who = 4 },
	func(w *impl.World, a *impl.WAct) { a.Who, a.To, a.At = 3, 3, 1 },
	func(w *impl.World, a *impl.WAct) { a.To = -1 },
}

func crowded(w *impl.World, a *impl.WAct) {
	*w = withMail(*w, slices.Repeat([]impl.Mail{asks(2, 1, nil)}, impl.MaxMail-len(w.Mail))...)
}

// stuckAtTwo has a clock at region 2 that can't go on at that time.
func stuckAtTwo(w *impl.World, a *impl.WAct) {
	w.Regions[1].Clock = stamp(100, impl.MaxCount, 2)
}

type fault struct {
	code int64
	ways []func(w *impl.World, a *impl.WAct)
}

// refuseMeeting has every set of these faults meet in one call; the first of them is to be told.
func refuseMeeting(t *testing.T, a impl.WAct, faults []fault) {
	t.Helper()
	base := func() (impl.World, impl.WAct) {
		return withMail(trio(), tells(1, 2, keeps(1, 3)[2]), asks(1, 3, nil)), a
	}
	w, _ := base()
	do(t, w, a)
	for met := 1; met < 1<<len(faults); met++ {
		for way := range 120 {
			w, a := base()
			first := int64(0)
			for i, f := range slices.Backward(faults) {
				if met&(1<<i) != 0 {
					f.ways[way%len(f.ways)](&w, &a)
					first = f.code
				}
			}
			refuseDo(t, w, a, first)
		}
	}
}

func TestFirstRefusal(t *testing.T) {
	wrong, form := fault{impl.WdWrong, spoilWorld}, fault{impl.WdForm, spoilAct}
	none := fault{impl.WdNone, []func(w *impl.World, a *impl.WAct){
		func(w *impl.World, a *impl.WAct) { a.At = -1 },
		func(w *impl.World, a *impl.WAct) { a.At = impl.MaxMail },
		func(w *impl.World, a *impl.WAct) { a.At = math.MaxInt64 },
	}}
	crowd := fault{impl.WdFull, []func(w *impl.World, a *impl.WAct){crowded}}
	refused := fault{impl.WdRegion, []func(w *impl.World, a *impl.WAct){
		stuckAtTwo,
		func(w *impl.World, a *impl.WAct) { a.Op = op(impl.OpRevive, 7) },
		func(w *impl.World, a *impl.WAct) { a.Op = impl.Op{} },
		func(w *impl.World, a *impl.WAct) { a.Op.Span.End = 1 },
	}}
	many := fault{impl.WdFull, []func(w *impl.World, a *impl.WAct){
		func(w *impl.World, a *impl.WAct) {
			w.Regions[2].Set = together(keeps(1, 5), keeps(2, 2), keeps(3, 52))
			w.Regions[2].Clock.Wall = 52
		},
	}}
	stuck := fault{impl.WdRegion, []func(w *impl.World, a *impl.WAct){stuckAtTwo}}
	refuseMeeting(t, keepAct(2), []fault{wrong, form, refused, many})
	refuseMeeting(t, askAct(2, 1), []fault{wrong, form, crowd})
	refuseMeeting(t, mailAct(impl.WaTwice, 0), []fault{wrong, form, none, crowd})
	refuseMeeting(t, mailAct(impl.WaLose, 0), []fault{wrong, form, none})
	refuseMeeting(t, mailAct(impl.WaDeliver, 0), []fault{wrong, form, none, stuck})
	refuseMeeting(t, mailAct(impl.WaDeliver, 0), []fault{wrong, form, stuck})
}

func TestWrongWorlds(t *testing.T) {
	for _, w := range wrongWorlds(t) {
		for _, a := range []impl.WAct{{}, keepAct(1), askAct(1, 2), mailAct(impl.WaDeliver, 0), mailAct(impl.WaLose, -1), mailAct(impl.WaTwice, 0)} {
			refuseDo(t, w, a, impl.WdWrong)
		}
		for _, l := range [][]impl.WAct{nil, {keepAct(1)}, make([]impl.WAct, 101)} {
			if got, codes := impl.WorldPlay(w, l); len(codes) != 0 || !sameWorld(got, impl.World{}) {
				t.Errorf("WorldPlay(%v, ..) = %v, %v", w, got, codes)
			}
		}
		refuseCalmed(t, w)
	}
}

func TestWorldPlayRows(t *testing.T) {
	w := trio()
	acts := []impl.WAct{
		askAct(2, 1), {}, mailAct(impl.WaDeliver, 1), mailAct(impl.WaTwice, 0), mailAct(impl.WaDeliver, 0), mailAct(impl.WaLose, 0),
		opAct(2, op(impl.OpRevive, 7)), mailAct(impl.WaDeliver, 0), keepAct(4), mailAct(impl.WaDeliver, 0), keepAct(2),
	}
	got, codes := impl.WorldPlay(w, acts)
	if want := []int64{0, 2, 3, 0, 0, 0, 4, 0, 2, 3, 0}; !slices.Equal(codes, want) {
		t.Errorf("%v, not %v", codes, want)
	}
	set := together(keeps(1, 5), keeps(2, 3), read(t, "keep 2 4 55 0 2"))
	want := withRegion(w, regionAt(55, 0, 2, set))
	if want.Now = 56; !sameWorld(got, want) {
		t.Errorf("%v, not %v", got, want)
	}
	for _, w := range rightWorlds(t)[:20] {
		if got, codes := impl.WorldPlay(w, nil); len(codes) != 0 || !sameWorld(got, w) {
			t.Errorf("without acts: %v, %v", got, codes)
		}
	}
}

func TestWorldPlayLimits(t *testing.T) {
	w, _ := impl.WorldNew(3)
	for _, n := range []int{1, 99, 100} {
		got, codes := impl.WorldPlay(w, slices.Repeat([]impl.WAct{keepAct(2)}, n))
		want := slices.Repeat([]int64{impl.WdDone}, min(n, impl.MaxUpdates))
		want = append(want, slices.Repeat([]int64{impl.WdRegion}, n-len(want))...)
		if !slices.Equal(codes, want) || len(got.Regions[1].Set) != min(n, impl.MaxUpdates) || got.Now != int64(min(n, impl.MaxUpdates)) {
			t.Errorf("%d acts: %v, %v", n, got, codes)
		}
	}
	if got, codes := impl.WorldPlay(w, make([]impl.WAct, 100)); !sameWorld(got, w) || !slices.Equal(codes, slices.Repeat([]int64{impl.WdForm}, 100)) {
		t.Errorf("100 refusals: %v, %v", got, codes)
	}
	for _, l := range [][]impl.WAct{make([]impl.WAct, 101), slices.Repeat([]impl.WAct{keepAct(2)}, 101), make([]impl.WAct, 5000)} {
		if got, codes := impl.WorldPlay(w, l); len(codes) != 0 || !sameWorld(got, impl.World{}) {
			t.Errorf("%d acts: %v, %v", len(l), got, codes)
		}
	}
}

func TestCalmedRows(t *testing.T) {
	all := together(keeps(1, 2), keeps(2, 2))
	rows := []struct {
		w      impl.World
		rounds int64
		clocks []impl.Stamp
	}{
		// All have all: nothing comes, and no clock goes on.
		{worldAt(9, 0, nil, nil), 1, []impl.Stamp{stamp(0, 0, 1), stamp(0, 0, 2)}},
		{worldAt(9, 4, all, all, all), 1, []impl.Stamp{stamp(4, 0, 1), stamp(4, 0, 2), stamp(4, 0, 3)}},
		// One has all: Batch of them a round.
		{worldAt(9, 9, keeps(1, 1), nil), 2, []impl.Stamp{stamp(9, 0, 1), stamp(9, 1, 2)}},
		{worldAt(9, 8, keeps(1, 3), nil), 2, []impl.Stamp{stamp(8, 0, 1), stamp(9, 2, 2)}},
		{worldAt(9, 8, keeps(1, 4), nil), 3, []impl.Stamp{stamp(8, 0, 1), stamp(9, 3, 2)}},
		{worldAt(99, 8, keeps(1, 7), nil), 4, []impl.Stamp{stamp(8, 0, 1), stamp(99, 6, 2)}},
		{worldAt(99, 60, keeps(1, 60), nil), 21, []impl.Stamp{stamp(60, 0, 1), stamp(99, 59, 2)}},
		{worldAt(99, 60, nil, keeps(2, 60), nil), 21, []impl.Stamp{stamp(99, 59, 1), stamp(60, 0, 2), stamp(99, 59, 3)}},
		// Each has its own; region 2 has those of region 3 from region 1 already.
		{worldAt(9, 3, keeps(1, 1), keeps(2, 1), keeps(3, 1)), 2, []impl.Stamp{stamp(9, 1, 1), stamp(9, 1, 2), stamp(9, 1, 3)}},
		{worldAt(9, 3, keeps(1, 3), keeps(2, 3), keeps(3, 3)), 2, []impl.Stamp{stamp(9, 5, 1), stamp(9, 5, 2), stamp(9, 5, 3)}},
		{worldAt(2, 5, keeps(1, 4), keeps(2, 1)), 3, []impl.Stamp{stamp(5, 1, 1), stamp(5, 4, 2)}},
		{withMail(trio(), asks(1, 2, nil), tells(1, 2, keeps(1, 5)[2:]...)), 2, []impl.Stamp{stamp(50, 2, 1), stamp(50, 3, 2), stamp(50, 0, 3)}},
	}
	for _, row := range rows {
		got, rounds := calm(t, row.w)
		union := unionOf(row.w)
		if rounds != row.rounds {
			t.Errorf("%v: %d rounds, not %d", row.w, rounds, row.rounds)
		}
		for i, r := range got.Regions {
			if r.Clock != row.clocks[i] || !slices.Equal(r.Set, union) {
				t.Errorf("%v: %v, not with %v", row.w, r, row.clocks[i])
			}
		}
	}
}

func TestCalmedClocks(t *testing.T) {
	one := keeps(1, 4)
	w := withMail(worldAt(50, 50, one, one[:2], one), asks(1, 2, nil))
	for _, count := range []int64{impl.MaxCount, impl.MaxCount - 1} {
		stuck := withRegion(w, regionAt(50, count, 2, one[:2]))
		refuseCalmed(t, stuck)
		stuck.Now = 0
		refuseCalmed(t, stuck)
		stuck.Now = 51
		calm(t, stuck)
	}
	calm(t, withRegion(w, regionAt(50, impl.MaxCount-2, 2, one[:2])))
	// One that lacks nothing need not go on.
	for _, id := range []int64{1, 3} {
		if got, _ := calm(t, withRegion(w, regionAt(50, impl.MaxCount, id, one))); got.Regions[id-1].Clock != stamp(50, impl.MaxCount, id) {
			t.Errorf("%v", got.Regions)
		}
	}
	// A stamp that can't be met, and a clock that comes to its end in a later round.
	greatest := read(t, "keep 1 1 1000000000 1000000 1")
	refuseCalmed(t, impl.World{Now: 50, Regions: []impl.Region{regionAt(impl.MaxTime, impl.MaxCount, 1, greatest), regionAt(0, 0, 2, nil)}})
	refuseCalmed(t, withRegion(worldAt(50, 60, keeps(1, 60), nil), regionAt(60, impl.MaxCount-59, 2, nil)))
	calm(t, withRegion(worldAt(50, 60, keeps(1, 60), nil), regionAt(60, impl.MaxCount-60, 2, nil)))
}

func unionOf(w impl.World) []impl.Update {
	var all []impl.Update
	for _, r := range w.Regions {
		for _, u := range r.Set {
			if !slices.Contains(all, u) {
				all = append(all, u)
			}
		}
	}
	return takenByWords(all, nil)
}

// worldByWords and its neighbours below go over the words of the document, with nothing of a world's own code.
func worldByWords(w impl.World) bool {
	n, union := int64(len(w.Regions)), unionOf(w)
	// Unlike updates of one Dot stand both in the union, and it does not rise.
	right := 0 <= w.Now && w.Now <= impl.MaxTime && 2 <= n && n <= impl.MaxRegions && len(w.Mail) <= impl.MaxMail && setByWords(union)
	for i, r := range w.Regions {
		right = right && r.Id == int64(i)+1 && regionByWords(r)
		for _, u := range r.Set {
			right = right && u.Dot.Region <= n && slices.Contains(w.Regions[u.Dot.Region-1].Set, u)
		}
	}
	for _, m := range w.Mail {
		right = right && 1 <= m.From && m.From <= n && 1 <= m.To && m.To <= n && m.From != m.To
		if m.Ask {
			right = right && impl.VecOk(m.Vector) && len(m.Delta) == 0
			continue
		}
		right = right && len(m.Vector) == 0 && 1 <= len(m.Delta) && len(m.Delta) <= impl.Batch
		for _, u := range m.Delta {
			right = right && slices.Contains(union, u)
		}
	}
	return right
}

func formByWords(w impl.World, a impl.WAct) bool {
	region := func(id int64) bool {
		return slices.ContainsFunc(w.Regions, func(r impl.Region) bool { return r.Id == id })
	}
	noOp := a.Op == impl.Op{}
	switch a.Kind {
	case impl.WaOp:
		return region(a.Who) && a.To == 0 && a.At == 0
	case impl.WaAsk:
		return region(a.Who) && region(a.To) && a.Who != a.To && a.At == 0 && noOp
	case impl.WaDeliver, impl.WaLose, impl.WaTwice:
		return a.Who == 0 && a.To == 0 && noOp
	}
	return false
}

func doneByWords(w impl.World, a impl.WAct) (impl.World, int64) {
	if !worldByWords(w) {
		return impl.World{}, impl.WdWrong
	}
	if !formByWords(w, a) {
		return w, impl.WdForm
	}
	if a.Kind > impl.WaAsk && (a.At < 0 || a.At >= int64(len(w.Mail))) {
		return w, impl.WdNone
	}
	next, code := w, int64(impl.RgDone)
	var r impl.Region
	switch a.Kind {
	case impl.WaOp:
		r, _, code = issuedByWords(w.Regions[a.Who-1], a.Op, w.Now)
		next = withRegion(w, r)
	case impl.WaAsk:
		next = withMail(w, asks(a.Who, a.To, impl.VectorOf(w.Regions[a.Who-1].Set)))
	case impl.WaTwice:
		next = withMail(w, w.Mail[a.At])
	default:
		next.Mail = slices.Delete(slices.Clone(w.Mail), int(a.At), int(a.At)+1)
	}
	if m := (impl.Mail{}); a.Kind == impl.WaDeliver {
		m = w.Mail[a.At]
		next = withMail(next, backOf(w, m)...)
		if !m.Ask {
			r, code = receivedByWords(w.Regions[m.To-1], m.Delta, w.Now)
			next = withRegion(next, r)
		}
	}
	if code != impl.RgDone {
		return w, impl.WdRegion
	}
	if !worldByWords(next) {
		return w, impl.WdFull
	}
	next.Now = min(w.Now+1, impl.MaxTime)
	return next, impl.WdDone
}

func calmedByWords(w impl.World) (impl.World, int64, bool) {
	if !worldByWords(w) {
		return impl.World{}, 0, false
	}
	w.Mail, w.Regions = nil, slices.Clone(w.Regions)
	for rounds := int64(1); ; rounds++ {
		before := slices.Clone(w.Regions)
		for i := range w.Regions {
			for j := range w.Regions {
				back := backOf(w, asks(int64(i)+1, int64(j)+1, impl.VectorOf(w.Regions[i].Set)))
				if i == j || len(back) == 0 {
					continue
				}
				next, code := receivedByWords(w.Regions[i], back[0].Delta, w.Now)
				if code != impl.RgDone {
					return impl.World{}, 0, false
				}
				w.Regions[i] = next
			}
		}
		if slices.EqualFunc(before, w.Regions, sameRegion) {
			return w, rounds, true
		}
	}
}

// anyWorld is mostly right, and near its limits more often than not.
func anyWorld(r *rand.Rand) impl.World {
	n := 2 + r.Intn(impl.MaxRegions-1)
	history := anyHistory(r, 3+15*r.Intn(3))[:n]
	w := impl.World{Now: anyNow(r)}
	for i := range n {
		var l []impl.Update
		for j, h := range history {
			if i != j {
				h = h[:r.Intn(len(h)+1)]
			}
			l = append(l, h...)
		}
		at := regionAt(0, 0, int64(i)+1, l)
		for _, u := range l {
			if impl.StampAhead(at.Clock, u.Stamp) {
				at.Clock.Wall, at.Clock.Count = u.Stamp.Wall, u.Stamp.Count
			}
		}
		if r.Intn(12) == 0 {
			at.Clock.Count = impl.MaxCount - r.Int63n(3)
		}
		w.Regions = append(w.Regions, at)
	}
	union := unionOf(w)
	for range r.Intn(4) + 38*(r.Intn(4)/3) {
		w.Mail = append(w.Mail, anyMail(r, int64(n), union))
	}
	return w
}

func anyMail(r *rand.Rand, n int64, union []impl.Update) impl.Mail {
	m := impl.Mail{From: 1 + r.Int63n(n), To: 1 + r.Int63n(n)}
	if m.From == m.To {
		m.To = 1 + m.From%n
	}
	if len(union) > 0 && r.Intn(2) == 0 {
		for range 1 + r.Intn(impl.Batch) {
			m.Delta = append(m.Delta, union[r.Intn(len(union))])
		}
		return m
	}
	m.Ask = true
	for region := int64(1); region <= impl.MaxRegions; region++ {
		if r.Intn(2) == 0 {
			m.Vector = append(m.Vector, impl.Dot{Region: region, N: 1 + r.Int63n(6)})
		}
	}
	return m
}

// anyAct is one that may be done, more often than not.
func anyAct(r *rand.Rand, w impl.World) impl.WAct {
	n := int64(len(w.Regions))
	a := impl.WAct{Kind: 1 + r.Int63n(5)}
	switch a.Kind {
	case impl.WaOp:
		a.Who, a.Op = 1+r.Int63n(n), anyOp(r)
	case impl.WaAsk:
		a.Who, a.To = 1+r.Int63n(n), 1+r.Int63n(n)
	default:
		a.At = r.Int63n(int64(len(w.Mail)) + 1)
	}
	switch r.Intn(40) {
	case 0:
		a.Kind = r.Int63n(8) - 1
	case 1:
		a.Who = r.Int63n(n+3) - 1
	case 2:
		a.To = r.Int63n(n+3) - 1
	case 3:
		a.At = r.Int63n(4) - 1
	}
	return a
}

// spoilAny makes one thing other than it was, which need not be wrong.
func spoilAny(r *rand.Rand, w *impl.World) {
	at := r.Intn(len(w.Regions))
	one := &w.Regions[at]
	switch r.Intn(6) {
	case 0:
		one.Clock.Count = max(0, one.Clock.Count-1)
	case 1:
		one.Set = one.Set[:len(one.Set)-min(1, len(one.Set))]
	case 2:
		one.Id = 1 + r.Int63n(impl.MaxRegions)
	case 3:
		if len(one.Set) > 0 {
			one.Set[r.Intn(len(one.Set))].Trace = 1 + r.Int63n(3)
		}
	case 4:
		w.Regions = w.Regions[:at+1]
	case 5:
		if len(w.Mail) > 0 {
			m := &w.Mail[r.Intn(len(w.Mail))]
			m.From, m.To, m.Ask = 1+r.Int63n(5), 1+r.Int63n(5), r.Intn(2) == 0
		}
	}
}

func TestWorldsByWords(t *testing.T) {
	r := rand.New(rand.NewSource(31))
	codes, rights, calms := [6]int{}, [2]int{}, [2]int{}
	for range 2000 {
		w := anyWorld(r)
		if r.Intn(4) == 0 {
			spoilAny(r, &w)
		}
		right := worldByWords(w)
		if impl.WorldOk(w) != right {
			t.Fatalf("WorldOk(%v) = %v", w, !right)
		}
		a := anyAct(r, w)
		got, code := impl.WorldDo(w, a)
		want, wantCode := doneByWords(w, a)
		if code != wantCode || !sameWorld(got, want) {
			t.Fatalf("WorldDo(%v, %v) = %v, %d, not %v, %d", w, a, got, code, want, wantCode)
		}
		got, rounds, ok := impl.Calmed(w)
		want, wantRounds, wantOk := calmedByWords(w)
		if rounds != wantRounds || ok != wantOk || !sameWorld(got, want) {
			t.Fatalf("Calmed(%v) = %v, %d, %v, not %v, %d, %v", w, got, rounds, ok, want, wantRounds, wantOk)
		}
		codes[code]++
		rights[map[bool]int{true: 1}[right]]++
		calms[map[bool]int{true: 1}[ok]]++
	}
	if slices.Contains(codes[:], 0) || slices.Contains(rights[:], 0) || slices.Contains(calms[:], 0) {
		t.Errorf("a case was never met: %v, %v, %v", codes, rights, calms)
	}
}

// checkAct is P6 of one act: no region loses anything, and only an op makes an update, one, at its own region.
func checkAct(t *testing.T, before, after impl.World, a impl.WAct, code int64) {
	t.Helper()
	made := 0
	if a.Kind == impl.WaOp && code == impl.WdDone {
		made = 1
	}
	if len(unionOf(after)) != len(unionOf(before))+made {
		t.Fatalf("%v, with %v: %v", before, a, after)
	}
	for i, r := range before.Regions {
		for _, u := range r.Set {
			if !slices.Contains(after.Regions[i].Set, u) {
				t.Fatalf("%v is lost by %v", u, after.Regions[i])
			}
		}
		if impl.StampAhead(after.Regions[i].Clock, r.Clock) {
			t.Fatalf("the clock of %v goes back to %v", r, after.Regions[i].Clock)
		}
	}
}

// checkSeen is P6 of one world: regions with one vector have the same updates and see the same.
func checkSeen(t *testing.T, w impl.World) {
	t.Helper()
	for i, a := range w.Regions {
		for _, b := range w.Regions[:i] {
			if !slices.Equal(impl.VectorOf(a.Set), impl.VectorOf(b.Set)) {
				continue
			}
			same := slices.Equal(a.Set, b.Set) && slices.Equal(impl.Found(a.Set, "web", 0, 9), impl.Found(b.Set, "web", 0, 9))
			for trace := int64(1); trace <= 3; trace++ {
				same = same && impl.LevelOf(a.Set, trace) == impl.LevelOf(b.Set, trace) && impl.Kept(a.Set, trace) == impl.Kept(b.Set, trace)
				same = same && slices.Equal(impl.ForestOf(a.Set, trace), impl.ForestOf(b.Set, trace)) && slices.Equal(impl.Longest(a.Set, trace), impl.Longest(b.Set, trace))
			}
			if !same {
				t.Fatalf("%v and %v have one vector", a, b)
			}
		}
	}
}

// P6, over long plays, whatever is lost, late or twice.
func TestWorldsComeToAgree(t *testing.T) {
	r := rand.New(rand.NewSource(37))
	for range 120 {
		w, _ := impl.WorldNew(2 + r.Int63n(impl.MaxRegions-1))
		start := w
		var acts []impl.WAct
		var codes []int64
		for range r.Intn(101) {
			a := anyAct(r, w)
			next, code := impl.WorldDo(w, a)
			if !impl.WorldOk(next) {
				t.Fatalf("WorldDo(%v, %v) = %v, %d", w, a, next, code)
			}
			checkAct(t, w, next, a, code)
			checkSeen(t, next)
			w, acts, codes = next, append(acts, a), append(codes, code)
		}
		if played, got := impl.WorldPlay(start, acts); !slices.Equal(got, codes) || !sameWorld(played, w) {
			t.Fatalf("WorldPlay(%v, %v) = %v, %v, not %v, %v", start, acts, played, got, w, codes)
		}
		union := unionOf(w)
		calmed, rounds := calm(t, w)
		if rounds < 1 || rounds > int64(len(union))+1 {
			t.Fatalf("%d rounds of %d updates", rounds, len(union))
		}
		for _, at := range calmed.Regions {
			if !slices.Equal(at.Set, union) {
				t.Fatalf("%v lacks some of %v", at, union)
			}
		}
		checkSeen(t, calmed)
		if again, rounds := calm(t, calmed); rounds != 1 || !sameWorld(again, calmed) {
			t.Fatalf("%v is calmed again: %v, %d", calmed, again, rounds)
		}
	}
}

// room is where a list or a text lies, with the spare room behind it.
type room struct{ from, to uintptr }

func roomOf[T any](l []T) room {
	var one T
	from := uintptr(unsafe.Pointer(unsafe.SliceData(l)))
	return room{from, from + uintptr(cap(l))*unsafe.Sizeof(one)}
}

func roomsOf(w impl.World) []room {
	all := []room{roomOf(w.Regions), roomOf(w.Mail)}
	lists := [][]impl.Update{}
	for _, r := range w.Regions {
		lists = append(lists, r.Set)
	}
	for _, m := range w.Mail {
		all = append(all, roomOf(m.Vector))
		lists = append(lists, m.Delta)
	}
	for _, l := range lists {
		all = append(all, roomOf(l))
		for _, u := range l {
			s := u.Span.Service
			all = append(all, roomOf(unsafe.Slice(unsafe.StringData(s), len(s))))
		}
	}
	return all
}

// checkApart says that no list and no text of got lies where another one of it, or one of the arguments, lies.
func checkApart(t *testing.T, got, arg impl.World, more ...room) {
	t.Helper()
	mine := roomsOf(got)
	for i, a := range mine {
		for _, b := range slices.Concat(mine[:i], roomsOf(arg), more) {
			if a.from < b.to && b.from < a.to {
				t.Fatalf("%v shares memory with another list, or with %v", got, arg)
			}
		}
	}
}

// padded has each list of w with spare room behind it; the function says whether all of it is as it was.
func padded(w impl.World) (impl.World, func() bool) {
	var checks []func() bool
	w = impl.World{Now: w.Now, Regions: pad(w.Regions, impl.Region{Id: -7}, &checks), Mail: pad(w.Mail, impl.Mail{From: -7}, &checks)}
	odd := impl.Update{Trace: -7}
	for i := range w.Regions {
		w.Regions[i].Set = pad(w.Regions[i].Set, odd, &checks)
	}
	for i := range w.Mail {
		w.Mail[i].Vector, w.Mail[i].Delta = pad(w.Mail[i].Vector, impl.Dot{N: -7}, &checks), pad(w.Mail[i].Delta, odd, &checks)
	}
	return w, func() bool {
		return !slices.ContainsFunc(checks, func(asItWas func() bool) bool { return !asItWas() })
	}
}

func pad[T any](l []T, odd T, checks *[]func() bool) []T {
	full := append(slices.Clone(l), odd, odd, odd)
	var kept []T
	*checks = append(*checks, func() bool {
		// The lists inside come to lie in their padded places only after this one, so it is kept at the first look.
		if kept == nil {
			kept = slices.Clone(full)
		}
		return reflect.DeepEqual(full, kept)
	})
	return full[:len(l):len(full)]
}

// roomy has spans, so that texts are among what could be shared, and mail of both kinds.
func roomy(t *testing.T, count int64) impl.World {
	t.Helper()
	web, db := read(t, "span 1 1 1 0 7 1 0 0 0 web", "span 1 2 2 0 7 2 1 0 0 auth"), read(t, "span 2 1 1 0 7 3 1 0 0 db", "keep 2 2 2 0 7", "span 2 3 3 0 7 4 1 0 0 cache", "keep 2 4 4 0 7")
	w := worldAt(50, 50, together(web, db[:1]), together(web[:1], db), web)
	w.Regions[2].Clock.Count = count
	return withMail(w, asks(1, 2, dots(1, 2, 2, 1)), tells(2, 3, db[:3]...), tells(2, 1, db[1:]...), asks(3, 1, nil))
}

func TestWorldsAreNewMemory(t *testing.T) {
	acts := []impl.WAct{
		{}, keepAct(1), opAct(2, spanOp(7, span(9, 1, "queue", 0, 0))), opAct(1, op(impl.OpRevive, 7)), askAct(1, 2), askAct(3, 1),
		mailAct(impl.WaDeliver, 0), mailAct(impl.WaDeliver, 1), mailAct(impl.WaDeliver, 2), mailAct(impl.WaDeliver, 3), mailAct(impl.WaDeliver, 4),
		mailAct(impl.WaLose, 0), mailAct(impl.WaLose, 3), mailAct(impl.WaTwice, 0), mailAct(impl.WaTwice, 1), mailAct(impl.WaTwice, 3),
	}
	for _, count := range []int64{0, impl.MaxCount} {
		w, asItWas := padded(roomy(t, count))
		asItWas()
		for _, a := range acts {
			s := a.Op.Span.Service
			got, _ := impl.WorldDo(w, a)
			checkApart(t, got, w, roomOf(unsafe.Slice(unsafe.StringData(s), len(s))))
		}
		for _, l := range [][]impl.WAct{nil, acts, {acts[14], acts[14], acts[14]}, {acts[2], acts[4], {}}} {
			kept := slices.Clone(l)
			got, codes := impl.WorldPlay(w, l)
			checkApart(t, got, w, roomOf(l), roomOf(codes))
			if !slices.Equal(l, kept) {
				t.Fatalf("acts were written: %v", l)
			}
		}
		got, _, _ := impl.Calmed(w)
		checkApart(t, got, w)
		// All have all there, so that no set is made anew on the way.
		again, _, _ := impl.Calmed(got)
		checkApart(t, again, got)
		if impl.WorldOk(w); !asItWas() {
			t.Fatalf("an argument was written: %v", w)
		}
	}
	fresh, _ := impl.WorldNew(5)
	other, _ := impl.WorldNew(5)
	checkApart(t, fresh, other)
}

// P9: the same arguments give the same answers, however the goroutines run, and none of them is left.
func TestWorldsAreTheSameAgain(t *testing.T) {
	w := roomy(t, 0)
	acts := slices.Repeat([]impl.WAct{askAct(1, 2), mailAct(impl.WaTwice, 1), mailAct(impl.WaDeliver, 0), keepAct(3), mailAct(impl.WaDeliver, 1)}, 20)
	want, wantCodes := impl.WorldPlay(w, acts)
	wantCalm, wantRounds, _ := impl.Calmed(want)
	before := runtime.NumGoroutine()
	for _, threads := range []int{1, 2, 8} {
		old := runtime.GOMAXPROCS(threads)
		var all sync.WaitGroup
		for range 8 {
			all.Go(func() {
				for range 5 {
					got, codes := impl.WorldPlay(w, acts)
					calmed, rounds, ok := impl.Calmed(got)
					if !sameWorld(got, want) || !slices.Equal(codes, wantCodes) || !sameWorld(calmed, wantCalm) || rounds != wantRounds || !ok {
						t.Errorf("%v, %v, %v, %d", got, codes, calmed, rounds)
					}
				}
			})
		}
		all.Wait()
		runtime.GOMAXPROCS(old)
	}
	for range 1000 {
		runtime.Gosched()
	}
	if left := runtime.NumGoroutine() - before; left > 50 {
		t.Errorf("%d goroutines are left", left)
	}
}
