package tests

import (
	"math"
	"slices"
	"testing"

	"loop.example/g00368/impl"
)

func stamp(wall, count, region int64) impl.Stamp {
	return impl.Stamp{Wall: wall, Count: count, Region: region}
}

// dots takes region and N in turn.
func dots(numbers ...int64) []impl.Dot {
	var v []impl.Dot
	for i := 0; i+1 < len(numbers); i += 2 {
		v = append(v, impl.Dot{Region: numbers[i], N: numbers[i+1]})
	}
	return v
}

var wrongStamps = []impl.Stamp{
	{},
	stamp(-1, 0, 1), stamp(impl.MaxTime+1, 0, 1),
	stamp(0, -1, 1), stamp(0, impl.MaxCount+1, 1),
	stamp(0, 0, 0), stamp(0, 0, impl.MaxRegions+1), stamp(0, 0, -1),
	stamp(math.MinInt64, 0, 1), stamp(math.MaxInt64, 0, 1),
	stamp(0, math.MinInt64, 1), stamp(0, math.MaxInt64, 1),
	stamp(0, 0, math.MinInt64), stamp(0, 0, math.MaxInt64),
}

var wrongTimes = []int64{-1, impl.MaxTime + 1, math.MinInt64, math.MaxInt64}

var wrongVectors = [][]impl.Dot{
	dots(0, 1), dots(impl.MaxRegions+1, 1), dots(-1, 1), dots(math.MaxInt64, 1), dots(math.MinInt64, 1),
	dots(1, 0), dots(1, -1), dots(1, impl.MaxCount+1), dots(1, math.MaxInt64), dots(1, math.MinInt64),
	dots(2, 1, 1, 1), dots(1, 1, 1, 1), dots(1, 1, 1, 2), dots(1, 2, 1, 1), dots(1, 1, 3, 1, 2, 1),
	dots(1, 1, 2, 0), dots(1, 1, 6, 1), dots(1, 1, 2, 1, 3, 1, 4, 1, 5, 1, 5, 1), dots(1, 1, 2, 1, 3, 1, 4, 1, 5, 1, 6, 1),
}

// rightStamps has every mix of edges and of some between, so that pairs meet in Wall, in Count and in Region.
func rightStamps() []impl.Stamp {
	var all []impl.Stamp
	for _, wall := range []int64{0, 1, 7, impl.MaxTime - 1, impl.MaxTime} {
		for _, count := range []int64{0, 1, 4, impl.MaxCount - 1, impl.MaxCount} {
			for _, region := range []int64{1, 2, impl.MaxRegions} {
				all = append(all, stamp(wall, count, region))
			}
		}
	}
	return all
}

// rightVectors has, for each region, nothing, a small N or the greatest.
func rightVectors() [][]impl.Dot {
	all := [][]impl.Dot{nil}
	for region := int64(1); region <= impl.MaxRegions; region++ {
		for _, v := range slices.Clone(all) {
			all = append(all, append(slices.Clone(v), impl.Dot{Region: region, N: 3}))
			all = append(all, append(slices.Clone(v), impl.Dot{Region: region, N: impl.MaxCount}))
		}
	}
	return all
}

func TestStampOk(t *testing.T) {
	for _, s := range rightStamps() {
		if !impl.StampOk(s) {
			t.Errorf("%v is refused", s)
		}
	}
	for _, s := range wrongStamps {
		if impl.StampOk(s) {
			t.Errorf("%v is accepted", s)
		}
	}
}

func TestStampAhead(t *testing.T) {
	rising := []impl.Stamp{
		stamp(math.MinInt64, 9, 9), stamp(-1, 0, 0), stamp(0, math.MinInt64, 0), stamp(0, -1, 7), stamp(0, 0, math.MinInt64),
		stamp(0, 0, 0), stamp(0, 0, 1), stamp(0, 0, 2), stamp(0, 1, 1), stamp(0, 1, 2), stamp(0, math.MaxInt64, -3),
		stamp(1, 0, 1), stamp(1, 5, 1), stamp(2, 0, 1), stamp(2, 0, 5), stamp(math.MaxInt64, 0, 0), stamp(math.MaxInt64, 0, math.MaxInt64),
	}
	for i, a := range rising {
		for j, b := range rising {
			if got := impl.StampAhead(a, b); got != (i < j) {
				t.Errorf("StampAhead(%v, %v) = %v", a, b, got)
			}
		}
	}
}

func TestTickedRows(t *testing.T) {
	rows := []struct {
		last impl.Stamp
		now  int64
		want impl.Stamp
		ok   bool
	}{
		{stamp(5, 2, 3), 6, stamp(6, 0, 3), true},
		{stamp(5, 2, 3), 5, stamp(5, 3, 3), true},
		{stamp(5, 2, 3), 4, stamp(5, 3, 3), true},
		{stamp(5, 2, 3), 0, stamp(5, 3, 3), true},
		{stamp(0, 0, 1), 0, stamp(0, 1, 1), true},
		{stamp(0, 0, 1), impl.MaxTime, stamp(impl.MaxTime, 0, 1), true},
		{stamp(impl.MaxTime, 0, 5), impl.MaxTime, stamp(impl.MaxTime, 1, 5), true},
		{stamp(5, impl.MaxCount-1, 1), 5, stamp(5, impl.MaxCount, 1), true},
		{stamp(5, impl.MaxCount-1, 1), 1, stamp(5, impl.MaxCount, 1), true},
		{stamp(5, impl.MaxCount, 1), 5, impl.Stamp{}, false},
		{stamp(5, impl.MaxCount, 1), 4, impl.Stamp{}, false},
		{stamp(5, impl.MaxCount, 1), 6, stamp(6, 0, 1), true},
		{stamp(impl.MaxTime, impl.MaxCount, 1), impl.MaxTime, impl.Stamp{}, false},
	}
	for _, r := range rows {
		if got, ok := impl.Ticked(r.last, r.now); got != r.want || ok != r.ok {
			t.Errorf("Ticked(%v, %d) = %v, %v", r.last, r.now, got, ok)
		}
	}
}

// P1: a clock that ticks goes on, not behind the time.
func TestTickedGoesOn(t *testing.T) {
	for _, last := range rightStamps() {
		for _, now := range []int64{0, 1, 6, 7, 8, impl.MaxTime - 1, impl.MaxTime} {
			got, ok := impl.Ticked(last, now)
			if full := now <= last.Wall && last.Count == impl.MaxCount; ok == full {
				t.Errorf("Ticked(%v, %d) tells %v", last, now, ok)
			}
			if !ok {
				continue
			}
			if !impl.StampOk(got) || !impl.StampAhead(last, got) || got.Wall < now || got.Region != last.Region {
				t.Errorf("Ticked(%v, %d) = %v", last, now, got)
			}
		}
	}
}

func TestTickedWrong(t *testing.T) {
	for _, s := range wrongStamps {
		for _, now := range []int64{0, 9, impl.MaxTime} {
			if got, ok := impl.Ticked(s, now); ok || got != (impl.Stamp{}) {
				t.Errorf("Ticked(%v, %d) = %v, %v", s, now, got, ok)
			}
		}
	}
	for _, now := range wrongTimes {
		if got, ok := impl.Ticked(stamp(5, 2, 1), now); ok || got != (impl.Stamp{}) {
			t.Errorf("Ticked at %d = %v, %v", now, got, ok)
		}
	}
}

func TestMetRows(t *testing.T) {
	last := stamp(5, 2, 1)
	rows := []struct {
		last, other impl.Stamp
		now         int64
		want        impl.Stamp
		ok          bool
	}{
		{last, stamp(7, 0, 2), 7, stamp(7, 1, 1), true},
		{last, stamp(7, 4, 2), 0, stamp(7, 5, 1), true},
		{last, stamp(7, 4, 2), 8, stamp(8, 0, 1), true},
		{last, stamp(4, 9, 2), 5, stamp(5, 3, 1), true},
		{last, stamp(4, impl.MaxCount, 2), 3, stamp(5, 3, 1), true},
		{last, stamp(5, 1, 2), 5, stamp(5, 3, 1), true},
		{last, stamp(5, 2, 2), 5, stamp(5, 3, 1), true},
		{last, stamp(5, 3, 2), 5, stamp(5, 4, 1), true},
		{last, last, 1, stamp(5, 3, 1), true},
		{last, stamp(5, impl.MaxCount, 2), 5, impl.Stamp{}, false},
		{last, stamp(5, impl.MaxCount, 2), 6, stamp(6, 0, 1), true},
		{last, stamp(5, impl.MaxCount-1, 2), 5, stamp(5, impl.MaxCount, 1), true},
		{stamp(5, impl.MaxCount, 4), stamp(5, 0, 2), 5, impl.Stamp{}, false},
		{stamp(5, impl.MaxCount, 4), stamp(6, 0, 2), 5, stamp(6, 1, 4), true},
		{stamp(5, 0, 4), stamp(6, impl.MaxCount, 2), 6, impl.Stamp{}, false},
	}
	for _, r := range rows {
		if got, ok := impl.Met(r.last, r.other, r.now); got != r.want || ok != r.ok {
			t.Errorf("Met(%v, %v, %d) = %v, %v", r.last, r.other, r.now, got, ok)
		}
	}
}

// P1: a clock that meets another one is behind neither.
func TestMetIsBehindNeither(t *testing.T) {
	for _, last := range rightStamps() {
		for _, other := range rightStamps() {
			for _, now := range []int64{0, 7, 8, impl.MaxTime} {
				got, ok := impl.Met(last, other, now)
				wall := max(last.Wall, other.Wall)
				full := now <= wall && (last.Wall == wall && last.Count == impl.MaxCount || other.Wall == wall && other.Count == impl.MaxCount)
				if ok == full {
					t.Errorf("Met(%v, %v, %d) tells %v", last, other, now, ok)
				}
				if !ok {
					continue
				}
				if !impl.StampOk(got) || !impl.StampAhead(last, got) || !impl.StampAhead(other, got) || got.Wall < now || got.Region != last.Region {
					t.Errorf("Met(%v, %v, %d) = %v", last, other, now, got)
				}
			}
		}
	}
}

func TestMetWrong(t *testing.T) {
	right := stamp(5, 2, 1)
	for _, s := range wrongStamps {
		if got, ok := impl.Met(s, right, 9); ok || got != (impl.Stamp{}) {
			t.Errorf("Met(%v, ..) = %v, %v", s, got, ok)
		}
		if got, ok := impl.Met(right, s, 9); ok || got != (impl.Stamp{}) {
			t.Errorf("Met(.., %v) = %v, %v", s, got, ok)
		}
	}
	for _, now := range wrongTimes {
		if got, ok := impl.Met(right, right, now); ok || got != (impl.Stamp{}) {
			t.Errorf("Met at %d = %v, %v", now, got, ok)
		}
	}
}

func TestVecOk(t *testing.T) {
	right := append(rightVectors(), []impl.Dot{}, dots(1, 1), dots(5, 1), dots(1, impl.MaxCount), dots(1, 1, 5, 1), dots(1, 9, 2, 8, 3, 7, 4, 6, 5, 5))
	for _, v := range right {
		if !impl.VecOk(v) {
			t.Errorf("%v is refused", v)
		}
	}
	for _, v := range wrongVectors {
		if impl.VecOk(v) {
			t.Errorf("%v is accepted", v)
		}
	}
}

func TestVecOf(t *testing.T) {
	v := dots(1, 4, 3, impl.MaxCount, 5, 1)
	want := map[int64]int64{1: 4, 2: 0, 3: impl.MaxCount, 4: 0, 5: 1, 0: 0, 6: 0, -1: 0, math.MinInt64: 0, math.MaxInt64: 0}
	for region, n := range want {
		if got := impl.VecOf(v, region); got != n {
			t.Errorf("VecOf(%v, %d) = %d", v, region, got)
		}
		if got := impl.VecOf(nil, region); got != 0 {
			t.Errorf("VecOf(nil, %d) = %d", region, got)
		}
		for _, wrong := range wrongVectors {
			if got := impl.VecOf(wrong, region); got != -1 {
				t.Errorf("VecOf(%v, %d) = %d", wrong, region, got)
			}
		}
	}
}

func TestVecJoinRows(t *testing.T) {
	rows := []struct{ a, b, want []impl.Dot }{
		{nil, nil, nil},
		{nil, dots(2, 3), dots(2, 3)},
		{[]impl.Dot{}, dots(2, 3), dots(2, 3)},
		{dots(1, 1), dots(5, 1), dots(1, 1, 5, 1)},
		{dots(1, 3, 3, 1), dots(1, 2, 2, 5), dots(1, 3, 2, 5, 3, 1)},
		{dots(4, impl.MaxCount), dots(4, impl.MaxCount-1), dots(4, impl.MaxCount)},
		{dots(1, 1, 2, 2, 3, 3, 4, 4, 5, 5), dots(1, 5, 2, 4, 3, 3, 4, 2, 5, 1), dots(1, 5, 2, 4, 3, 3, 4, 4, 5, 5)},
	}
	for _, r := range rows {
		if got := impl.VecJoin(r.a, r.b); !slices.Equal(got, r.want) {
			t.Errorf("VecJoin(%v, %v) = %v", r.a, r.b, got)
		}
		if got := impl.VecJoin(r.b, r.a); !slices.Equal(got, r.want) {
			t.Errorf("VecJoin(%v, %v) = %v", r.b, r.a, got)
		}
	}
}

// P1: vectors joined cover both, in whatever order.
func TestVecJoinCoversBoth(t *testing.T) {
	all := rightVectors()
	for _, a := range all {
		for _, b := range all {
			got := impl.VecJoin(a, b)
			if !impl.VecOk(got) || !impl.Covers(got, a) || !impl.Covers(got, b) || !slices.Equal(got, impl.VecJoin(b, a)) {
				t.Fatalf("VecJoin(%v, %v) = %v", a, b, got)
			}
			for region := int64(1); region <= impl.MaxRegions; region++ {
				if impl.VecOf(got, region) != max(impl.VecOf(a, region), impl.VecOf(b, region)) {
					t.Fatalf("VecJoin(%v, %v) = %v", a, b, got)
				}
			}
		}
	}
	for _, a := range all[:40] {
		for _, b := range all[40:80] {
			for _, c := range all[80:120] {
				if !slices.Equal(impl.VecJoin(impl.VecJoin(a, b), c), impl.VecJoin(a, impl.VecJoin(b, c))) {
					t.Fatalf("%v, %v and %v join to two things", a, b, c)
				}
			}
		}
	}
}

func TestCovers(t *testing.T) {
	all := rightVectors()
	for _, a := range all {
		for _, b := range all {
			want := true
			for region := int64(1); region <= impl.MaxRegions; region++ {
				want = want && impl.VecOf(a, region) >= impl.VecOf(b, region)
			}
			if got := impl.Covers(a, b); got != want {
				t.Fatalf("Covers(%v, %v) = %v", a, b, got)
			}
		}
	}
	if !impl.Covers(dots(1, 3), dots(1, 3)) || !impl.Covers(dots(1, 3), dots(1, 2)) || impl.Covers(dots(1, 3), dots(1, 4)) {
		t.Error("one region")
	}
	if !impl.Covers(nil, nil) || !impl.Covers(dots(1, 1), nil) || impl.Covers(nil, dots(1, 1)) {
		t.Error("empty vectors")
	}
}

func TestVectorsWrong(t *testing.T) {
	right := dots(1, 1, 2, 1, 3, 1, 4, 1, 5, 1)
	for _, wrong := range wrongVectors {
		for _, other := range [][]impl.Dot{nil, right, wrong} {
			if got := impl.VecJoin(wrong, other); len(got) != 0 {
				t.Errorf("VecJoin(%v, %v) = %v", wrong, other, got)
			}
			if got := impl.VecJoin(other, wrong); len(got) != 0 {
				t.Errorf("VecJoin(%v, %v) = %v", other, wrong, got)
			}
			if impl.Covers(wrong, other) || impl.Covers(other, wrong) {
				t.Errorf("%v and %v cover", wrong, other)
			}
		}
	}
}

func TestVectorsAreNewMemory(t *testing.T) {
	room := dots(1, 3, 3, 1, 5, 9, 5, 9)
	kept := slices.Clone(room)
	a := room[:2]
	for _, b := range [][]impl.Dot{nil, room[:1], room[:2], room[:3], dots(2, 7, 4, 8)} {
		got := impl.VecJoin(a, b)
		again := impl.VecJoin(b, a)
		impl.Covers(a, b)
		impl.VecOf(a, 3)
		for _, answer := range [][]impl.Dot{got[:cap(got)], again[:cap(again)]} {
			for i := range answer {
				answer[i] = impl.Dot{Region: -7, N: -7}
			}
		}
		if !slices.Equal(room, kept) {
			t.Fatalf("an argument was written: %v", room)
		}
	}
}
