package tests

import (
	"math"
	"strings"
	"testing"
	"unsafe"

	"loop.example/g00368/impl"
)

func span(id, parent int64, service string, start, end int64) impl.Span {
	return impl.Span{Id: id, Parent: parent, Service: service, Start: start, End: end}
}

func spanUpdate() impl.Update {
	return impl.Update{Dot: impl.Dot{Region: 1, N: 2}, Stamp: stamp(30, 4, 1), Kind: impl.UpSpan, Trace: 5, Span: span(6, 0, "web", 7, 8)}
}

func keepUpdate() impl.Update {
	return impl.Update{Dot: impl.Dot{Region: 2, N: 1}, Stamp: stamp(0, 0, 2), Kind: impl.UpKeep, Trace: 9}
}

func lifeUpdate() impl.Update {
	return impl.Update{Dot: impl.Dot{Region: 3, N: 7}, Stamp: stamp(12, 0, 3), Kind: impl.UpLife, Trace: 1, Level: 2}
}

func rightSpans() []impl.Span {
	return []impl.Span{
		span(1, 0, "a", 0, 0), span(1, 2, "z", 0, impl.MaxTime), span(impl.MaxId, 0, "abcdefghijkl", impl.MaxTime, impl.MaxTime),
		span(1, impl.MaxId, "mnopqrstuvwx", 5, 5), span(impl.MaxId, impl.MaxId-1, "yz", 5, 6), span(2, 1, "web", 9, 10),
	}
}

func wrongSpans() []impl.Span {
	return []impl.Span{
		{},
		span(0, 1, "a", 0, 0), span(-1, 0, "a", 0, 0), span(impl.MaxId+1, 0, "a", 0, 0), span(math.MinInt64, 0, "a", 0, 0), span(math.MaxInt64, 0, "a", 0, 0),
		span(1, -1, "a", 0, 0), span(1, impl.MaxId+1, "a", 0, 0), span(1, 1, "a", 0, 0), span(impl.MaxId, impl.MaxId, "a", 0, 0), span(0, 0, "a", 0, 0),
		span(1, 0, "", 0, 0), span(1, 0, "abcdefghijklm", 0, 0), span(1, 0, "Web", 0, 0), span(1, 0, "weB", 0, 0), span(1, 0, "we b", 0, 0),
		span(1, 0, "`", 0, 0), span(1, 0, "{", 0, 0), span(1, 0, "a1", 0, 0), span(1, 0, "\xc3\xa4", 0, 0), span(1, 0, "a\x00", 0, 0), span(1, 0, "a\n", 0, 0),
		span(1, 0, strings.Repeat("a", 5000), 0, 0),
		span(1, 0, "a", -1, 0), span(1, 0, "a", -2, -1), span(1, 0, "a", 0, impl.MaxTime+1), span(1, 0, "a", impl.MaxTime+1, impl.MaxTime+1),
		span(1, 0, "a", 1, 0), span(1, 0, "a", impl.MaxTime, impl.MaxTime-1), span(1, 0, "a", math.MinInt64, math.MaxInt64),
	}
}

// rightUpdates has each kind with each of its limits met exactly.
func rightUpdates() []impl.Update {
	var all []impl.Update
	for _, region := range []int64{1, impl.MaxRegions} {
		for _, n := range []int64{1, impl.MaxCount} {
			for _, s := range []impl.Stamp{stamp(0, 0, region), stamp(impl.MaxTime, 10, region), stamp(100, impl.MaxCount, region)} {
				for _, trace := range []int64{1, 20, impl.MaxId} {
					u := impl.Update{Dot: impl.Dot{Region: region, N: n}, Stamp: s, Trace: trace}
					u.Kind = impl.UpKeep
					all = append(all, u)
					for _, level := range []int64{1, 2, impl.MaxCount} {
						u.Kind, u.Level = impl.UpLife, level
						all = append(all, u)
					}
					for _, sp := range rightSpans() {
						u.Kind, u.Level, u.Span = impl.UpSpan, 0, sp
						all = append(all, u)
					}
				}
			}
		}
	}
	return all
}

// wrongUpdates has one fault in each, of each kind.
func wrongUpdates() []impl.Update {
	all := []impl.Update{{}}
	for _, right := range []impl.Update{spanUpdate(), keepUpdate(), lifeUpdate()} {
		spoil := func(change func(u *impl.Update)) {
			u := right
			change(&u)
			all = append(all, u)
		}
		for _, region := range []int64{0, -1, impl.MaxRegions + 1, math.MaxInt64} {
			spoil(func(u *impl.Update) { u.Dot.Region, u.Stamp.Region = region, region })
		}
		for _, n := range []int64{0, -1, impl.MaxCount + 1, math.MinInt64} {
			spoil(func(u *impl.Update) { u.Dot.N = n })
		}
		for _, wall := range wrongTimes {
			spoil(func(u *impl.Update) { u.Stamp.Wall = wall })
		}
		for _, count := range []int64{-1, impl.MaxCount + 1} {
			spoil(func(u *impl.Update) { u.Stamp.Count = count })
		}
		for _, trace := range []int64{0, -1, impl.MaxId + 1} {
			spoil(func(u *impl.Update) { u.Trace = trace })
		}
		for _, kind := range []int64{0, 4, -1, math.MaxInt64} {
			spoil(func(u *impl.Update) { u.Kind = kind })
		}
		spoil(func(u *impl.Update) { u.Stamp.Region = 4 })
		spoil(func(u *impl.Update) { u.Dot.Region = 4 })
		spoil(func(u *impl.Update) { u.Kind = u.Kind%3 + 1 })
		spoil(func(u *impl.Update) { u.Kind = (u.Kind+1)%3 + 1 })
	}
	return append(all, wrongByKind()...)
}

func wrongByKind() []impl.Update {
	var all []impl.Update
	for _, sp := range wrongSpans() {
		u := spanUpdate()
		u.Span = sp
		all = append(all, u)
	}
	for _, level := range []int64{1, -1, impl.MaxCount} {
		u, k := spanUpdate(), keepUpdate()
		u.Level, k.Level = level, level
		all = append(all, u, k)
	}
	for _, level := range []int64{0, -1, impl.MaxCount + 1, math.MaxInt64, math.MinInt64} {
		u := lifeUpdate()
		u.Level = level
		all = append(all, u)
	}
	for _, sp := range []impl.Span{span(1, 0, "a", 0, 0), {Id: 1}, {Parent: 1}, {Service: "a"}, {Start: 1}, {End: 1}} {
		k, l := keepUpdate(), lifeUpdate()
		k.Span, l.Span = sp, sp
		all = append(all, k, l)
	}
	return all
}

func TestSpanOk(t *testing.T) {
	for _, s := range rightSpans() {
		if !impl.SpanOk(s) {
			t.Errorf("%v is refused", s)
		}
	}
	for _, s := range wrongSpans() {
		if impl.SpanOk(s) {
			t.Errorf("%v is accepted", s)
		}
	}
}

func TestUpdateOk(t *testing.T) {
	for _, u := range append(rightUpdates(), spanUpdate(), keepUpdate(), lifeUpdate()) {
		if !impl.UpdateOk(u) {
			t.Errorf("%v is refused", u)
		}
	}
	for _, u := range wrongUpdates() {
		if impl.UpdateOk(u) {
			t.Errorf("%v is accepted", u)
		}
	}
}

func TestUpdateTextRows(t *testing.T) {
	greatest := spanUpdate()
	greatest.Dot, greatest.Stamp, greatest.Trace = impl.Dot{Region: 5, N: impl.MaxCount}, stamp(impl.MaxTime, impl.MaxCount, 5), impl.MaxId
	greatest.Span = span(impl.MaxId, impl.MaxId-1, "abcdefghijkl", impl.MaxTime, impl.MaxTime)
	rows := []struct {
		u    impl.Update
		text string
	}{
		{spanUpdate(), "span 1 2 30 4 5 6 0 7 8 web"},
		{keepUpdate(), "keep 2 1 0 0 9"},
		{lifeUpdate(), "life 3 7 12 0 1 2"},
		{greatest, "span 5 1000000 1000000000 1000000 1000 1000 999 1000000000 1000000000 abcdefghijkl"},
	}
	for _, r := range rows {
		if got := impl.UpdateText(r.u); got != r.text {
			t.Errorf("UpdateText(%v) = %q", r.u, got)
		}
		if got, ok := impl.ReadUpdate(r.text); !ok || got != r.u {
			t.Errorf("ReadUpdate(%q) = %v, %v", r.text, got, ok)
		}
	}
	for _, u := range wrongUpdates() {
		if got := impl.UpdateText(u); got != "" {
			t.Errorf("UpdateText(%v) = %q", u, got)
		}
	}
}

// P2: a right update comes back from its text.
func TestUpdateComesBack(t *testing.T) {
	seen := map[string]bool{}
	for _, u := range rightUpdates() {
		text := impl.UpdateText(u)
		if got, ok := impl.ReadUpdate(text); !ok || got != u {
			t.Errorf("%v, of text %q, comes back as %v, %v", u, text, got, ok)
		}
		if seen[text] {
			t.Errorf("%q is the text of two updates", text)
		}
		seen[text] = true
	}
}

func TestReadUpdateLimits(t *testing.T) {
	right := []string{
		"keep 1 1 0 0 1", "keep 5 1000000 1000000000 1000000 1000",
		"life 1 1 0 0 1 1", "life 5 1 0 0 1 1000000",
		"span 1 1 0 0 1 1 0 0 0 a", "span 1 1 0 0 1 1000 1 1000000000 1000000000 abcdefghijkl", "span 1 1 0 0 1 1 1000 0 1 z",
	}
	for _, s := range right {
		if u, ok := impl.ReadUpdate(s); !ok || impl.UpdateText(u) != s {
			t.Errorf("ReadUpdate(%q) = %v, %v", s, u, ok)
		}
	}
	wrong := []string{
		"keep 0 1 0 0 1", "keep 6 1 0 0 1", "keep 1 0 0 0 1", "keep 1 1000001 0 0 1", "keep 1 1 1000000001 0 1",
		"keep 1 1 0 1000001 1", "keep 1 1 0 0 0", "keep 1 1 0 0 1001", "keep -1 1 0 0 1", "keep 1 1 -1 0 1",
		"life 1 1 0 0 1 0", "life 1 1 0 0 1 1000001", "life 1 1 0 0 1 -1",
		"span 1 1 0 0 1 0 0 0 0 a", "span 1 1 0 0 1 1001 0 0 0 a", "span 1 1 0 0 1 1 1001 0 0 a", "span 1 1 0 0 1 1 1 0 0 a",
		"span 1 1 0 0 1 1 0 1 0 a", "span 1 1 0 0 1 1 0 0 1000000001 a", "span 1 1 0 0 1 1 0 0 0 abcdefghijklm", "span 1 1 0 0 1 1 0 0 0 ",
	}
	refuseTexts(t, wrong)
}

func refuseTexts(t *testing.T, texts []string) {
	t.Helper()
	for _, s := range texts {
		if u, ok := impl.ReadUpdate(s); ok || u != (impl.Update{}) {
			t.Errorf("ReadUpdate(%q) = %v, %v", s, u, ok)
		}
	}
}

func TestReadUpdateForm(t *testing.T) {
	refuseTexts(t, []string{
		"", " ", "      ", "span", "keep", "life", "keep 1 1 0 0", "keep 1 1 0 0 1 1", "life 1 1 0 0 1", "life 1 1 0 0 1 1 1",
		"span 1 1 0 0 1", "span 1 1 0 0 1 1 0 0 0", "span 1 1 0 0 1 1 0 0 0 a a", "span 1 1 0 0 1 1 0 0 0 a 1", "span 1 1 0 0 1 1 0 a 0 0",
		"keep 01 1 0 0 1", "keep 1 01 0 0 1", "keep 1 1 00 0 1", "keep 1 1 0 00 1", "keep 1 1 0 0 01", "keep 1 1 00000000000 0 1",
		"life 1 1 0 0 1 01", "span 1 1 0 0 1 01 0 0 0 a", "span 1 1 0 0 1 1 00 0 0 a", "span 1 1 0 0 1 1 0 00 0 a", "span 1 1 0 0 1 1 0 0 00 a",
		"keep 1 1 10000000000 0 1", "keep 1 1 99999999999 0 1", "keep 18446744073709551617 1 0 0 1", "keep 1 18446744073709551617 0 0 1",
		"life 1 1 0 0 1 18446744073709551617", "span 1 1 0 0 1 18446744073709551617 0 0 0 a", "keep 1 1 " + strings.Repeat("1", 9000) + " 0 1",
		" keep 1 1 0 0 1", "keep 1 1 0 0 1 ", "keep  1 1 0 0 1", "keep 1  1 0 0 1", "keep 1 1 0 0  1", "keep1 1 0 0 1", "keep 11 0 0 1",
		"life 1 1 0 0 1  1", "life 1 1 0 0 1 1 ", "span 1 1 0 0 1 1 0 0 0  a", "span 1 1 0 0 1 1 0 0 0 a ", "span 1 1 0 0 1 1 0 0 0a",
		"keep\t1 1 0 0 1", "keep 1 1 0 0\t1", "keep 1 1 0 0 1\n", "keep 1 1 0 0 1\x00", "keep 1 1 0 0 1\r\n", "keep 1\u00a01 0 0 1",
		"Keep 1 1 0 0 1", "KEEP 1 1 0 0 1", "keeps 1 1 0 0 1", "kee 1 1 0 0 1", " 1 1 0 0 1", "fly 1 1 0 0 1", "2 1 1 0 0 1",
		"keep +1 1 0 0 1", "keep 1 1 0x1 0 1", "keep 1 1 1e3 0 1", "keep 1 1 1_0 0 1", "keep 1 1 0.0 0 1", "keep 1 1 -0 0 1", "keep 1 1 \u0661 0 1",
		"keep 1 1 / 0 1", "keep 1 1 : 0 1", "keep a b c d e", "span 1 1 0 0 1 1 0 0 0 A", "span 1 1 0 0 1 1 0 0 0 a1", "span 1 1 0 0 1 1 0 0 0 \xc3\xa4",
	})
}

// Whatever is read is the thing whose text it is: no text beside UpdateText's own is taken.
func TestReadUpdateTakesNoOtherText(t *testing.T) {
	letters := "0129 a-z\t\x00"
	for _, u := range []impl.Update{spanUpdate(), keepUpdate(), lifeUpdate()} {
		text := impl.UpdateText(u)
		for i := 0; i <= len(text); i++ {
			near := []string{text[:i], text[i:]}
			for _, c := range letters {
				near = append(near, text[:i]+string(c)+text[i:])
				if i < len(text) {
					near = append(near, text[:i]+string(c)+text[i+1:])
				}
			}
			if i < len(text) {
				near = append(near, text[:i]+text[i+1:])
			}
			for _, s := range near {
				got, ok := impl.ReadUpdate(s)
				if ok && (impl.UpdateText(got) != s || !impl.UpdateOk(got)) || !ok && got != (impl.Update{}) {
					t.Errorf("ReadUpdate(%q) = %v, %v", s, got, ok)
				}
			}
		}
	}
}

func TestReadServiceIsNewMemory(t *testing.T) {
	text := impl.UpdateText(spanUpdate())
	u, ok := impl.ReadUpdate(text)
	if !ok || u.Span.Service != "web" {
		t.Fatal(u, ok)
	}
	if unsafe.StringData(u.Span.Service) == unsafe.StringData(text[len(text)-len("web"):]) {
		t.Error("Service is a piece of the text")
	}
}
