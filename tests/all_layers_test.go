package tests

import (
	"go/ast"
	"go/parser"
	"go/token"
	"math"
	"path/filepath"
	"reflect"
	"strings"
	"testing"

	"loop.example/g00368/impl"
)

// call is a function of the program with arguments, right ones and wrong ones.
type call struct {
	name string
	f    any
	args [][]any
}

func list(args ...any) []any { return args }

// calls has every function that the document lists.
func calls(t *testing.T) []call {
	t.Helper()
	return append(append(callsOfClocks(), callsOfSets(t)...), callsOfWorlds(t)...)
}

func callsOfClocks() []call {
	s, v := stamp(5, 2, 1), dots(1, 3, 3, 1)
	return []call{
		{"StampOk", impl.StampOk, [][]any{list(s), list(impl.Stamp{})}},
		{"StampAhead", impl.StampAhead, [][]any{list(s, stamp(5, 2, 2)), list(s, s)}},
		{"Ticked", impl.Ticked, [][]any{list(s, int64(9)), list(s, int64(1)), list(s, int64(-1))}},
		{"Met", impl.Met, [][]any{list(s, stamp(7, 4, 2), int64(6)), list(s, impl.Stamp{}, int64(6))}},
		{"VecOk", impl.VecOk, [][]any{list(v), list(dots(2, 1, 1, 1))}},
		{"VecOf", impl.VecOf, [][]any{list(v, int64(3)), list(v, int64(9)), list(dots(1, 0), int64(1))}},
		{"VecJoin", impl.VecJoin, [][]any{list(v, dots(2, 5)), list(v, v[:1]), list(v, []impl.Dot(nil)), list(v, dots(9, 9))}},
		{"Covers", impl.Covers, [][]any{list(v, dots(1, 2)), list(v, dots(2, 2)), list(v, dots(9, 9))}},
		{"DotAhead", impl.DotAhead, [][]any{list(v[0], v[1]), list(v[1], v[1])}},
		{"SpanOk", impl.SpanOk, [][]any{list(span(1, 0, "web", 0, 9)), list(span(1, 1, "web", 0, 9))}},
		{"UpdateOk", impl.UpdateOk, [][]any{list(spanUpdate()), list(impl.Update{})}},
		{"UpdateText", impl.UpdateText, [][]any{list(spanUpdate()), list(lifeUpdate()), list(impl.Update{})}},
		{"ReadUpdate", impl.ReadUpdate, [][]any{list("span 1 2 30 4 5 6 0 7 8 web"), list("keep")}},
		{"RegionNew", impl.RegionNew, [][]any{list(int64(3)), list(int64(6))}},
		{"WorldNew", impl.WorldNew, [][]any{list(int64(3)), list(int64(6))}},
		{"FrameOf", impl.FrameOf, [][]any{list(""), list("abc"), list(strings.Repeat("a", 201))}},
		{"RunScript", impl.RunScript, [][]any{list(""), list(lines(begun()...)), list(lines(append(begun(), examples()...)...)), list("mail")}},
	}
}

func callsOfSets(t *testing.T) []call {
	t.Helper()
	l, web := few(t), kin(1, 0, 2, 1, 3, 2, 4, 1)
	more, wrong := read(t, "keep 2 1 3 0 2", "span 4 3 1000000000 1000000 7 9 1 0 20 cache"), few(t)[1:]
	views := [][]any{list(l, int64(7)), list(web, int64(7)), list(wrong, int64(7)), list(l, int64(-1))}
	whole, _ := impl.SegmentOf(l)
	return []call{
		{"SetOk", impl.SetOk, [][]any{list(l), list(wrong)}},
		{"VectorOf", impl.VectorOf, [][]any{list(l), list(wrong)}},
		{"Agree", impl.Agree, [][]any{list(l, l[:2]), list(l, keeps(1, 2)), list(l, wrong)}},
		{"Joined", impl.Joined, [][]any{list(l, l[:2]), list(l[:2], l), list(l, keeps(2, 3)), list(l, keeps(1, 2)), list(l, []impl.Update(nil)), list(wrong, l)}},
		{"Since", impl.Since, [][]any{list(l, dots(1, 1), int64(3)), list(l, []impl.Dot(nil), int64(60)), list(l, dots(9, 9), int64(3)), list(l, dots(1, 1), int64(0))}},
		{"Taken", impl.Taken, [][]any{list(l, more), list(l, more[:1]), list(l, []impl.Update(nil)), list(l, l), list(wrong, l), list(l, keeps(1, 61))}},
		{"LevelOf", impl.LevelOf, views}, {"Visible", impl.Visible, views}, {"Kept", impl.Kept, views},
		{"SpansOf", impl.SpansOf, views}, {"ForestOf", impl.ForestOf, views}, {"Longest", impl.Longest, views},
		{"TracesOf", impl.TracesOf, [][]any{list(l), list(web), list(wrong)}},
		{"Found", impl.Found, [][]any{list(web, "web", int64(0), int64(99)), list(l, "web", int64(0), int64(99)), list(l, "web", int64(9), int64(0))}},
		{"SegmentOf", impl.SegmentOf, [][]any{list(l), list(l[:1]), list([]impl.Update(nil)), list(append(keeps(1, 3), impl.Update{})), list(keeps(1, 61))}},
		{"RecoveredFrom", impl.RecoveredFrom, [][]any{list(whole), list(whole[:len(whole)-1]), list(whole[1:]), list(whole + whole), list("")}},
	}
}

func callsOfWorlds(t *testing.T) []call {
	t.Helper()
	l := few(t)
	r, stuck := regionAt(impl.MaxTime, impl.MaxCount, 1, l), regionAt(0, 0, 1, l)
	free := regionAt(50, 0, 2, l[:4])
	w, wrong := roomy(t, 0), roomy(t, 0)
	wrong.Regions[0].Set = wrong.Regions[0].Set[1:]
	acts := []impl.WAct{opAct(1, spanOp(7, span(9, 1, "queue", 0, 0))), askAct(1, 2), mailAct(impl.WaTwice, 1), mailAct(impl.WaDeliver, 0), mailAct(impl.WaDeliver, 9), {}}
	do := [][]any{list(wrong, acts[0])}
	for _, a := range acts {
		do = append(do, list(w, a))
	}
	return []call{
		{"RegionOk", impl.RegionOk, [][]any{list(r), list(stuck)}},
		{"Issued", impl.Issued, [][]any{list(free, acts[0].Op, int64(60)), list(free, op(impl.OpKeep, 7), int64(60)), list(free, impl.Op{}, int64(60)), list(r, op(impl.OpKeep, 7), int64(60)), list(stuck, acts[0].Op, int64(60))}},
		{"Received", impl.Received, [][]any{list(free, keeps(3, 2), int64(60)), list(free, l, int64(60)), list(free, []impl.Update(nil), int64(60)), list(free, keeps(1, 61), int64(60)), list(stuck, l, int64(60))}},
		{"WorldOk", impl.WorldOk, [][]any{list(w), list(wrong)}},
		{"WorldDo", impl.WorldDo, do},
		{"WorldPlay", impl.WorldPlay, [][]any{list(w, acts), list(w, []impl.WAct(nil)), list(w, make([]impl.WAct, 101)), list(wrong, acts)}},
		{"Calmed", impl.Calmed, [][]any{list(w), list(wrong), list(roomy(t, impl.MaxCount))}},
	}
}

// Each function that the package has is among the calls, so that what is said of all is said of it.
func TestAllFunctionsAreCalled(t *testing.T) {
	named := map[string]bool{}
	for _, c := range calls(t) {
		named[c.name] = true
	}
	files, err := filepath.Glob("../impl/*.go")
	if err != nil || len(files) == 0 {
		t.Fatal(files, err)
	}
	for _, file := range files {
		tree, err := parser.ParseFile(token.NewFileSet(), file, nil, 0)
		if err != nil {
			t.Fatal(err)
		}
		for _, d := range tree.Decls {
			if f, ok := d.(*ast.FuncDecl); ok && f.Recv == nil && f.Name.IsExported() && !named[f.Name.Name] {
				t.Errorf("%s is not called", f.Name.Name)
			}
		}
	}
}

// withRoom is v in new memory, each list of it with spare room behind it that is not zero.
func withRoom(v reflect.Value) reflect.Value {
	c := reflect.New(v.Type()).Elem()
	switch v.Kind() {
	case reflect.String:
		c.SetString(strings.Clone(v.String()))
	case reflect.Struct:
		for i := range v.NumField() {
			c.Field(i).Set(withRoom(v.Field(i)))
		}
	case reflect.Slice:
		c.Set(reflect.MakeSlice(v.Type(), v.Len()+3, v.Len()+3))
		for i := range v.Len() {
			c.Index(i).Set(withRoom(v.Index(i)))
		}
		for i := v.Len(); i < c.Len(); i++ {
			spoilAll(c.Index(i))
		}
		c.Set(c.Slice(0, v.Len()))
	default:
		c.Set(v)
	}
	return c
}

// spoilAll writes into all that v has, also into the spare room behind its lists.
func spoilAll(v reflect.Value) {
	switch v.Kind() {
	case reflect.Int64:
		v.SetInt(math.MinInt64 + 7)
	case reflect.Struct:
		for i := range v.NumField() {
			spoilAll(v.Field(i))
		}
	case reflect.Slice:
		v = v.Slice(0, v.Cap())
		for i := range v.Len() {
			spoilAll(v.Index(i))
		}
	}
}

// same takes an empty list and nil as one; with room, the spare room of lists is held against each other, too.
func same(a, b reflect.Value, room bool) bool {
	switch a.Kind() {
	case reflect.Struct:
		for i := range a.NumField() {
			if !same(a.Field(i), b.Field(i), room) {
				return false
			}
		}
		return true
	case reflect.Slice:
		if a.Len() != b.Len() {
			return false
		}
		if room {
			a, b = a.Slice(0, a.Cap()), b.Slice(0, b.Cap())
		}
		for i := range a.Len() {
			if !same(a.Index(i), b.Index(i), room) {
				return false
			}
		}
		return true
	}
	return a.Interface() == b.Interface()
}

func allSame(a, b []reflect.Value, room bool) bool {
	for i := range a {
		if !same(a[i], b[i], room) {
			return false
		}
	}
	return len(a) == len(b)
}

func allWithRoom(args []any) []reflect.Value {
	var all []reflect.Value
	for _, a := range args {
		all = append(all, withRoom(reflect.ValueOf(a)))
	}
	return all
}

// listsOf has where the lists of v lie, those without memory left out.
func listsOf(v reflect.Value) []room {
	var all []room
	switch v.Kind() {
	case reflect.Struct:
		for i := range v.NumField() {
			all = append(all, listsOf(v.Field(i))...)
		}
	case reflect.Slice:
		if v.Cap() > 0 {
			all = append(all, room{v.Pointer(), v.Pointer() + uintptr(v.Cap())*v.Type().Elem().Size()})
		}
		for i := range v.Len() {
			all = append(all, listsOf(v.Index(i))...)
		}
	}
	return all
}

func allListsOf(values []reflect.Value) []room {
	var all []room
	for _, v := range values {
		all = append(all, listsOf(v)...)
	}
	return all
}

// P9: the same arguments give the same answers; nothing is written into an argument. And each answer is new memory.
func TestAllTellTheSameAgain(t *testing.T) {
	all := calls(t)
	var first [][][]reflect.Value
	for _, c := range all {
		var answers [][]reflect.Value
		for _, args := range c.args {
			answers = append(answers, reflect.ValueOf(c.f).Call(allWithRoom(args)))
		}
		first = append(first, answers)
	}
	// Again, now that all others have been called.
	for i, c := range all {
		for j, args := range c.args {
			given, kept := allWithRoom(args), allWithRoom(args)
			got := reflect.ValueOf(c.f).Call(given)
			if !allSame(given, kept, true) {
				t.Errorf("%s%v: an argument, or the room behind it, was written", c.name, args)
			}
			if !allSame(got, first[i][j], false) {
				t.Errorf("%s%v: %v, then %v", c.name, args, first[i][j], got)
			}
			mine := allListsOf(got)
			for k, a := range mine {
				for _, b := range append(mine[:k:k], allListsOf(given)...) {
					if a.from < b.to && b.from < a.to {
						t.Errorf("%s%v: a list of %v shares memory", c.name, args, got)
					}
				}
			}
			// What is done to an answer reaches neither the arguments nor a later answer.
			for _, v := range got {
				settable := reflect.New(v.Type()).Elem()
				settable.Set(v)
				spoilAll(settable)
			}
			if again := reflect.ValueOf(c.f).Call(given); !allSame(given, kept, true) || !allSame(again, first[i][j], false) {
				t.Errorf("%s%v: %v, then %v", c.name, args, first[i][j], again)
			}
		}
	}
}
