package syntax_test

import (
	"reflect"
	"testing"

	"ratchet/api"
	"ratchet/syntax"
)

// R2: slices that contain themselves, and numbers at which careless arithmetic fails.
func TestEveryCallReturns(t *testing.T) {
	loop := made("F", v("a"), v("b"))
	loop.Parts[1] = loop
	arms := cases(v("a"), arm(anyPattern(), v("a")))
	arms.Arms[0].Body = arms
	deep := lambda("x", v("x"))
	deep.Parts[0] = deep
	for _, term := range []api.Term{loop, arms, deep} {
		if e := syntax.CheckTerm(term); e != api.ErrLarge {
			t.Error(e)
		}
		if _, e := syntax.PrintTerm(term); e != api.ErrLarge {
			t.Error(e)
		}
		if _, e := syntax.FreeIn(term); e != api.ErrLarge {
			t.Error(e)
		}
		if _, e := syntax.SizeOf(term); e != api.ErrLarge {
			t.Error(e)
		}
		if _, e := syntax.Unplaced(term); e != api.ErrLarge {
			t.Error(e)
		}
		if e := syntax.CheckPackage(api.Package{Name: "P", Functions: []api.Function{{Name: "f", Type: tv("_"), Term: term}}}); e != api.ErrLarge {
			t.Error(e)
		}
	}
	typ, pattern, statement := tc("F", tv("a")), pm("F", pv("a")), when(v("a"), states(write("a", v("a"))), states(write("a", v("a"))))
	typ.Parts[0], pattern.Parts[0], statement.Else[0] = typ, pattern, statement
	if e := syntax.CheckType(typ); e != api.ErrLarge {
		t.Error(e)
	}
	if e := syntax.CheckPattern(pattern); e != api.ErrLarge {
		t.Error(e)
	}
	if _, e := syntax.BoundBy(pattern); e != api.ErrLarge {
		t.Error(e)
	}
	if e := syntax.CheckStatement(statement); e != api.ErrLarge {
		t.Error(e)
	}
	for _, number := range extremes {
		for _, other := range extremes {
			term := api.Term{Kind: number, Value: other, Width: other, At: other}
			if e := syntax.CheckTerm(term); e != api.ErrKind {
				t.Error(number, other, e)
			}
			for kind := range api.TermKinds {
				syntax.CheckTerm(api.Term{Kind: kind, Value: number, Width: other})
			}
			if e := syntax.CheckTerm(bits(number, other)); e != api.ErrRange {
				t.Error(number, other, e)
			}
		}
		for _, e := range []api.Errno{syntax.CheckType(api.Type{Kind: number}), syntax.CheckPattern(api.Pattern{Kind: number}), syntax.CheckStatement(api.Statement{Kind: number, Type: tv("a")})} {
			if e != api.ErrKind {
				t.Error(number, e)
			}
		}
	}
}

// spoil overwrites all that slices in a value have.
func spoil(x reflect.Value) {
	switch x.Kind() {
	case reflect.Slice:
		for i := range x.Len() {
			spoil(x.Index(i))
			x.Index(i).SetZero()
		}
	case reflect.Struct:
		for i := range x.NumField() {
			spoil(x.Field(i))
		}
	}
}

// memoryOf visits the addresses of all items of slices in a value.
func memoryOf(x reflect.Value, visit func(address uintptr)) {
	switch x.Kind() {
	case reflect.Slice:
		for i := range x.Cap() {
			visit(x.Slice(0, x.Cap()).Index(i).Addr().Pointer())
		}
		for i := range x.Len() {
			memoryOf(x.Index(i), visit)
		}
	case reflect.Struct:
		for i := range x.NumField() {
			memoryOf(x.Field(i), visit)
		}
	}
}

// R3, R4: arguments stay as they are, results share no memory, and the next call has the same result.
func TestMemory(t *testing.T) {
	eachTree(3000, func(d *dice, s sort, tree any, text string) {
		before := shown(tree)
		read, _, _ := s.parse(text)
		seen := map[uintptr]bool{}
		memoryOf(reflect.ValueOf(read), func(address uintptr) {
			if seen[address] {
				t.Fatalf("%q: two parts share memory", text)
			}
			seen[address] = true
		})
		placedBefore := shown(read)
		spoil(reflect.ValueOf(read))
		if again, _, _ := s.parse(text); shown(again) != placedBefore {
			t.Fatalf("%q: %+v, not %s", text, again, placedBefore)
		}
		s.check(tree)
		s.print(tree)
		if term, is := tree.(api.Term); is {
			x, _ := syntax.Unplaced(term)
			spoil(reflect.ValueOf(x))
			l, _ := syntax.FreeIn(term)
			spoil(reflect.ValueOf(l))
			syntax.SizeOf(term)
		}
		if pattern, is := tree.(api.Pattern); is {
			l, _ := syntax.BoundBy(pattern)
			spoil(reflect.ValueOf(l))
		}
		if shown(tree) != before {
			t.Fatalf("%q: %s, not %s", text, shown(tree), before)
		}
	})
}
