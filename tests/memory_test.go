package tests

import (
	"fmt"
	"reflect"
	"testing"
)

// remade copies a value of any type with all its lists. Each list has as many
// more places behind it as room says, or, with room below 0, all that stands in
// the room behind it as a part of it.
func remade(v reflect.Value, room int) reflect.Value {
	made := reflect.New(v.Type()).Elem()
	made.Set(v)
	switch v.Kind() {
	case reflect.Slice:
		if v.IsNil() && room <= 0 {
			return made
		}
		from := v
		if room < 0 {
			from = v.Slice(0, v.Cap())
		}
		length := from.Len()
		list := reflect.MakeSlice(v.Type(), length+max(room, 0), length+max(room, 0))
		for i := range list.Len() {
			if i < length {
				list.Index(i).Set(remade(from.Index(i), room))
			} else {
				fill(list.Index(i))
			}
		}
		made.Set(list.Slice3(0, length, list.Len()))
	case reflect.Struct:
		for i := range v.NumField() {
			made.Field(i).Set(remade(v.Field(i), room))
		}
	}
	return made
}

// fill writes spare into each number, so that the room behind a list tells
// what is written into it.
func fill(v reflect.Value) {
	switch v.Kind() {
	case reflect.Int64:
		v.SetInt(spare)
	case reflect.String:
		v.SetString("spare")
	case reflect.Struct:
		for i := range v.NumField() {
			fill(v.Field(i))
		}
	}
}

// withRoom copies a value and leaves filled room behind all its lists.
func withRoom[T any](v T) T { return remade(reflect.ValueOf(v), 2).Interface().(T) }

// copyOf copies a value with all its lists.
func copyOf[T any](v T) T { return remade(reflect.ValueOf(v), 0).Interface().(T) }

// frozen is what a value is, with the room behind all its lists.
func frozen(v any) any { return remade(reflect.ValueOf(v), -1).Interface() }

// span is the memory of a list, with the room behind it.
type span struct{ from, to uintptr }

func spansOf(v reflect.Value) []span {
	var list []span
	switch v.Kind() {
	case reflect.Slice:
		if size := v.Type().Elem().Size(); v.Cap() > 0 && size > 0 {
			list = append(list, span{v.Pointer(), v.Pointer() + uintptr(v.Cap())*size})
		}
		for i := range v.Len() {
			list = append(list, spansOf(v.Index(i))...)
		}
	case reflect.Struct:
		for i := range v.NumField() {
			list = append(list, spansOf(v.Field(i))...)
		}
	}
	return list
}

// expectApart fails when two lists of one answer share memory, or one of them
// with an argument.
func expectApart(t *testing.T, what string, answer any, arguments ...any) {
	t.Helper()
	own := spansOf(reflect.ValueOf(answer))
	var others []span
	for _, a := range arguments {
		others = append(others, spansOf(reflect.ValueOf(a))...)
	}
	for i, a := range own {
		for _, b := range append(own[i+1:len(own):len(own)], others...) {
			if a.from < b.to && b.from < a.to {
				t.Fatalf("%s: two lists share memory", what)
			}
		}
	}
}

// same takes an empty list and nil for the same.
func same(a, b any) bool { return sameValues(reflect.ValueOf(a), reflect.ValueOf(b)) }

func sameValues(a, b reflect.Value) bool {
	switch {
	case a.Type() != b.Type():
		return false
	case a.Kind() == reflect.Struct:
		for i := range a.NumField() {
			if !sameValues(a.Field(i), b.Field(i)) {
				return false
			}
		}
		return true
	case a.Kind() == reflect.Slice:
		if a.Len() != b.Len() {
			return false
		}
		for i := range a.Len() {
			if !sameValues(a.Index(i), b.Index(i)) {
				return false
			}
		}
		return true
	}
	return a.Interface() == b.Interface()
}

// told is the beginning of what a value is.
func told(v any) string { return fmt.Sprintf("%.1500s", fmt.Sprint(v)) }

func TestMemoryIsSeen(t *testing.T) {
	type pair struct{ A, B []int64 }
	list := withRoom([]int64{1, 2, 3})
	if len(list) != 3 || cap(list) != 5 || list[:5][4] != spare || !same(frozen(list), []int64{1, 2, 3, spare, spare}) {
		t.Errorf("%v %v", list, frozen(list))
	}
	if spans := spansOf(reflect.ValueOf(pair{list, list[3:]})); len(spans) != 2 || spans[0].to != spans[1].to {
		t.Errorf("%v", spans)
	}
	if !same(pair{A: []int64{}}, pair{}) || same(pair{A: []int64{1}}, pair{}) || same(pair{}, list) || same(pair{A: []int64{1}}, pair{A: []int64{2}}) {
		t.Error("what is the same")
	}
	made := copyOf(pair{list, nil})
	expectApart(t, "copies", made, list)
	if !same(made, pair{list, nil}) {
		t.Errorf("%v", made)
	}
}
