package tests

import (
	"reflect"
	"slices"
	"strconv"
	"strings"
	"testing"
)

// repeated returns many times the same number.
func repeated(many int, x int64) []int64 { return slices.Repeat([]int64{x}, many) }

// roomy returns a slice of these numbers with spare capacity, and the whole array behind it. The
// spare numbers are not zero, so that a write beyond the length is seen.
func roomy(numbers ...int64) ([]int64, []int64) {
	whole := append(slices.Clone(numbers), 77, 78, 79, 80)
	return whole[:len(numbers)], whole
}

// wiped overwrites a slice and its spare capacity.
func wiped(s []int64) {
	s = s[:cap(s)]
	for i := range s {
		s[i] = -9
	}
}

// textOf writes numbers as a key of a map.
func textOf(row []int64) string {
	words := make([]string, len(row))
	for i, x := range row {
		words[i] = strconv.FormatInt(x, 10)
	}
	return strings.Join(words, " ")
}

// equalInts fails the test if got and want differ; nil and empty are equivalent.
func equalInts(t *testing.T, what string, got, want []int64) {
	t.Helper()
	if !slices.Equal(got, want) {
		t.Errorf("%s: got %v, want %v", what, got, want)
	}
}

// equalRows fails the test if got and want differ; nil and empty are equivalent.
func equalRows(t *testing.T, what string, got, want [][]int64) {
	t.Helper()
	if !slices.EqualFunc(got, want, slices.Equal[[]int64]) {
		t.Errorf("%s: got %v, want %v", what, got, want)
	}
}

// The values of the later chapters have many fields, which these helpers find by reflection.

// partsIn calls use for each number, bool and slice of a value, and for what is in the slices.
func partsIn(v reflect.Value, path string, use func(path string, part reflect.Value)) {
	switch v.Kind() {
	case reflect.Struct:
		for i := range v.NumField() {
			partsIn(v.Field(i), path+"."+v.Type().Field(i).Name, use)
		}
	case reflect.Slice:
		use(path, v)
		for i := range v.Len() {
			partsIn(v.Index(i), path+"["+strconv.Itoa(i)+"]", use)
		}
	default:
		use(path, v)
	}
}

// rebuilt returns a copy of a value whose slices are longer by more elements, which are garbage and
// beyond their length. If whole is true, the copy has the spare capacity of the value as well.
func rebuilt(v reflect.Value, more int, whole bool) reflect.Value {
	switch v.Kind() {
	case reflect.Struct:
		c := reflect.New(v.Type()).Elem()
		for i := range v.NumField() {
			c.Field(i).Set(rebuilt(v.Field(i), more, whole))
		}
		return c
	case reflect.Slice:
		many := v.Len()
		if whole {
			many = v.Cap()
		}
		c := reflect.MakeSlice(v.Type(), many+more, many+more)
		for i := range many {
			c.Index(i).Set(rebuilt(v.Slice(0, many).Index(i), more, whole))
		}
		for i := many; i < c.Len(); i++ {
			partsIn(c.Index(i), "", func(_ string, part reflect.Value) { garbled(part) })
		}
		return c.Slice(0, many)
	}
	return v
}

// garbled sets a part of a value to what no valid value has.
func garbled(part reflect.Value) {
	switch part.Kind() {
	case reflect.Int64:
		part.SetInt(-9)
	case reflect.Slice:
		part.Set(reflect.MakeSlice(part.Type(), 1, 1))
		partsIn(part.Index(0), "", func(_ string, inner reflect.Value) { garbled(inner) })
	}
}

// cloned returns a copy of a value with memory of its own.
func cloned[T any](x T) T { return rebuilt(reflect.ValueOf(x), 0, false).Interface().(T) }

// roomyCopy returns a copy of a value all of whose slices have spare capacity that is in use elsewhere.
func roomyCopy[T any](x T) T { return rebuilt(reflect.ValueOf(x), 2, false).Interface().(T) }

// wholeCopy returns a copy of a value with the spare capacity of all its slices.
func wholeCopy[T any](x T) T { return rebuilt(reflect.ValueOf(x), 0, true).Interface().(T) }

// sameParts reports whether two values of one type are equal; nil and empty are equivalent.
func sameParts(v, other reflect.Value) bool {
	switch v.Kind() {
	case reflect.Struct:
		for i := range v.NumField() {
			if !sameParts(v.Field(i), other.Field(i)) {
				return false
			}
		}
		return true
	case reflect.Slice:
		for i := range min(v.Len(), other.Len()) {
			if !sameParts(v.Index(i), other.Index(i)) {
				return false
			}
		}
		return v.Len() == other.Len()
	}
	return v.Equal(other)
}

// same reports whether two values are equal; nil and empty are equivalent.
func same[T any](x, other T) bool { return sameParts(reflect.ValueOf(x), reflect.ValueOf(other)) }

// wantEqual fails the test if got and want differ; nil and empty are equivalent.
func wantEqual[T any](t *testing.T, what string, got, want T) {
	t.Helper()
	if !same(got, want) {
		t.Errorf("%s: got %+v, want %+v", what, got, want)
	}
}

// wantAlike fails the test if a comparison of two values is not as wanted, both ways.
func wantAlike[T any](t *testing.T, what string, alike func(x, other T) bool, x, other T, want bool) {
	t.Helper()
	if alike(x, other) != want || alike(other, x) != want {
		t.Errorf("%s: got %v or %v, want %v", what, alike(x, other), alike(other, x), want)
	}
}

// changesOf calls use with the values that differ from x in one number, one bool, or one slice, of
// which an element is missing, added, or in another place. A value is valid during its call only.
func changesOf[T any](x T, numbers func(old int64) []int64, use func(what string, changed T)) {
	x = cloned(x)
	partsIn(reflect.ValueOf(&x).Elem(), "", func(path string, part reflect.Value) {
		switch part.Kind() {
		case reflect.Int64:
			old := part.Int()
			for _, y := range numbers(old) {
				if y != old {
					part.SetInt(y)
					use(path+" set to "+strconv.FormatInt(y, 10), x)
				}
			}
			part.SetInt(old)
		case reflect.Bool:
			part.SetBool(!part.Bool())
			use(path+" turned", x)
			part.SetBool(!part.Bool())
		case reflect.Slice:
			old := reflect.ValueOf(part.Interface())
			for i, s := range changedSlices(old) {
				part.Set(s)
				use(path+", its change "+strconv.Itoa(i), x)
			}
			part.Set(old)
		}
	})
}

// changedSlices returns slices that differ from s: one with a zero element more, and with one of its
// own more, without its first and without its last element, and with these in each other's place.
func changedSlices(s reflect.Value) []reflect.Value {
	many := s.Len()
	zero := reflect.Zero(s.Type().Elem())
	fresh := func() reflect.Value { return reflect.AppendSlice(reflect.MakeSlice(s.Type(), 0, many+1), s) }
	changed := []reflect.Value{reflect.Append(fresh(), zero)}
	if many > 0 {
		changed = append(changed, reflect.Append(fresh(), s.Index(many-1)), fresh().Slice(1, many), fresh().Slice(0, many-1))
	}
	if many > 1 && !sameParts(s.Index(0), s.Index(many-1)) {
		swapped := fresh()
		swapped.Index(0).Set(s.Index(many - 1))
		swapped.Index(many - 1).Set(s.Index(0))
		changed = append(changed, swapped)
	}
	return changed
}

// A stretch is the memory of a slice, its spare capacity included.
type stretch struct {
	from, to uintptr
	path     string
}

// stretchesOf returns the memory of all slices of a value.
func stretchesOf(what string, x any) []stretch {
	var all []stretch
	partsIn(reflect.ValueOf(x), what, func(path string, part reflect.Value) {
		if part.Kind() == reflect.Slice && part.Cap() > 0 {
			from := part.Pointer()
			all = append(all, stretch{from, from + uintptr(part.Cap())*part.Type().Elem().Size(), path})
		}
	})
	return all
}

// wantMemoryApart fails the test if two slices of the results share memory, or if one of a result and
// one of an argument do.
func wantMemoryApart(t *testing.T, what string, arguments, results []any) {
	t.Helper()
	var given, got []stretch
	for i, x := range arguments {
		given = append(given, stretchesOf("argument "+strconv.Itoa(i), x)...)
	}
	for i, x := range results {
		got = append(got, stretchesOf("result "+strconv.Itoa(i), x)...)
	}
	for i, s := range got {
		for _, other := range append(given, got[:i]...) {
			if s.from < other.to && other.from < s.to {
				t.Errorf("%s: %s shares memory with %s", what, s.path, other.path)
			}
		}
	}
}
