package tests

import (
	"cmp"
	"reflect"
	"slices"
)

// rebuilt copies v all through. list makes of a list a new one with the same elements, which are copied, too; what it puts behind its length stays.
func rebuilt(v reflect.Value, list func(l reflect.Value) reflect.Value) reflect.Value {
	switch v.Kind() {
	case reflect.Struct:
		out := reflect.New(v.Type()).Elem()
		for i := range v.NumField() {
			out.Field(i).Set(rebuilt(v.Field(i), list))
		}
		return out
	case reflect.Slice:
		out := list(v)
		for i := range out.Len() {
			out.Index(i).Set(rebuilt(out.Index(i), list))
		}
		return out
	}
	return v
}

// withRoom is a new list with the elements of l, and room for so many more.
func withRoom(l reflect.Value, more int) reflect.Value {
	out := reflect.MakeSlice(l.Type(), l.Len(), l.Len()+more)
	reflect.Copy(out, l)
	return out
}

// justLong has no room, and is nil where it is empty.
func justLong(l reflect.Value) reflect.Value {
	if l.Len() == 0 {
		return reflect.Zero(l.Type())
	}
	return withRoom(l, 0)
}

// plainCopy has nothing behind its lists; an empty one is nil.
func plainCopy[T any](x T) T {
	return rebuilt(reflect.ValueOf(x), justLong).Interface().(T)
}

// roomyCopy has behind each list its first element once more, and an empty one.
func roomyCopy[T any](x T) T {
	return rebuilt(reflect.ValueOf(x), func(l reflect.Value) reflect.Value {
		out := withRoom(l, 2)
		if l.Len() > 0 {
			out.Slice(0, l.Len()+1).Index(l.Len()).Set(rebuilt(l.Index(0), justLong))
		}
		return out
	}).Interface().(T)
}

// wholeCopy has in its lists what stands behind those of x, too.
func wholeCopy[T any](x T) T {
	return rebuilt(reflect.ValueOf(x), func(l reflect.Value) reflect.Value {
		return justLong(l.Slice(0, l.Cap()))
	}).Interface().(T)
}

// sameAll tells whether two are the same all through; an empty list and nil are.
func sameAll[T any](a, b T) bool {
	return reflect.DeepEqual(plainCopy(a), plainCopy(b))
}

// memory is where a list stands, with the room behind it.
type memory struct{ from, to uintptr }

// memoryOf tells where the lists of x stand, in order.
func memoryOf(x any) []memory {
	out := []memory{}
	eachList(reflect.ValueOf(x), func(all reflect.Value) {
		if all.Len() > 0 {
			from := all.Pointer()
			out = append(out, memory{from, from + uintptr(all.Len())*all.Type().Elem().Size()})
		}
	})
	slices.SortFunc(out, func(a, b memory) int { return cmp.Compare(a.from, b.from) })
	return out
}

// eachList calls do with each list of v, what lies behind its length with it.
func eachList(v reflect.Value, do func(all reflect.Value)) {
	switch v.Kind() {
	case reflect.Struct:
		for i := range v.NumField() {
			eachList(v.Field(i), do)
		}
	case reflect.Slice:
		all := v.Slice(0, v.Cap())
		for i := range all.Len() {
			eachList(all.Index(i), do)
		}
		do(all)
	}
}

// allApart tells whether no two of these, which are in order, share any.
func allApart(l []memory) bool {
	for i := 1; i < len(l); i++ {
		if l[i-1].to > l[i].from {
			return false
		}
	}
	return true
}

// sharesAny tells whether one of l, which are in order and apart, shares any with one of others.
func sharesAny(l, others []memory) bool {
	for _, x := range others {
		at, _ := slices.BinarySearchFunc(l, x.to, func(m memory, to uintptr) int { return cmp.Compare(m.from, to) })
		if at > 0 && l[at-1].to > x.from {
			return true
		}
	}
	return false
}

// scribbled has all that the lists of x hold overwritten, and what lies behind them.
func scribbled(x any) {
	eachList(reflect.ValueOf(x), func(all reflect.Value) {
		for i := range all.Len() {
			scribbleOn(all.Index(i))
		}
	})
}

// scribbleOn leaves lists where they are.
func scribbleOn(v reflect.Value) {
	switch v.Kind() {
	case reflect.Struct:
		for i := range v.NumField() {
			scribbleOn(v.Field(i))
		}
	case reflect.String:
		v.SetString("changed")
	case reflect.Int:
		v.SetInt(12345)
	case reflect.Bool:
		v.SetBool(!v.Bool())
	}
}
