package tests

import (
	"fmt"
	"reflect"
	"testing"

	"loop.example/g01384/impl"
)

// call is a function of the package, and whether its last result is a code.
type call struct {
	name string
	fun  any
	code bool
}

// argumentPool has for each type the arguments that are tried.
type argumentPool map[reflect.Type][]reflect.Value

func addPool[T any](pool argumentPool, list []T) {
	for _, v := range list {
		pool[reflect.TypeFor[T]()] = append(pool[reflect.TypeFor[T]()], reflect.ValueOf(v))
	}
}

// eachArguments visits all combinations of the pooled arguments of a function.
func eachArguments(fun reflect.Type, pool argumentPool, visit func([]reflect.Value)) {
	args := make([]reflect.Value, fun.NumIn())
	var choose func(i int)
	choose = func(i int) {
		if i == len(args) {
			visit(args)
			return
		}
		for _, v := range pool[fun.In(i)] {
			args[i] = v
			choose(i + 1)
		}
	}
	choose(0)
}

// slicesIn returns the slices of a value with what lies behind their ends: the value itself, or the fields of a struct.
func slicesIn(v reflect.Value) []reflect.Value {
	switch v.Kind() {
	case reflect.Slice:
		return []reflect.Value{v.Slice(0, v.Cap())}
	case reflect.Struct:
		var list []reflect.Value
		for i := range v.NumField() {
			list = append(list, slicesIn(v.Field(i))...)
		}
		return list
	}
	return nil
}

// picture shows values; of slices also what lies behind their ends.
func picture(values []reflect.Value) string {
	var list []any
	for _, v := range values {
		list = append(list, v.Interface())
		for _, whole := range slicesIn(v) {
			list = append(list, whole.Interface())
		}
	}
	return fmt.Sprint(list...)
}

// isNone reports whether a result is zero; a slice may be empty.
func isNone(v reflect.Value) bool {
	if v.Kind() == reflect.Slice {
		return v.Len() == 0
	}
	return v.IsZero()
}

// scribble overwrites the slices of results, unused capacity too, to see whether anything else shares their memory.
func scribble(results []reflect.Value) {
	for _, v := range results {
		for _, whole := range slicesIn(v) {
			for i := range whole.Len() {
				e := whole.Index(i)
				e.SetZero()
				if e.Kind() == reflect.Int64 {
					e.SetInt(-77)
				}
			}
		}
	}
}

// checkCall makes one call twice and looks at what promise 1 says of it.
func checkCall(t *testing.T, c call, args []reflect.Value) {
	t.Helper()
	before := picture(args)
	fun := reflect.ValueOf(c.fun)
	first := fun.Call(args)
	shown := make([]string, len(first))
	for i, v := range first {
		shown[i] = fmt.Sprint(v.Interface())
	}
	if c.code {
		checkCode(t, c.name, before, first)
	}
	scribble(first)
	if after := picture(args); after != before {
		t.Fatalf("%s modifies or gives out its arguments: %s became %s", c.name, before, after)
	}
	for i, v := range fun.Call(args) {
		if again := fmt.Sprint(v.Interface()); again != shown[i] {
			t.Fatalf("%s %s: result %d is %s, and then %s", c.name, before, i, shown[i], again)
		}
	}
}

func checkCode(t *testing.T, name, args string, results []reflect.Value) {
	t.Helper()
	last := len(results) - 1
	code := results[last].Int()
	if code == impl.OK {
		return
	}
	if impl.CodeName(code) == "" {
		t.Fatalf("%s %s: the code %d has no name", name, args, code)
	}
	for i, v := range results[:last] {
		if !isNone(v) {
			t.Fatalf("%s %s: result %d is %v beside the code %d", name, args, i, v, code)
		}
	}
}

// checkCalls checks all functions with all combinations of pooled arguments.
func checkCalls(t *testing.T, calls []call, pool argumentPool) {
	t.Helper()
	for _, c := range calls {
		fun := reflect.TypeOf(c.fun)
		for i := range fun.NumIn() {
			if len(pool[fun.In(i)]) == 0 {
				t.Fatalf("%s: there are no arguments of the type %v", c.name, fun.In(i))
			}
		}
		eachArguments(fun, pool, func(args []reflect.Value) { checkCall(t, c, args) })
	}
}
