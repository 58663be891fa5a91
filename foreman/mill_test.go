package foreman_test

import (
	"math/rand"
	"reflect"
	"testing"

	"oilcake/api"
	"oilcake/foreman"
)

// whole is a mill that has something of all that mills have.
func whole() api.Mill {
	m := example()
	m.Did = []api.Did{cold}
	m.Marks.Trials = []api.Trial{{Number: 1, Batch: 5, Kind: 2, Found: true}}
	return m
}

// TestSame checks P12.6: mills are not the same as soon as anything in them differs.
func TestSame(t *testing.T) {
	differ := func(a, b api.Mill) {
		t.Helper()
		if foreman.Same(a, b) || foreman.Same(b, a) {
			t.Error(a, b)
		}
	}
	m := whole()
	n := 0
	leaves(reflect.ValueOf(&m).Elem(), func(v reflect.Value) {
		old := reflect.New(v.Type()).Elem()
		old.Set(v)
		switch v.Kind() {
		case reflect.Int:
			v.SetInt(v.Int() + 1)
		case reflect.Uint8:
			v.SetUint(v.Uint() + 1)
		case reflect.Bool:
			v.SetBool(!v.Bool())
		default:
			t.Fatal(v)
		}
		differ(m, whole())
		v.Set(old)
		n++
	})
	lists(&m, func(l reflect.Value) {
		old := l.Slice(0, l.Len())
		if l.Len() == 0 {
			t.Fatal(l.Type())
		}
		l.Set(old.Slice(0, old.Len()-1))
		differ(m, whole())
		l.SetZero()
		differ(m, whole())
		l.Set(reflect.Append(old, reflect.Zero(old.Type().Elem())))
		differ(m, whole())
		l.Set(old)
		n++
	})
	if n < 250 || !foreman.Same(m, whole()) {
		t.Error(n)
	}
	if !foreman.Same(api.Mill{}, api.Mill{}) {
		t.Error("nothing is not the same as nothing")
	}
	differ(whole(), api.Mill{})
}

// TestTwin checks P12.6: a twin is the same, in new memory.
func TestTwin(t *testing.T) {
	check := func(m api.Mill) {
		t.Helper()
		roomy(&m)
		kept := behind(m)
		n := foreman.Twin(m)
		if !foreman.Same(m, n) || !foreman.Same(n, m) || text(m) != text(n) || behind(m) != kept || shared(m, n) {
			t.Error(m, n)
		}
	}
	check(whole())
	check(api.Mill{})
	check(api.Mill{Did: make([]api.Did, 100000), Train: []api.Pair{{Driver: -1}}})
	some(4, 300, func(r *rand.Rand, m api.Mill) {
		for range r.Intn(3) {
			spoil(r, &m)
		}
		check(m)
	})
}

// TestAccount checks P12.5: what was pressed, cold and hot, and did not burst, and what all men get.
func TestAccount(t *testing.T) {
	for _, x := range []struct {
		by    func(m *api.Mill)
		want  int
		pence api.Span
	}{
		{did(), 0, span(100, 150)},
		{did(cold), 1, span(100, 150)},
		{did(cold, hot), 2, span(100, 150)},
		{did(cold, cold, cold, hot, hot), 5, span(100, 150)},
		{did(coldBurst, cold, nothing, hot), 2, span(100, 150)},
		{did(nothing, nothing), 0, span(100, 150)},
		{func(m *api.Mill) { m.Roll = smallRoll() }, 0, span(0, 5)},
		{func(m *api.Mill) { m.Roll = api.Roll{} }, 0, span(0, 0)},
		{unsound()["press"], 0, span(100, 150)},
		{unsound()["watch"], 0, span(100, 150)},
	} {
		a, e := foreman.Account(with(x.by))
		if a.Barrels != x.want || a.Pence != x.pence || e != api.OK {
			t.Error(a, e, x.want, x.pence)
		}
	}
	for _, by := range []func(m *api.Mill){did(), did(cold)} {
		if a, e := foreman.Account(with(unsound()["roll"], by)); a != (api.Account{}) || e != api.ErrBad {
			t.Error(a, e)
		}
	}
}
