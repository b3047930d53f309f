package tables_test

import (
	"fmt"
	"math"
	"strings"
	"testing"

	"paternoster/api"
	"paternoster/tables"
)

// expect fails unless two values are written alike.
func expect(t *testing.T, what string, got, want any) {
	t.Helper()
	if g, w := fmt.Sprint(got), fmt.Sprint(want); g != w {
		t.Errorf("%s: %s, expected %s", what, g, w)
	}
}

func all(l ...any) []any { return l }

// table returns heights for numbers that are taken in pairs.
func table(l ...int64) []api.Height {
	var out []api.Height
	for i := 0; i < len(l); i += 2 {
		out = append(out, api.Height{Key: uint64(l[i]), Size: l[i+1]})
	}
	return out
}

// many returns n heights with the keys from first on.
func many(n, first int) []api.Height {
	var out []api.Height
	for i := range n {
		out = append(out, api.Height{Key: uint64(first + i), Size: 7})
	}
	return out
}

func TestP11_1Check(t *testing.T) {
	for _, x := range []struct {
		l     []api.Height
		least int64
		at    int
		e     api.Errno
	}{
		{table(5, 10, 7, 20), 10, 0, 0}, {nil, 1, 0, 0}, {nil, api.MaxHeight, 0, 0}, {table(-1, api.MaxHeight), 1, 0, 0},
		{table(5, 10, 5, 9), 10, 1, api.ErrHeight}, {table(5, 10, 0, 1), 10, 1, api.ErrKey}, {table(5, 10, 5, 12), 10, 1, api.ErrTwice},
		{table(5, api.MaxHeight+1), 10, 0, api.ErrHeight}, {table(5, -1), 1, 0, api.ErrHeight}, {table(1, 1, 2, 2, 1, 1, 0, 0), 1, 2, api.ErrTwice},
		{nil, 0, 0, api.ErrArg}, {nil, -1, 0, api.ErrArg}, {table(0, 0), api.MaxHeight + 1, 0, api.ErrArg},
		{many(api.MaxTable, 1), 7, 0, 0}, {many(api.MaxTable+1, 0), 7, 0, api.ErrLimit}, {many(api.MaxTable+1, 0), 0, 0, api.ErrArg},
	} {
		expect(t, "Check", all(tables.Check(x.l, x.least)), all(x.at, x.e))
	}
}

func TestP11_2FindSorted(t *testing.T) {
	l := table(7, 1, 2, 1, 7, 0, 0, -5, 2, 9)
	expect(t, "Find", all(tables.Find(l, 7)), all(1, true))
	expect(t, "Find", all(tables.Find(l, 0)), all(-5, true))
	expect(t, "Find", all(tables.Find(l, 3)), all(0, false))
	expect(t, "Find", all(tables.Find(nil, 0)), all(0, false))
	expect(t, "Sorted", tables.Sorted(l), table(0, -5, 2, 1, 2, 9, 7, 1, 7, 0))
	expect(t, "the argument", l, table(7, 1, 2, 1, 7, 0, 0, -5, 2, 9))
	expect(t, "Sorted", tables.Sorted(table(-1, 3, 1, 3)), table(1, 3, -1, 3))
	expect(t, "Sorted", tables.Sorted(nil), table())
}

func TestP11_3Merge(t *testing.T) {
	a, b := table(5, 10, 7, 20), table(9, 1, 5, 30)
	got, e := tables.Merge(a, b, 1)
	expect(t, "Merge", all(got, e, len(got) == cap(got)), all(table(5, 30, 7, 20, 9, 1), 0, true))
	expect(t, "the arguments", all(a, b), all(table(5, 10, 7, 20), table(9, 1, 5, 30)))
	for _, x := range []struct {
		a, b  []api.Height
		least int64
		e     api.Errno
	}{
		{table(0, 1), table(1, 0), 1, api.ErrKey}, {table(1, 1), table(1, 0), 1, api.ErrHeight}, {nil, table(1, 1, 1, 1), 1, api.ErrTwice},
		{nil, nil, 0, api.ErrArg}, {many(api.MaxTable, 1), many(1, api.MaxTable+1), 1, api.ErrLimit},
		{many(api.MaxTable, 1), many(2, api.MaxTable), 1, api.ErrLimit},
	} {
		expect(t, "Merge", all(tables.Merge(x.a, x.b, x.least)), all(table(), x.e))
	}
	got, e = tables.Merge(many(api.MaxTable, 1), many(9, 20), 1)
	expect(t, "Merge at the limit", all(len(got), e), all(api.MaxTable, 0))
}

func TestP11_4TextParse(t *testing.T) {
	expect(t, "Text", all(tables.Text(table(5, 10, 7, 20))), all("5 10\n7 20\n", 0))
	expect(t, "Text", all(tables.Text(nil)), all("", 0))
	expect(t, "Text", all(tables.Text(table(-1, api.MaxHeight))), all("18446744073709551615 2305843009213693952\n", 0))
	expect(t, "Text", all(tables.Text(table(1, 0))), all("", api.ErrHeight))
	expect(t, "Text", all(tables.Text(many(api.MaxTable+1, 1))), all("", api.ErrLimit))
	long := strings.Repeat("1 1\n", api.MaxText/4)
	full, _ := tables.Text(many(api.MaxTable, 1))
	for _, x := range []struct {
		s    string
		line int
		e    api.Errno
	}{
		{"5 10\n5 11\n", 2, api.ErrTwice}, {"5 10", 1, api.ErrForm}, {"05 1\n", 1, api.ErrForm}, {"5 01\n", 1, api.ErrForm},
		{"5\n", 1, api.ErrForm}, {"\n", 1, api.ErrForm}, {"5  1\n", 1, api.ErrForm}, {"5 1 \n", 1, api.ErrForm}, {" 5 1\n", 1, api.ErrForm},
		{"-5 1\n", 1, api.ErrForm}, {"5 -1\n", 1, api.ErrForm}, {"5 1\r\n", 1, api.ErrForm}, {"+5 1\n", 1, api.ErrForm},
		{"18446744073709551616 1\n", 1, api.ErrForm}, {"1 9223372036854775808\n", 1, api.ErrForm}, {"1 9223372036854775807\n", 1, api.ErrHeight},
		{"0 0\n", 1, api.ErrKey}, {"1 0\n", 1, api.ErrHeight}, {"1 1\n1 0\n", 2, api.ErrHeight}, {"1 1\n\n", 2, api.ErrForm},
		{"0 1\nx", 1, api.ErrKey}, {"0 1", 1, api.ErrForm},
		{full + "0 0\n", api.MaxTable + 1, api.ErrLimit}, {full + "0 0", api.MaxTable + 1, api.ErrForm}, {full + "x\n", api.MaxTable + 1, api.ErrForm},
		{long, 2, api.ErrTwice}, {long + "1", 0, api.ErrLimit},
	} {
		expect(t, fmt.Sprintf("Parse of %.20q", x.s), all(tables.Parse(x.s)), all(table(), x.line, x.e))
	}
}

func TestP11_5Consequences(t *testing.T) {
	for _, l := range [][]api.Height{nil, table(5, 10), table(9, 1, 5, math.MaxInt32, 1, api.MaxHeight), many(api.MaxTable, 1)} {
		text, e := tables.Text(l)
		got, line, f := tables.Parse(text)
		again, g := tables.Text(got)
		expect(t, "Parse of Text", all(got, line, e, f, g, again), all(l, 0, 0, 0, 0, text))
		expect(t, "Merge with itself", all(tables.Merge(l, l, 1)), all(l, 0))
		other := table(5, 3, 300, 4)
		merged, e := tables.Merge(l, other, 1)
		if e != api.OK {
			continue
		}
		for key := range uint64(310) {
			want, found := tables.Find(other, key)
			if !found {
				want, found = tables.Find(l, key)
			}
			expect(t, "Find of Merge", all(tables.Find(merged, key)), all(want, found))
		}
	}
}
