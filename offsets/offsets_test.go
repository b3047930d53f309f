package offsets_test

import (
	"fmt"
	"math"
	"math/big"
	"slices"
	"testing"

	"paternoster/api"
	"paternoster/offsets"
)

const (
	least = math.MinInt64
	most  = math.MaxInt64
)

// expect fails unless two values are written alike.
func expect(t *testing.T, what string, got, want any) {
	t.Helper()
	if g, w := fmt.Sprint(got), fmt.Sprint(want); g != w {
		t.Errorf("%s: %s, expected %s", what, g, w)
	}
}

func all(l ...any) []any { return l }

func numbers() []int64 {
	return []int64{least, least + 1, -1 << 62, -100, -3, -1, 0, 1, 2, 29, 30, 31, 50, 100, api.MaxTotal - 1, api.MaxTotal, api.MaxTotal + 1, most - 1, most}
}

func TestP10_1Plus(t *testing.T) {
	for _, a := range numbers() {
		for _, b := range numbers() {
			sum := new(big.Int).Add(big.NewInt(a), big.NewInt(b))
			want := sum.Int64()
			if !sum.IsInt64() {
				want = most
				if sum.Sign() < 0 {
					want = least
				}
			}
			expect(t, fmt.Sprint("Plus ", a, b), offsets.Plus(a, b), want)
		}
	}
}

func TestP10_2ClampShift(t *testing.T) {
	for _, x := range numbers() {
		for _, y := range [][2]int64{{0, 1}, {100, 30}, {20, 30}, {30, 30}, {api.MaxTotal, 1}, {api.MaxTotal, api.MaxView}} {
			end := max(0, y[1-1]-y[1])
			want := min(max(x, 0), end)
			expect(t, fmt.Sprint("Clamp ", x, y), all(offsets.Clamp(x, y[0], y[1])), all(want, 0))
			for _, by := range numbers() {
				sum := new(big.Int).Add(big.NewInt(x), big.NewInt(by))
				want := sum.Int64()
				if sum.Cmp(big.NewInt(end)) > 0 {
					want = end
				} else if sum.Sign() < 0 {
					want = 0
				}
				expect(t, fmt.Sprint("Shift ", x, by, y), all(offsets.Shift(x, by, y[0], y[1])), all(want, 0))
			}
		}
	}
	for _, y := range [][2]int64{{-1, 1}, {api.MaxTotal + 1, 1}, {5, 0}, {5, -1}, {5, api.MaxView + 1}, {least, least}, {most, most}} {
		expect(t, "Clamp", all(offsets.Clamp(1, y[0], y[1])), all(0, api.ErrArg))
		expect(t, "Shift", all(offsets.Shift(1, 1, y[0], y[1])), all(0, api.ErrArg))
	}
}

func TestP10_3Ceil(t *testing.T) {
	for _, x := range [][3]int64{{7, 3, 3}, {6, 3, 2}, {0, 3, 0}, {1, most, 1}, {most, 1, most}, {most, 2, 1 << 62}, {most, most, 1}} {
		expect(t, "Ceil", all(offsets.Ceil(x[0], x[1])), all(x[2], 0))
	}
	for _, x := range [][2]int64{{-1, 1}, {1, 0}, {1, -1}, {least, least}} {
		expect(t, "Ceil", all(offsets.Ceil(x[0], x[1])), all(0, api.ErrArg))
	}
}

func TestP10_4Bound(t *testing.T) {
	for _, x := range []struct {
		view, least int64
		over        int
		want        int64
		e           api.Errno
	}{
		{100, 30, 2, 10, 0}, {1, 1, 0, 3, 0}, {api.MaxView, 1, api.MaxOver, api.MaxView + 34, 0}, {5, api.MaxHeight, 0, 3, 0},
		{0, 1, 0, 0, api.ErrArg}, {api.MaxView + 1, 1, 0, 0, api.ErrArg}, {1, 0, 0, 0, api.ErrArg},
		{1, api.MaxHeight + 1, 0, 0, api.ErrArg}, {1, 1, -1, 0, api.ErrArg}, {1, 1, api.MaxOver + 1, 0, api.ErrArg},
	} {
		expect(t, "Bound", all(offsets.Bound(x.view, x.least, x.over)), all(x.want, x.e))
	}
}

func TestP10_5Tops(t *testing.T) {
	const h = api.MaxHeight
	for _, x := range []struct {
		sizes, want []int64
		e           api.Errno
	}{
		{nil, []int64{0}, 0}, {[]int64{3, 0, 5}, []int64{0, 3, 3, 8}, 0}, {[]int64{h, h}, []int64{0, h, 2 * h}, 0},
		{[]int64{-1}, nil, api.ErrHeight}, {[]int64{h + 1}, nil, api.ErrHeight}, {[]int64{h, h, 1}, nil, api.ErrOverflow},
		{[]int64{h, h, 1, -1}, nil, api.ErrOverflow}, {[]int64{h, h, -1, 1}, nil, api.ErrHeight},
		{make([]int64, api.MaxList+1), nil, api.ErrLimit}, {make([]int64, api.MaxList), make([]int64, api.MaxList+1), 0},
	} {
		got, e := offsets.Tops(x.sizes)
		expect(t, "Tops", all(got, e), all(x.want, x.e))
		if cap(got) != len(got) {
			t.Error("spare capacity")
		}
		if e != api.OK {
			expect(t, "Rows", all(offsets.Rows(x.sizes)), all([]complex128{}, x.e))
		}
	}
}

func TestP10_6RowsSlide(t *testing.T) {
	rows, e := offsets.Rows([]int64{3, 0, 5})
	expect(t, "Rows", all(rows, e), all([]complex128{complex(0, 3), complex(3, 0), complex(3, 5)}, 0))
	expect(t, "Slide", all(offsets.Slide(rows, 4)), all([]complex128{complex(4, 3), complex(7, 0), complex(7, 5)}, 0))
	expect(t, "the argument", rows, []complex128{complex(0, 3), complex(3, 0), complex(3, 5)})
	expect(t, "Rows", all(offsets.Rows([]int64{offsets.MaxExact - 1, 1})), all([]complex128{}, api.ErrOverflow))
	expect(t, "Rows", all(offsets.Rows([]int64{offsets.MaxExact - 1, 0})), all([]complex128{complex(0, offsets.MaxExact-1), complex(offsets.MaxExact-1, 0)}, 0))
	expect(t, "Rows", all(offsets.Rows(nil)), all([]complex128{}, 0))
	bad := []complex128{complex(-1, 0), complex(0, -1), complex(0.5, 0), complex(0, 0.5), complex(math.NaN(), 0), complex(0, math.NaN()),
		complex(math.Inf(1), 0), complex(0, math.Inf(-1)), complex(offsets.MaxExact, 0), complex(0, offsets.MaxExact)}
	for _, row := range bad {
		expect(t, "Slide", all(offsets.Slide([]complex128{5, row}, -9)), all([]complex128{}, api.ErrRange))
		expect(t, "Meets", offsets.Meets(row, 0, api.MaxView), false)
	}
	for _, by := range []int64{-4, least, most, offsets.MaxExact - 3} {
		expect(t, "Slide", all(offsets.Slide([]complex128{3, 9}, by)), all([]complex128{}, api.ErrOverflow))
	}
	expect(t, "Slide", all(offsets.Slide([]complex128{3}, offsets.MaxExact-4)), all([]complex128{offsets.MaxExact - 1}, 0))
	expect(t, "Slide", all(offsets.Slide(nil, least)), all([]complex128{}, 0))
	many, e := offsets.Slide(make([]complex128, api.MaxList), 1)
	expect(t, "Slide of as many rows as there may be", all(len(many), e, offsets.MaxExact), all(api.MaxList, 0, 9007199254740992))
	expect(t, "Slide", all(offsets.Slide(make([]complex128, api.MaxList+1), -1)), all([]complex128{}, api.ErrLimit))
}

func TestP10_7Meets(t *testing.T) {
	row := complex(3, 5)
	for _, x := range []struct {
		s, v int64
		want bool
	}{
		{8, 1, false}, {7, 1, true}, {2, 1, false}, {2, 2, true}, {0, 3, false}, {0, 4, true}, {3, 1, true},
		{-1, 9, false}, {0, 0, false}, {4, -1, false}, {0, api.MaxView, true}, {0, api.MaxView + 1, false},
		{api.MaxTotal, api.MaxView, false}, {api.MaxTotal + 1, 1, false}, {least, most, false},
	} {
		expect(t, fmt.Sprint("Meets ", x.s, x.v), offsets.Meets(row, x.s, x.v), x.want)
	}
	expect(t, "a row without a size", offsets.Meets(complex(3, 0), 3, 1), false)
	expect(t, "a row without a size", offsets.Meets(complex(3, 0), 2, 5), true)
}

func TestP10_8Consequences(t *testing.T) {
	sizes := []int64{7, 3, 3, 9, 4, 3, 3, 3, 12, 3, 5}
	rows, _ := offsets.Rows(sizes)
	for v := int64(1); v < 30; v++ {
		few, _ := offsets.Ceil(v, 3)
		for s := range int64(60) {
			n := int64(0)
			for _, row := range rows {
				if offsets.Meets(row, s, v) {
					n++
				}
			}
			if n > few+1 {
				t.Errorf("%d rows meet at %d, %d", n, s, v)
			}
			x, _ := offsets.Clamp(s, 55, v)
			expect(t, "Clamp twice", all(offsets.Clamp(x, 55, v)), all(x, 0))
		}
	}
	there, _ := offsets.Slide(rows, 1000)
	back, _ := offsets.Slide(there, -1000)
	if !slices.Equal(back, rows) {
		t.Error(back)
	}
	for _, a := range numbers() {
		for _, b := range numbers() {
			expect(t, "Plus", offsets.Plus(a, b), offsets.Plus(b, a))
		}
	}
}
