package plan

import (
	"cmp"
	"slices"

	"oilcake/api"
)

// standing returns the sales as they stand.
func standing(l []api.Sale) []api.Sale {
	return slices.SortedFunc(slices.Values(l), stand)
}

// stand tells which of two sales stands before the other one.
func stand(x, y api.Sale) int {
	return cmp.Or(cmp.Compare(x.Day, y.Day), cmp.Compare(x.Id, y.Id))
}

// wanted returns what a sale, and all of its sort that stand before it, want together.
func wanted(l []api.Sale, x api.Sale) int {
	lots := 0
	for _, y := range l {
		if y.Sort == x.Sort && stand(y, x) <= 0 {
			lots += y.Lots
		}
	}
	return lots
}

// unsold returns the sales that want something yet, when so many lots of cold oil are sold.
func unsold(l []api.Sale, lots int) []api.Sale {
	open := map[int]api.Sale{}
	for _, x := range l {
		open[x.Id] = x
	}
	for _, x := range standing(l) {
		if x.Sort != api.SortCold {
			continue
		}
		n := min(lots, x.Lots)
		lots -= n
		x.Lots -= n
		open[x.Id] = x
		if x.Lots == 0 {
			delete(open, x.Id)
		}
	}
	var left []api.Sale
	for _, x := range l {
		if y, ok := open[x.Id]; ok {
			left = append(left, y)
		}
	}
	return left
}
