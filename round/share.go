package round

import "oilcake/api"

// share returns how many turnings a day the ricks of a valid watch take at least, together.
func share(w api.Watch) api.Part {
	p := api.Part{Den: 1}
	for _, x := range w.Ricks {
		p = lowest(api.Part{Num: p.Num*x.Every + p.Den, Den: p.Den * x.Every})
	}
	return p
}

// lowest returns a fraction in lowest terms.
func lowest(p api.Part) api.Part {
	a, b := p.Num, p.Den
	for b > 0 {
		a, b = b, a%b
	}
	return api.Part{Num: p.Num / a, Den: p.Den / a}
}
