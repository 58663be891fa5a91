package tank

import "oilcake/api"

// full returns what a full tank holds, height how high it stands then, in eighths; of a tank with a table.
func full(t api.Tank) int { return t.Pints[len(t.Pints)-1] }

func height(t api.Tank) int { return api.Eighths * (len(t.Pints) - 1) }

// volume returns what a tank holds at an eighth, in eighths of a pint, of which there are whole ones at every eighth.
func volume(t api.Tank, eighth int) int {
	inch, more := eighth/api.Eighths, eighth%api.Eighths
	pints := api.Eighths * t.Pints[inch]
	if more > 0 {
		pints += more * (t.Pints[inch+1] - t.Pints[inch])
	}
	return pints
}

// up and down return whole pints of eighths of a pint, rounded.
func up(n int) int { return (n + api.Eighths - 1) / api.Eighths }

func down(n int) int { return n / api.Eighths }

// eighth returns at which eighth a tank holds some pints that it has room for.
func eighth(t api.Tank, pints int) api.Part {
	inch := 0
	for t.Pints[inch+1] < pints {
		inch++
	}
	below, wide := t.Pints[inch], t.Pints[inch+1]-t.Pints[inch]
	return part(api.Eighths*(inch*wide+pints-below), wide)
}

// says returns the pints that a dip says; if it says none, it is no span.
func says(t api.Tank, dip api.Span) api.Span {
	return api.Span{Lo: up(volume(t, dip.Lo)), Hi: down(volume(t, dip.Hi))}
}

// part returns a fraction in lowest terms, den above 0.
func part(num, den int) api.Part {
	d := divisor(num, den)
	return api.Part{Num: num / d, Den: den / d}
}

// divisor returns the greatest number that divides both, the second one above 0.
func divisor(a, b int) int {
	for a != 0 {
		a, b = b%a, a
	}
	return b
}
