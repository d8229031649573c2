package balance

import (
	"slices"

	"venturi/api"
	"venturi/exact"
	"venturi/fit"
)

// Hook is the loads that a weight of 1 on it makes.
type Hook []exact.Num

// Loading is weights on hooks.
type Loading struct {
	Hooks   []int
	Weights []exact.Num
}

// Calibration is readings as polynomials of loads.
type Calibration struct {
	Form  fit.Form
	Coefs [][]exact.Num
}

// areHooks reports whether hooks are valid for a number of components.
func areHooks(components int, hooks []Hook) bool {
	other := func(h Hook) bool { return len(h) != components }
	return len(hooks) <= api.MaxHooks && !slices.ContainsFunc(hooks, other)
}

// valid reports whether a loading is valid for so many hooks.
func (l Loading) valid(hooks int) bool {
	missing := func(hook int) bool { return hook < 0 || hook >= hooks }
	return len(l.Weights) <= api.MaxWeights && len(l.Hooks) == len(l.Weights) && !slices.ContainsFunc(l.Hooks, missing)
}

// Applied returns the loads of a loading; ErrRange unless components is from 1 to MaxInputs, ErrArg if the hooks or the loading are not valid.
func Applied(components int, hooks []Hook, l Loading) ([]exact.Num, api.Errno) {
	if components < 1 || components > api.MaxInputs {
		return nil, api.ErrRange
	}
	if !areHooks(components, hooks) || !l.valid(len(hooks)) {
		return nil, api.ErrArg
	}
	loads := make([]exact.Num, components)
	for w, weight := range l.Weights {
		for i, x := range hooks[l.Hooks[w]] {
			loads[i] = loads[i].Add(weight.Mul(x))
		}
	}
	return loads, api.OK
}

// isLinear reports whether a term is the linear term of some input.
func isLinear(term []int) bool {
	degree := 0
	for _, exponent := range term {
		degree += exponent
	}
	return degree == 1
}

// linear returns the number of the linear term of an input of a valid form; -1 if there is none.
func linear(f fit.Form, input int) int {
	return slices.IndexFunc(f.Terms, func(term []int) bool {
		return isLinear(term) && term[input] == 1
	})
}

// checkForm returns ErrArg if the form of a calibration is not valid, ErrRange unless it has 1 to MaxInputs inputs, ErrLinear if it has not all linear terms.
func checkForm(f fit.Form) api.Errno {
	if e := fit.CheckForm(f); e != api.OK {
		return e
	}
	if f.Inputs < 1 || f.Inputs > api.MaxInputs {
		return api.ErrRange
	}
	for i := range f.Inputs {
		if linear(f, i) < 0 {
			return api.ErrLinear
		}
	}
	return api.OK
}

// checkRig returns the errors of Calibrate but ErrHidden.
func checkRig(f fit.Form, hooks []Hook, loadings []Loading, readings [][]exact.Num) api.Errno {
	if e := checkForm(f); e != api.OK {
		return e
	}
	if !areHooks(f.Inputs, hooks) {
		return api.ErrArg
	}
	if len(loadings) > api.MaxLoadings {
		return api.ErrLong
	}
	if len(readings) != len(loadings) {
		return api.ErrArg
	}
	for i, l := range loadings {
		if !l.valid(len(hooks)) || len(readings[i]) != f.Inputs {
			return api.ErrArg
		}
	}
	return api.OK
}

// Calibrate fits a form to the readings of each component, and returns the fits too. Its errors are those of the form (ErrArg, ErrRange, ErrLinear), ErrArg if the hooks are not valid, ErrLong if there are more than MaxLoadings loadings, ErrArg if one of them or its readings are not valid, and ErrHidden if the loads do not tell the form.
func Calibrate(f fit.Form, hooks []Hook, loadings []Loading, readings [][]exact.Num) (Calibration, []fit.Fit, api.Errno) {
	if e := checkRig(f, hooks, loadings, readings); e != api.OK {
		return Calibration{}, nil, e
	}
	data := make([]fit.Point, len(loadings))
	for i, l := range loadings {
		data[i].X, _ = Applied(f.Inputs, hooks, l)
	}
	fits := make([]fit.Fit, f.Inputs)
	for component := range f.Inputs {
		for i := range data {
			data[i].Y = readings[i][component]
		}
		best, e := fit.Solve(f, data)
		if e != api.OK {
			return Calibration{}, nil, e
		}
		fits[component] = best
	}
	return calibrationOf(f, fits), fits, api.OK
}

// calibrationOf returns the calibration with the coefficients of fits, in memory of its own.
func calibrationOf(f fit.Form, fits []fit.Fit) Calibration {
	c := Calibration{Form: fit.Form{Inputs: f.Inputs}, Coefs: make([][]exact.Num, len(fits))}
	for _, term := range f.Terms {
		c.Form.Terms = append(c.Form.Terms, slices.Clone(term))
	}
	for i, best := range fits {
		for _, coef := range best.Coefs {
			c.Coefs[i] = append(c.Coefs[i], copied(coef))
		}
	}
	return c
}

// CheckCalibration returns ErrArg if a calibration is not valid.
func CheckCalibration(c Calibration) api.Errno {
	other := func(coefs []exact.Num) bool { return len(coefs) != len(c.Form.Terms) }
	return argument(checkForm(c.Form) == api.OK && len(c.Coefs) == c.Form.Inputs && !slices.ContainsFunc(c.Coefs, other))
}

// Read returns the readings for loads; ErrArg if the calibration is not valid, or there is not one load for each component.
func Read(c Calibration, loads []exact.Num) ([]exact.Num, api.Errno) {
	if e := CheckCalibration(c); e != api.OK {
		return nil, e
	}
	readings := make([]exact.Num, len(c.Coefs))
	for i, coefs := range c.Coefs {
		reading, e := fit.Value(c.Form, coefs, loads)
		if e != api.OK {
			return nil, e
		}
		readings[i] = reading
	}
	return readings, api.OK
}
