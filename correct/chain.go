package correct

import (
	"slices"

	"venturi/api"
	"venturi/exact"
)

// Condition says that the value of a formula is from Lo to Hi.
type Condition struct {
	Formula Formula
	Lo, Hi  exact.Num
}

// Step computes a new value where its conditions hold.
type Step struct {
	Name    string
	Formula Formula
	Domain  []Condition
}

// isValid reports whether a step is valid if the values with some names are known.
func (s Step) isValid(names map[string]string) bool {
	isNew := isName(s.Name) && missing([]string{s.Name}, names)
	wrong := func(c Condition) bool {
		return missing(c.Formula.Names(), names) || c.Lo.Cmp(c.Hi) > 0
	}
	return isNew && !missing(s.Formula.Names(), names) && len(s.Domain) <= api.MaxDomain && !slices.ContainsFunc(s.Domain, wrong)
}

// CheckChain returns ErrArg if inputs are not at most MaxNamed different names, or if a chain is not valid for them.
func CheckChain(inputs []string, chain []Step) api.Errno {
	names, ok := byName(inputs, api.MaxNamed, func(name string) string { return name })
	if !ok || len(chain) > api.MaxSteps {
		return api.ErrArg
	}
	for _, s := range chain {
		if !s.isValid(names) {
			return api.ErrArg
		}
		names[s.Name] = s.Name
	}
	return api.OK
}

// carry computes a step; ErrDomain if a condition does not surely hold.
func (k known) carry(s Step) (exact.Box, api.Errno) {
	for _, c := range s.Domain {
		box, e := k.eval(c.Formula)
		if e != api.OK {
			return exact.Box{}, e
		}
		if domain, _ := exact.Span(c.Lo, c.Hi); !box.Inside(domain) {
			return exact.Box{}, api.ErrDomain
		}
	}
	return k.eval(s.Formula)
}

// Run carries out a chain whose inputs are the values of an environment, and returns the values of all steps; ErrArg if the environment is not valid, or the chain is not valid for its names; then, step by step, the errors of Eval of the conditions and the formula, and ErrDomain if a condition does not surely hold. With ErrDomain, at is the number of the step.
func Run(chain []Step, e Env) (results []Named, at int, err api.Errno) {
	k, err := e.known()
	if err != api.OK {
		return nil, 0, err
	}
	var inputs []string
	for _, v := range e.Values {
		inputs = append(inputs, v.Name)
	}
	if err := CheckChain(inputs, chain); err != api.OK {
		return nil, 0, err
	}
	for i, s := range chain {
		box, err := k.carry(s)
		if err == api.ErrDomain {
			return nil, i, err
		}
		if err != api.OK {
			return nil, 0, err
		}
		k.values[s.Name] = Named{s.Name, box}
		results = append(results, k.values[s.Name])
	}
	return results, 0, api.OK
}
