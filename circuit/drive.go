package circuit

import (
	"slices"

	"venturi/api"
	"venturi/exact"
)

// Drive is what a fan's drive can do.
type Drive struct {
	Levels     []int // speeds that it can hold
	Up, Down   int   // by how much the speed can change in a step
	Bands      [][2]int
	Flow       exact.Box // the operating point at the fan's Speed
	Efficiency exact.Num
	Power      exact.Num // the limit
}

// Cooler is what takes the heat away.
type Cooler struct {
	Capacity, Rate, Cold exact.Num
	Hot                  exact.Num // the limit
}

// Plant is a ring with its fan, drive and cooler.
type Plant struct {
	Ring   Ring
	Fan    Fan
	Drive  Drive
	Cooler Cooler
}

// State is the speed and the temperature of a plant.
type State struct {
	Speed int
	Heat  exact.Box // the temperature
}

// CheckPlant returns ErrArg if a plant is not valid.
func CheckPlant(p Plant) api.Errno {
	if e := checkBoth(p.Ring, p.Fan); e != api.OK {
		return e
	}
	return argument(p.Drive.valid() && p.Cooler.valid())
}

// isSpeed reports whether a fan can have the speed, or the speed can be changed by so much.
func isSpeed(n int) bool {
	return 0 <= n && n <= api.MaxRevs
}

func (d Drive) valid() bool {
	ascending := func(a, b int) bool { return a < b }
	wrong := func(n int) bool { return !isSpeed(n) }
	empty := func(b [2]int) bool { return b[0] < 0 || b[0] >= b[1] || b[1] > api.MaxRevs }
	return 1 <= len(d.Levels) && len(d.Levels) <= api.MaxHeld && len(d.Bands) <= api.MaxBands &&
		chained(d.Levels, ascending) && !slices.ContainsFunc(d.Levels, wrong) &&
		isSpeed(d.Up) && isSpeed(d.Down) && !slices.ContainsFunc(d.Bands, empty) &&
		d.Flow.Lo().Sign() >= 0 && d.Power.Sign() >= 0 &&
		d.Efficiency.Sign() > 0 && d.Efficiency.Cmp(exact.Whole(1)) <= 0
}

func (c Cooler) valid() bool {
	return c.Capacity.Sign() > 0 && c.Rate.Sign() >= 0 && c.Rate.Cmp(c.Capacity) <= 0
}

// power returns the power of a valid plant at a speed from 0 to MaxRevs.
func power(p Plant, speed int) exact.Box {
	ratio := p.Fan.ratio(speed)
	flow := p.Drive.Flow.Mul(exact.Point(ratio))
	cube, _ := flow.Pow(3)
	return cube.Mul(exact.Point(over(resistance(p.Ring), p.Drive.Efficiency)))
}

// level is a speed that the drive can hold, with what does not depend on the state before a step to it.
type level struct {
	speed    int
	banned   bool      // in a band
	overload bool      // the power may be above the limit
	gain     exact.Box // what the step adds to what it leaves of the temperature
}

// stepper knows what the steps of a valid plant do.
type stepper struct {
	levels   []level
	up, down int
	keep     exact.Num // times a temperature: what a step leaves of it
	hot      exact.Num
}

// stepperOf returns the stepper of a plant; ErrArg if it is not valid.
func stepperOf(p Plant) (stepper, api.Errno) {
	if e := CheckPlant(p); e != api.OK {
		return stepper{}, e
	}
	c := p.Cooler
	cold := exact.Point(over(c.Rate.Mul(c.Cold), c.Capacity))
	share := exact.Point(over(exact.Whole(1), c.Capacity))
	levels := make([]level, len(p.Drive.Levels))
	for i, speed := range p.Drive.Levels {
		need := power(p, speed)
		levels[i] = level{
			speed:    speed,
			banned:   slices.ContainsFunc(p.Drive.Bands, func(b [2]int) bool { return b[0] < speed && speed < b[1] }),
			overload: need.Hi().Cmp(p.Drive.Power) > 0,
			gain:     need.Mul(share).Add(cold),
		}
	}
	keep := exact.Whole(1).Sub(over(c.Rate, c.Capacity))
	return stepper{levels, p.Drive.Up, p.Drive.Down, keep, c.Hot}, api.OK
}

// place is what decides whether steps are refused: a speed, and the Hi of the heat.
type place struct {
	speed int
	hi    exact.Num
}

// place returns the place of a state.
func (s State) place() place {
	return place{s.Speed, s.Heat.Hi()}
}

// can reports whether the drive can go from a speed to a level. The speed can be any integer, so that nothing is added to it.
func (p stepper) can(before int, to level) bool {
	return to.speed-p.up <= before && before <= to.speed+p.down && !to.banned
}

// end returns what an end of the heat becomes in a step with that end of the gain. Since no step leaves less than nothing of a temperature, a lower end becomes a lower one, and an upper end an upper one.
func (p stepper) end(heat, gain exact.Num) exact.Num {
	return heat.Mul(p.keep).Add(gain)
}

// next returns the place after a step to a level, or ErrDrive, ErrPower or ErrHot if it is refused.
func (p stepper) next(from place, to level) (place, api.Errno) {
	if !p.can(from.speed, to) {
		return place{}, api.ErrDrive
	}
	if to.overload {
		return place{}, api.ErrPower
	}
	hi := p.end(from.hi, to.gain.Hi())
	if hi.Cmp(p.hot) > 0 {
		return place{}, api.ErrHot
	}
	return place{to.speed, hi}, api.OK
}

// index returns which level a speed is, or -1 if it is none of them.
func (p stepper) index(speed int) int {
	return slices.IndexFunc(p.levels, func(l level) bool { return l.speed == speed })
}

// step is Step for the stepper's plant.
func (p stepper) step(s State, speed int) (State, api.Errno) {
	i := p.index(speed)
	if i < 0 {
		return State{}, api.ErrDrive
	}
	to := p.levels[i]
	after, e := p.next(s.place(), to)
	if e != api.OK {
		return State{}, e
	}
	heat, _ := exact.Span(p.end(s.Heat.Lo(), to.gain.Lo()), after.hi)
	return State{speed, heat}, api.OK
}

// Power returns the power at a speed; ErrArg if the plant is not valid, ErrRange unless the speed is from 0 to MaxRevs.
func Power(p Plant, speed int) (exact.Box, api.Errno) {
	if e := CheckPlant(p); e != api.OK {
		return exact.Box{}, e
	}
	if !isSpeed(speed) {
		return exact.Box{}, api.ErrRange
	}
	return power(p, speed), api.OK
}

// Step returns the state after a step to a speed; ErrArg if the plant is not valid, or ErrDrive, ErrPower or ErrHot if the step is refused.
func Step(p Plant, s State, speed int) (State, api.Errno) {
	plant, e := stepperOf(p)
	if e != api.OK {
		return State{}, e
	}
	return plant.step(s, speed)
}

// Run makes one step after another, as far as they are not refused, and returns the states after them and their number; ErrArg if the plant is not valid, ErrLong if there are more than MaxRun speeds, or the error of the step that is refused.
func Run(p Plant, s State, speeds []int) (l []State, at int, e api.Errno) {
	plant, e := stepperOf(p)
	if e != api.OK {
		return nil, 0, e
	}
	if len(speeds) > api.MaxRun {
		return nil, 0, api.ErrLong
	}
	for _, speed := range speeds {
		if s, e = plant.step(s, speed); e != api.OK {
			break
		}
		l = append(l, s)
	}
	return l, len(l), e
}
