package setup

import (
	"analemma/api"
	"analemma/floaty"
)

// field is one that is written as an N, and told as a P.
type field[N float64 | int, P int64 | int] struct {
	name      string
	low, high N
	of        func(c Config) N
	put       func(p *Params, told P)
	within    func(n, low, high N) (P, api.Errno)
	// fits is asked only where the field itself is within: it need not look for what is no number.
	fits func(c Config) bool
}

// setting is a field of either kind.
type setting interface {
	called() string
	fault(c Config) api.Errno
	tell(c Config, p *Params)
}

// called tells the field's name.
func (f field[N, P]) called() string {
	return f.name
}

// bounded tells what the field of c is as a P, or why it is not within its bounds.
func (f field[N, P]) bounded(c Config) (P, api.Errno) {
	return f.within(f.of(c), f.low, f.high)
}

// isWithin tells whether the field of c is within its bounds, whatever the others are.
func (f field[N, P]) isWithin(c Config) bool {
	_, fault := f.bounded(c)
	return fault == api.OK
}

// fault tells why the field of c is a fault, or OK.
func (f field[N, P]) fault(c Config) api.Errno {
	if _, fault := f.bounded(c); fault != api.OK {
		return fault
	}
	if !f.fits(c) {
		return api.ErrSetup
	}
	return api.OK
}

// tell puts what the field of c is into p.
func (f field[N, P]) tell(c Config, p *Params) {
	told, _ := f.bounded(c)
	f.put(p, told)
}

// float tells a field that is a floating-point number.
func float(name string, low, high float64, of func(Config) float64, put func(*Params, int64)) field[float64, int64] {
	return field[float64, int64]{name, low, high, of, put, floaty.Within, fitsAny}
}

// whole tells a field that is a whole number.
func whole(name string, low, high int, of func(Config) int, put func(*Params, int)) field[int, int] {
	return field[int, int]{name, low, high, of, put, wholeWithin, fitsAny}
}

// wholeWithin tells n, if it is neither below low nor above high.
func wholeWithin(n, low, high int) (int, api.Errno) {
	if n < low || n > high {
		return 0, api.ErrSetup
	}
	return n, api.OK
}

// fitsAny is what a field answers that hangs on no other one.
func fitsAny(Config) bool {
	return true
}

// fields tells all of them, in the order of their numbers.
func fields() []setting {
	step := float("step", 0.001, 10, func(c Config) float64 { return c.Step }, func(p *Params, n int64) { p.Step = n })
	watch := float("watch", 1, 3600, func(c Config) float64 { return c.Watch }, func(p *Params, n int64) { p.Watch = n })
	panics := float("panic", 1, 100000, func(c Config) float64 { return c.Panic }, func(p *Params, n int64) { p.Panic = n })
	maxRate := float("maxrate", 0.000001, 0.1, func(c Config) float64 { return c.MaxRate }, func(p *Params, n int64) { p.MaxRate = n })
	phi := float("phi", 0, 0.01, func(c Config) float64 { return c.Phi }, func(p *Params, n int64) { p.Phi = n })
	maxDist := float("maxdist", 0.01, 16, func(c Config) float64 { return c.MaxDist }, func(p *Params, n int64) { p.MaxDist = n })
	gate := float("gate", 1, 100, func(c Config) float64 { return c.Gate }, func(p *Params, n int64) { p.Gate = n })
	minPoll := whole("minpoll", 4, 17, func(c Config) int { return c.MinPoll }, func(p *Params, n int) { p.MinPoll = n })
	maxPoll := whole("maxpoll", 4, 17, func(c Config) int { return c.MaxPoll }, func(p *Params, n int) { p.MaxPoll = n })
	burst := whole("burst", 0, 8, func(c Config) int { return c.Burst }, func(p *Params, n int) { p.Burst = n })
	minSane := whole("minsane", 1, 10, func(c Config) int { return c.MinSane }, func(p *Params, n int) { p.MinSane = n })
	minLeft := whole("minleft", 1, 10, func(c Config) int { return c.MinLeft }, func(p *Params, n int) { p.MinLeft = n })
	// Where the other field is a fault itself, that one alone is to be mended: nothing is held against it.
	panics.fits = func(c Config) bool { return !step.isWithin(c) || c.Panic > c.Step }
	maxPoll.fits = func(c Config) bool { return !minPoll.isWithin(c) || c.MaxPoll >= c.MinPoll }
	return []setting{step, watch, panics, maxRate, phi, maxDist, gate, minPoll, maxPoll, burst, minSane, minLeft}
}
