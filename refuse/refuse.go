// Package refuse lets calls give up in the middle of what they do, and tell at their face why.
package refuse

import "castellan/api"

// refusal is what a panic carries out of what may not be.
type refusal struct{ why api.Errno }

// Must gives up, where something was refused.
func Must(e api.Errno) {
	if e != api.OK {
		panic(refusal{e})
	}
}

// Need gives up as is said, where something is not so.
func Need(ok bool, why api.Errno) {
	if !ok {
		panic(refusal{why})
	}
}

// Face does something, and tells what it was given up for; another panic is none of its own, and goes on.
func Face[T any](do func() T) (x T, e api.Errno) {
	defer func() {
		if r := recover(); r != nil {
			given, ok := r.(refusal)
			if !ok {
				panic(r)
			}
			e = given.why
		}
	}()
	return do(), api.OK
}
