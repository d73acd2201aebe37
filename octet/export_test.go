package octet

import "sync"

// ForgetSteps puts the sum's table back to where nobody has asked for it.
func ForgetSteps() {
	steps, stepsOnce = [16]uint16{}, sync.Once{}
}

// SpoilSteps leaves a wrong table behind that counts as made.
func SpoilSteps() {
	ForgetSteps()
	stepsOnce.Do(func() {})
}
