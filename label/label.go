// Package label: see DOC.md, chapter 1.
package label

import (
	"veil/api"
)

// May: chapter 1.
func May(l int) bool {
	return l >= 0 && l < api.Levels
}

// Join: chapter 1. A label's bits are its categories, so those of both are the bits of either.
func Join(a int, b int) (int, api.Errno) {
	if !May(a) || !May(b) {
		return 0, api.ErrLabelForm
	}
	return a | b, api.OK
}

// Below: chapter 1. Two labels of one category each are not below one another: this is no order of numbers.
func Below(a int, b int) (bool, api.Errno) {
	if !May(a) || !May(b) {
		return false, api.ErrLabelForm
	}
	return a&^b == 0, api.OK
}
