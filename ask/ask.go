// Package ask holds questions that several layers ask.
package ask

// All: is it so of all of them? It is so of none.
func All[T any](list []T, so func(T) bool) bool {
	for _, one := range list {
		if !so(one) {
			return false
		}
	}
	return true
}

// UpTo: is n from 0 to most?
func UpTo(n int, most int) bool {
	return n >= 0 && n <= most
}
