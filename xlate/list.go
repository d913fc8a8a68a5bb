package xlate

// fold goes through a list from the first element to the last, and hands on what it has made so far.
func fold[T, R any](list []T, made R, step func(made R, v T) R) R {
	for _, v := range list {
		made = step(made, v)
	}
	return made
}

// while goes through a list as long as step answers true, and tells whether it always did.
func while[T any](list []T, step func(v T) bool) bool {
	for _, v := range list {
		if !step(v) {
			return false
		}
	}
	return true
}

// split cuts a list, which has no fewer than n elements, behind its first n.
func split[T any](list []T, n int) ([]T, []T) {
	return list[:n], list[n:]
}

// lead is how many elements a list begins with that are like its first one.
func lead[T any](list []T, alike func(a, b T) bool) int {
	n := 0
	for n < len(list) && alike(list[0], list[n]) {
		n++
	}
	return n
}
