package meaning

// ordered returns a list in order; elements of which none comes before the other one stay as they are.
func ordered[T any](l []T, before func(a, b T) bool) []T {
	if len(l) < 2 {
		return l
	}
	half := len(l) / 2
	return merged(ordered(l[:half], before), ordered(l[half:], before), before)
}

// merged returns two lists in order as one; where neither element comes before the other one, that of a is first.
func merged[T any](a, b []T, before func(a, b T) bool) []T {
	l := make([]T, 0, len(a)+len(b))
	for len(a) > 0 && len(b) > 0 {
		if before(b[0], a[0]) {
			l, b = append(l, b[0]), b[1:]
		} else {
			l, a = append(l, a[0]), a[1:]
		}
	}
	return append(append(l, a...), b...)
}
