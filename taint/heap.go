package taint

// item is a thing that is reached by so many steps.
type item struct{ steps, group, at int }

// heap holds items; the one with the fewest steps is taken first.
type heap []item

func (h *heap) push(x item) {
	l := append(*h, x)
	i := len(l) - 1
	for i > 0 && l[(i-1)/2].steps > l[i].steps {
		l[i], l[(i-1)/2] = l[(i-1)/2], l[i]
		i = (i - 1) / 2
	}
	*h = l
}

func (h *heap) pop() item {
	l := *h
	first, last := l[0], len(l)-1
	l[0] = l[last]
	l = l[:last]
	for i := 0; ; {
		least := i
		for k := 2*i + 1; k <= 2*i+2 && k < last; k++ {
			if l[k].steps < l[least].steps {
				least = k
			}
		}
		if least == i {
			break
		}
		l[i], l[least] = l[least], l[i]
		i = least
	}
	*h = l
	return first
}
