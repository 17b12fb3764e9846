package kin

// checkNumbers looks for the first word with an argument, a place or a slot that there is not; it answers why, and which word it is.
func checkNumbers(words []word, arguments int, slots int) (Errno, int) {
	for i, w := range words {
		switch {
		case w.kind == argumentWord && w.n >= arguments:
			return ErrArg, i
		case effects[w.kind].jumps && w.n > len(words):
			return ErrArg, i
		case w.namesSlot() && w.n >= slots:
			return ErrSlot, i
		}
	}
	return OK, 0
}

// arrival is a word come to with a stack of some height.
type arrival struct {
	word   int
	height int
}

// walk goes all the ways through a method.
type walk struct {
	words   []word
	heights [maxWords]uint32 // by words: a bit for each height that they are come to with
	failed  [maxWords]bool   // by words: they can't be done with one of those heights
	ahead   []arrival        // those yet to be gone on from
}

// checkStack answers the first word at which the stack is not as it must be, or -1.
func checkStack(words []word) int {
	k := walk{words: words}
	k.arrive(0, 0)
	for len(k.ahead) > 0 {
		last := len(k.ahead) - 1
		next := k.ahead[last]
		k.ahead = k.ahead[:last]
		k.step(next)
	}
	// Only when all ways are gone is it known which word is the first: a way may lead back.
	for i := range words {
		several := k.heights[i]&(k.heights[i]-1) != 0
		if several || k.failed[i] {
			return i
		}
	}
	return -1
}

// arrive notes that a word is come to; each height at each word is gone on from once, so that the walk ends.
func (k *walk) arrive(at int, height int) {
	if at == len(k.words) || k.heights[at]&(1<<height) != 0 {
		return
	}
	k.heights[at] |= 1 << height
	k.ahead = append(k.ahead, arrival{at, height})
}

// step goes on from a word to those that may be next. A way ends at a word that can't be done.
func (k *walk) step(from arrival) {
	w := k.words[from.word]
	height := from.height - w.takes() + effects[w.kind].lays
	if from.height < w.takes() || height > maxStack {
		k.failed[from.word] = true
		return
	}
	if effects[w.kind].jumps {
		k.arrive(w.n, height)
	}
	if !effects[w.kind].stays {
		k.arrive(from.word+1, height)
	}
}
