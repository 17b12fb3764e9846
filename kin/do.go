package kin

// doings has, by kinds, what a word does.
func doings() [kinds]func(*run, word) {
	return [kinds]func(*run, word){
		numberWord:    (*run).layNumber,
		selfWord:      (*run).laySelf,
		argumentWord:  (*run).layArgument,
		slotWord:      (*run).laySlot,
		storeWord:     (*run).storeSlot,
		addWord:       (*run).add,
		subtractWord:  (*run).subtract,
		multiplyWord:  (*run).multiply,
		lessWord:      (*run).less,
		sameWord:      (*run).same,
		popWord:       (*run).pop,
		dupWord:       (*run).dup,
		goWord:        (*run).goOn,
		goIfZeroWord:  (*run).goOnIfZero,
		sendWord:      (*run).sendToTaken,
		sendAboveWord: (*run).sendFromAbove,
		newWord:       (*run).makeObject,
		beWord:        (*run).changeObject,
		dropWord:      (*run).dropMethod,
		moveWord:      (*run).moveClass,
		copyWord:      (*run).copyMethod,
		tellWord:      (*run).tellTop,
	}
}

// A kind that is left out above would be noticed only when such a word is done; so it is noticed at start-up.
func init() {
	for k, do := range doings() {
		if kind(k) != noWord && do == nil {
			panic("kin: a kind of word that does nothing: no row in doings")
		}
	}
}

func (r *run) layNumber(w word) { r.top.lay(Value{N: w.n}) }

func (r *run) laySelf(word) { r.top.lay(r.top.self) }

func (r *run) layArgument(w word) { r.top.lay(r.top.args[w.n]) }

// laySlot finds the slot there: a class has at least the slots of those above it, neither its number of them nor an object's ever changes, and methods were looked over for the class that has them.
func (r *run) laySlot(w word) { r.top.lay(r.objects[r.top.self.N].slots[w.n]) }

func (r *run) storeSlot(w word) { r.objects[r.top.self.N].slots[w.n] = r.top.take() }

func (r *run) add(word) {
	a, b := r.top.takeNumbers()
	r.top.lay(Value{N: a + b})
}

func (r *run) subtract(word) {
	a, b := r.top.takeNumbers()
	r.top.lay(Value{N: a - b})
}

func (r *run) multiply(word) {
	a, b := r.top.takeNumbers()
	r.top.lay(Value{N: a * b})
}

func (r *run) less(word) {
	a, b := r.top.takeNumbers()
	r.top.lay(truth(a < b))
}

func (r *run) same(word) {
	a, b := r.top.take(), r.top.take()
	r.top.lay(truth(a == b))
}

func truth(holds bool) Value {
	if holds {
		return Value{N: 1}
	}
	return Value{}
}

func (r *run) pop(word) { r.top.take() }

func (r *run) dup(word) {
	v := r.top.take()
	r.top.lay(v)
	r.top.lay(v)
}

func (r *run) goOn(w word) { r.top.at = w.n }

func (r *run) goOnIfZero(w word) {
	if r.top.takeNumber() == 0 {
		r.top.at = w.n
	}
}

func (r *run) sendToTaken(w word) {
	args := r.top.takeArguments(w.n)
	to := r.top.take()
	r.send(w.place, question{r.classOf(to), w.selector}, to, args)
}

// sendFromAbove asks for the class above only now: the running method's class may have been moved.
func (r *run) sendFromAbove(w word) {
	args := r.top.takeArguments(w.n)
	r.send(w.place, question{r.top.class.above, w.selector}, r.top.self, args)
}

func (r *run) makeObject(w word) {
	v, e := r.Make(w.class)
	mustBeOK(e)
	r.top.lay(v)
}

func (r *run) changeObject(w word) {
	v := r.top.take()
	if !v.Object {
		panic(gaveUp(Bad))
	}
	mustBeOK(r.Be(v.N, w.class))
	r.top.lay(v)
}

func (r *run) dropMethod(w word) { mustBeOK(r.Drop(w.class, w.selector)) }

func (r *run) moveClass(w word) { mustBeOK(r.Move(w.class, w.second)) }

func (r *run) copyMethod(w word) { mustBeOK(r.Copy(w.class, w.selector, w.second)) }

func (r *run) tellTop(word) { r.tell(r.top.take()) }

// mustBeOK gives up where the call that a word does was refused.
func mustBeOK(e Errno) {
	if e != OK {
		panic(gaveUp(Bad))
	}
}
