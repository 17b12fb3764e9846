package kin

// unknown is what a send looks for that found no method; its one argument is how many were sent.
const unknown = "dnu/1"

// gaveUp is what a method that fails inside panics with: how the sending from outside ends.
type gaveUp int

// frame is a method that runs. It holds on to its words, so that it runs on when its class has it no more.
type frame struct {
	*method
	class  *class // in which the method was found
	self   Value
	args   [maxArgs]Value
	at     int // the word that is next
	stack  [maxStack]Value
	height int
	sender *frame // nil, if outside sent
}

// run is a sending from outside, as long as it goes on. It is over an image, so that words change classes by the image's own calls.
type run struct {
	*Image
	does  [kinds]func(*run, word)
	top   *frame // the method that runs, inside those that wait for it
	depth int    // how many they are
	fuel  int    // how many words may yet be done
	told  Value  // to outside
}

// sendFromOutside runs a send and all that it sends; it answers what was told and how it ended.
func (m *Image) sendFromOutside(to Value, selector string, args []Value, fuel int) (told Value, end int) {
	defer func() {
		switch why := recover().(type) {
		case nil:
		case gaveUp:
			end = int(why)
		default:
			panic(why) // a fault of the program's own must not pass for an end
		}
	}()
	r := &run{Image: m, does: doings(), fuel: fuel}
	r.send(nowhere(), question{r.classOf(to), selector}, to, args)
	r.runFrames()
	return r.told, Told
}

// runFrames does words until the method that outside sent for has told.
func (r *run) runFrames() {
frames:
	for r.top != nil {
		f := r.top
		for f.at < len(f.words) {
			r.burn()
			w := f.words[f.at]
			f.at++
			r.does[w.kind](r, w)
			if r.top != f {
				continue frames // it has sent, or told
			}
		}
		r.tell(f.self)
	}
}

// burn counts a word that is to be done.
func (r *run) burn() {
	if r.fuel == 0 {
		panic(gaveUp(Spent))
	}
	r.fuel--
}

// send finds the method that a place asks for and lets it be the one that runs.
func (r *run) send(at *place, q question, to Value, args []Value) {
	found := r.find(at, q)
	if found.method == nil {
		found = r.find(nowhere(), question{q.from, unknown})
		args = []Value{{N: len(args)}}
	}
	if found.method == nil {
		panic(gaveUp(Lost))
	}
	if r.depth == maxDepth {
		panic(gaveUp(Deep))
	}
	r.depth++
	next := &frame{method: found.method, class: found.home, self: to, sender: r.top}
	copy(next.args[:], args)
	r.top = next
}

// tell ends the method that runs.
func (r *run) tell(v Value) {
	r.top = r.top.sender
	r.depth--
	if r.top == nil {
		r.told = v
		return
	}
	r.top.lay(v)
}

// lay lays a value on the stack; there is room, as the words were looked over.
func (f *frame) lay(v Value) {
	f.stack[f.height] = v
	f.height++
}

// take takes the top of the stack; there is one, as the words were looked over.
func (f *frame) take() Value {
	f.height--
	return f.stack[f.height]
}

// takeNumber takes the top, which must be a whole number.
func (f *frame) takeNumber() int {
	v := f.take()
	if v.Object {
		panic(gaveUp(Bad))
	}
	return v.N
}

// takeNumbers takes two whole numbers; the second one was on top.
func (f *frame) takeNumbers() (first, second int) {
	second = f.takeNumber()
	first = f.takeNumber()
	return first, second
}

// takeArguments takes n values, the last one from the top. They are the stack's own: what is laid next overwrites them.
func (f *frame) takeArguments(n int) []Value {
	f.height -= n
	return f.stack[f.height : f.height+n]
}
