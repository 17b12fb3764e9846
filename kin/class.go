package kin

// class is a class of an image.
type class struct {
	name    string
	number  int    // in the order in which they were made
	above   *class // nil above Any alone
	slots   int    // of its objects: those of the class above, and its own
	methods map[string]*method
}

// method has words that are never changed once it is made: classes that it was copied to share it.
type method struct {
	words []word
	homes int // how many classes have it
}

// object has as many slots as it was made with, whatever its class becomes.
type object struct {
	class *class
	slots []Value
}

func (m *Image) addClass(name string, above *class, slots int) {
	m.classes[name] = &class{name: name, number: len(m.classes), above: above, slots: slots, methods: map[string]*method{}}
}

// newMethod makes a method of words, each that sends a place with a memory of its own.
func newMethod(words []word) *method {
	for i, w := range words {
		if effects[w.kind].sends {
			words[i].place = newPlace()
		}
	}
	return &method{words: words}
}

// isOrIsBelow tells whether the way up from c comes to other.
func (c *class) isOrIsBelow(other *class) bool {
	for ; c != nil; c = c.above {
		if c == other {
			return true
		}
	}
	return false
}

// slots tells how many slots an object must have so that every slot that the method names is there.
func (f *method) slots() int {
	most := 0
	for _, w := range f.words {
		if w.namesSlot() {
			most = max(most, w.n+1)
		}
	}
	return most
}

// classOfObjects finds a class by its name, but none of which there are no objects: whole numbers are Int's.
func (m *Image) classOfObjects(name string) *class {
	if name == intName {
		return nil
	}
	return m.classes[name]
}

// has tells whether there is an object of that number.
func (m *Image) has(object int) bool {
	return object >= 0 && object < len(m.objects)
}

// lacks tells whether a value is an object that there is not.
func (m *Image) lacks(v Value) bool {
	return v.Object && !m.has(v.N)
}

func (m *Image) classOf(v Value) *class {
	if v.Object {
		return m.objects[v.N].class
	}
	return m.classes[intName]
}
