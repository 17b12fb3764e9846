package kin

// class is a class of an image.
type class struct {
	name    string
	above   *class // nil above Any alone
	slots   int    // of its objects: those of the class above, and its own
	methods map[string]*method
}

// method is never changed once it is made: classes that it was copied to share it.
type method struct {
	words []word
}

// object has as many slots as it was made with, whatever its class becomes.
type object struct {
	class *class
	slots []Value
}

func newClass(name string, above *class, slots int) *class {
	return &class{name: name, above: above, slots: slots, methods: map[string]*method{}}
}

// isOrIsBelow tells whether the way up from c comes to other.
func (c *class) isOrIsBelow(other *class) bool {
	for ; c != nil; c = c.above {
		if c == other {
			return true
		}
	}
	return false
}

// slots tells how many slots an object must have so that every slot that the method names is there.
func (f *method) slots() int {
	most := 0
	for _, w := range f.words {
		if w.namesSlot() {
			most = max(most, w.n+1)
		}
	}
	return most
}

// classOfObjects finds a class by its name, but none of which there are no objects: whole numbers are Int's.
func (m *Image) classOfObjects(name string) *class {
	if name == intName {
		return nil
	}
	return m.classes[name]
}

// has tells whether there is an object of that number.
func (m *Image) has(object int) bool {
	return object >= 0 && object < len(m.objects)
}
