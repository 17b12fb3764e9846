package kin

import "slices"

// memory is what a place that sends remembers of its selector, class by class. What changes it answers the memory that stands in its stead from then on: itself, or the next kind.
type memory interface {
	// recall answers what was found, if that is remembered.
	recall(q question) (found finding, known bool)
	// learn takes a row in, of a class that it has not; it may have rows of so many classes at most.
	learn(r row, most int) memory
	// forget takes rows out.
	forget(leans func(row) bool) memory
}

// emptyMemory is that of a place that has not sent yet.
type emptyMemory struct{}

func (emptyMemory) recall(question) (finding, bool) { return finding{}, false }

func (emptyMemory) learn(r row, most int) memory {
	if most == 0 {
		return tableOnly{}
	}
	return oneClass{r}
}

func (e emptyMemory) forget(func(row) bool) memory { return e }

// oneClass is that of a place that has met one class.
type oneClass struct {
	row
}

func (o oneClass) recall(q question) (finding, bool) {
	return o.finding, o.question == q
}

func (o oneClass) learn(r row, most int) memory {
	if most == 1 {
		return tableOnly{}
	}
	return severalClasses{[]row{o.row, r}}
}

func (o oneClass) forget(leans func(row) bool) memory {
	if leans(o.row) {
		return emptyMemory{}
	}
	return o
}

// severalClasses is that of a place that has met more. It stays of this kind when rows are taken out: such a place will meet their classes again.
type severalClasses struct {
	rows []row
}

func (s severalClasses) recall(q question) (finding, bool) {
	for _, r := range s.rows {
		if r.question == q {
			return r.finding, true
		}
	}
	return finding{}, false
}

func (s severalClasses) learn(r row, most int) memory {
	if len(s.rows) == most {
		return tableOnly{}
	}
	return severalClasses{append(s.rows, r)}
}

func (s severalClasses) forget(leans func(row) bool) memory {
	return severalClasses{slices.DeleteFunc(s.rows, leans)}
}

// tableOnly is that of a place that has given up: it has met more classes than it may remember, or no class has its method any more.
type tableOnly struct{}

func (tableOnly) recall(question) (finding, bool) { return finding{}, false }

func (t tableOnly) learn(row, int) memory { return t }

func (t tableOnly) forget(func(row) bool) memory { return t }

// place is a word of a method that sends. Classes that the method was copied to share it: what it remembers is by the class that was looked from.
type place struct {
	memory
}

func newPlace() *place { return &place{emptyMemory{}} }

// nowhere stands for the place of a send that no word sends: one from outside, or one that looks for dnu/1 behind another.
func nowhere() *place { return &place{tableOnly{}} }
