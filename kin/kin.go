// Package kin: objects, their classes, and sends that remember what they found: see DOC.md.
package kin

import (
	"slices"
	"strings"
)

// Errno is what a call answers: OK or the reason for a refusal.
type Errno int

const (
	OK       Errno = 0
	ErrArg   Errno = 1  // what may not be handed in
	ErrName  Errno = 2  // a class that there is not
	ErrTwice Errno = 3  // a class that there is already
	ErrNone  Errno = 4  // an object or method that there is not
	ErrText  Errno = 5  // no words
	ErrStack Errno = 6  // a stack that is not as it must be
	ErrSlot  Errno = 7  // a slot that there is not
	ErrRing  Errno = 8  // a class below itself
	ErrSize  Errno = 9  // too many slots, or another number of them
	ErrFull  Errno = 10 // too many classes or objects
)

// How a sending ended.
const (
	Told  int = 0
	Lost  int = 1
	Spent int = 2
	Bad   int = 3
	Deep  int = 4
)

const (
	maxClasses = 12
	maxObjects = 40
	maxSlots   = 10
	maxSource  = 120
	maxWords   = 40
	maxStack   = 16
	maxDepth   = 32
	maxFuel    = 3000
	maxArgs    = 3
	maxPlaces  = 6
	maxTable   = 64
)

const (
	rootName = "Any"
	intName  = "Int"
)

// Value is a whole number, or an object by its number.
type Value struct {
	Object bool
	N      int
}

// Image is classes and objects, and what sends remember of them. Make it by New.
type Image struct {
	classes map[string]*class
	objects []object
	looks   int                 // how many sends looked for a method
	climbs  int                 // for how many of them the classes were gone through
	places  int                 // how many classes a place that sends may remember
	senders map[string]placeSet // by selectors: the places that send them, of all methods that classes have
	table   rowTable
}

// New makes an image (P2).
func New(places int, table int) (*Image, Errno) {
	powerOfTwo := table > 0 && table&(table-1) == 0
	if places < 0 || places > maxPlaces || !powerOfTwo || table > maxTable {
		return nil, ErrArg
	}
	m := &Image{
		classes: map[string]*class{},
		places:  places,
		senders: map[string]placeSet{},
		table:   rowTable{size: table},
	}
	m.addClass(rootName, nil, 0)
	m.addClass(intName, m.classes[rootName], 0)
	return m, OK
}

// Class makes a class (P3).
func (m *Image) Class(name string, above string, slots int) Errno {
	if !isClassName(name) || slots < 0 {
		return ErrArg
	}
	if m.classes[name] != nil {
		return ErrTwice
	}
	over := m.classes[above]
	if over == nil {
		return ErrName
	}
	// The sum could wrap round, the difference can't.
	if slots > maxSlots-over.slots {
		return ErrSize
	}
	if len(m.classes) == maxClasses {
		return ErrFull
	}
	m.addClass(strings.Clone(name), over, over.slots+slots) // the name handed in may be a piece of a far greater text
	return OK
}

// Method gives a class a method (P4).
func (m *Image) Method(class string, selector string, source string) (Errno, int) {
	c := m.classes[class]
	if c == nil {
		return ErrName, 0
	}
	if !isSelector(selector) {
		return ErrArg, 0
	}
	if len(source) > maxSource {
		return ErrText, 0
	}
	words, starts, wrong := readWords(strings.Clone(source))
	if wrong >= 0 {
		return ErrText, wrong
	}
	if e, at := checkNumbers(words, argumentsOf(selector), c.slots); e != OK {
		return e, starts[at]
	}
	if at := checkStack(words); at >= 0 {
		return ErrStack, starts[at]
	}
	m.give(c, strings.Clone(selector), newMethod(words))
	return OK, 0
}

// Drop takes a method away (P5).
func (m *Image) Drop(class string, selector string) Errno {
	c := m.classes[class]
	if c == nil {
		return ErrName
	}
	if c.methods[selector] == nil {
		return ErrNone
	}
	m.takeAway(c, selector)
	return OK
}

// Move lays a class below another one (P5).
func (m *Image) Move(class string, above string) Errno {
	c, over := m.classes[class], m.classes[above]
	if c == nil || over == nil || class == rootName || class == intName {
		return ErrName
	}
	if over.isOrIsBelow(c) {
		return ErrRing
	}
	// A class's own slots stay as many, so its objects' do only if the two above have the same number.
	if over.slots != c.above.slots {
		return ErrSize
	}
	m.classMoves(c)
	c.above = over
	return OK
}

// Copy gives a class another one's method (P5).
func (m *Image) Copy(class string, selector string, to string) Errno {
	from, into := m.classes[class], m.classes[to]
	if from == nil || into == nil {
		return ErrName
	}
	copied := from.methods[selector]
	if copied == nil {
		return ErrNone
	}
	if copied.slots() > into.slots {
		return ErrSlot
	}
	m.give(into, strings.Clone(selector), copied)
	return OK
}

// Make makes an object (P6).
func (m *Image) Make(class string) (Value, Errno) {
	c := m.classOfObjects(class)
	if c == nil {
		return Value{}, ErrName
	}
	if len(m.objects) == maxObjects {
		return Value{}, ErrFull
	}
	m.objects = append(m.objects, object{class: c, slots: make([]Value, c.slots)})
	return Value{Object: true, N: len(m.objects) - 1}, OK
}

// Be gives an object another class (P6).
func (m *Image) Be(object int, class string) Errno {
	if !m.has(object) {
		return ErrNone
	}
	c := m.classOfObjects(class)
	if c == nil {
		return ErrName
	}
	if c.slots != len(m.objects[object].slots) {
		return ErrSize
	}
	m.objects[object].class = c
	return OK
}

// Slot tells what a slot holds (P6).
func (m *Image) Slot(object int, slot int) (Value, Errno) {
	if !m.has(object) || slot < 0 || slot >= len(m.objects[object].slots) {
		return Value{}, ErrNone
	}
	return m.objects[object].slots[slot], OK
}

// Of tells an object's class (P6).
func (m *Image) Of(object int) (string, Errno) {
	if !m.has(object) {
		return "", ErrNone
	}
	return m.objects[object].class.name, OK
}

// Flush forgets what was remembered of a selector, or of all (P6).
func (m *Image) Flush(selector string) Errno {
	if selector != "" && !isSelector(selector) {
		return ErrArg
	}
	if selector == "" {
		m.forgetAll()
	} else {
		m.forgetSelector(selector)
	}
	return OK
}

// Send sends a selector from outside, and answers what was told and how it ended (P7).
func (m *Image) Send(to Value, selector string, args []Value, fuel int) (Value, int, Errno) {
	if !isSelector(selector) || argumentsOf(selector) != len(args) || fuel < 0 || fuel > maxFuel {
		return Value{}, 0, ErrArg
	}
	if m.lacks(to) || slices.ContainsFunc(args, m.lacks) {
		return Value{}, 0, ErrNone
	}
	told, end := m.sendFromOutside(to, selector, args, fuel)
	return told, end, OK
}

// Sends tells how many sends looked for a method, and for how many the classes were gone through (P8).
func (m *Image) Sends() (int, int) { return m.looks, m.climbs }
