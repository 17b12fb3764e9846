package kin

import (
	"fmt"
	"maps"
	"slices"
	"strings"
	"testing"
)

// newImage is an image with some classes: A (2 slots) and B (no more) and C (1 more) below it, E (2 slots).
func newImage(t *testing.T) *Image {
	t.Helper()
	m, e := New(2, 8)
	if m == nil || e != OK {
		t.Fatalf("New(2, 8): %d", e)
	}
	addClass(t, m, "A", "Any", 2)
	addClass(t, m, "B", "A", 0)
	addClass(t, m, "C", "A", 1)
	addClass(t, m, "E", "Any", 2)
	return m
}

func addClass(t *testing.T, m *Image, name, above string, slots int) {
	t.Helper()
	if e := m.Class(name, above, slots); e != OK {
		t.Fatalf("Class(%q, %q, %d): %d", name, above, slots, e)
	}
}

func addMethod(t *testing.T, m *Image, class, selector, source string) {
	t.Helper()
	if e, at := m.Method(class, selector, source); e != OK || at != 0 {
		t.Fatalf("Method(%q, %q, %q): %d, %d", class, selector, source, e, at)
	}
}

func addObject(t *testing.T, m *Image, class string) {
	t.Helper()
	if _, e := m.Make(class); e != OK {
		t.Fatalf("Make(%q): %d", class, e)
	}
}

// state writes out all that an image keeps, but for what it remembers.
func state(m *Image) string {
	return fmt.Sprintf("climbs %d\n%s", m.climbs, seen(m))
}

// seen writes out what answers may hang on: all but Sends' second number.
func seen(m *Image) string {
	var b strings.Builder
	fmt.Fprintf(&b, "looks %d\n", m.looks)
	for _, name := range slices.Sorted(maps.Keys(m.classes)) {
		c := m.classes[name]
		above := ""
		if c.above != nil {
			above = c.above.name
		}
		fmt.Fprintf(&b, "class %q %q %q %d\n", name, c.name, above, c.slots)
		for _, selector := range slices.Sorted(maps.Keys(c.methods)) {
			words := slices.Clone(c.methods[selector].words)
			for i := range words {
				words[i].place = nil
			}
			fmt.Fprintf(&b, "  %q %v\n", selector, words)
		}
	}
	for i, o := range m.objects {
		fmt.Fprintf(&b, "object %d %q %v\n", i, o.class.name, o.slots)
	}
	return b.String()
}

// hasMethod asks by Copy, which needs no more than that the class itself has it.
func hasMethod(m *Image, class, selector string) bool {
	return m.Copy(class, selector, class) == OK
}

func number(n int) Value { return Value{N: n} }

func objectOf(n int) Value { return Value{Object: true, N: n} }

// both writes out an answer of two parts.
func both[A, B any](a A, b B) string {
	return fmt.Sprint(a, b)
}
