package kin

import (
	"fmt"
	"math"
	"strings"
	"testing"
)

// P2

func TestNew(t *testing.T) {
	sizes := map[int]bool{1: true, 2: true, 4: true, 8: true, 16: true, 32: true, 64: true}
	numbers := []int{math.MinInt, math.MinInt + 1, math.MaxInt, math.MaxInt - 1, 1 << 62, 1 << 32}
	for n := -10; n < 300; n++ {
		numbers = append(numbers, n)
	}
	for _, places := range numbers {
		for _, table := range numbers {
			want := ErrArg
			if places >= 0 && places <= 6 && sizes[table] {
				want = OK
			}
			m, e := New(places, table)
			if e != want || (m != nil) != (want == OK) {
				t.Fatalf("P2: New(%d, %d) = %v, %d, want %d", places, table, m != nil, e, want)
			}
		}
	}
}

func TestNewImageHasAnyAndInt(t *testing.T) {
	m, _ := New(0, 1)
	for _, name := range []string{"Any", "Int"} {
		if e := m.Class(name, "Any", 0); e != ErrTwice {
			t.Errorf("P3: Class(%q): %d, want ErrTwice", name, e)
		}
		if e, at := m.Method(name, "f/0", "s0 ret"); e != ErrSlot || at != 0 {
			t.Errorf("%q has slots: %d, %d", name, e, at)
		}
	}
	if m.classes["Int"].above != m.classes["Any"] {
		t.Error("Int is not below Any")
	}
	if _, e := m.Of(0); e != ErrNone {
		t.Errorf("a new image has an object: %d", e)
	}
}

// P3

func TestClassNames(t *testing.T) {
	good := []string{"A", "Z", "Aa", "Az", "Za", "Zz", "Abcdef", "Zzzzzz"}
	wrong := []string{"", "a", "z", "@", "[", "1", " ", "AA", "AbC", "Abcdefg", "A1", "A`", "A{", "A ", " A", "A.", "A/", "Ab\x00", "A\n", "Ä", "Aä", "\xff", "A\xff", "Abcdef ", strings.Repeat("A", 1<<20), "A" + strings.Repeat("a", 1<<20)}
	for _, name := range good {
		m, _ := New(0, 1)
		if e := m.Class(name, "Any", 0); e != OK {
			t.Errorf("P3: Class(%q): %d", name, e)
		}
		m.Make(name)
		if of, e := m.Of(0); of != name || e != OK {
			t.Errorf("P6: Of an object of %q: %q, %d", name, of, e)
		}
	}
	for _, name := range wrong {
		m, _ := New(0, 1)
		if e := m.Class(name, "Any", 0); e != ErrArg {
			t.Errorf("P3: Class(%.20q): %d, want ErrArg", name, e)
		}
	}
}

func TestClassErrors(t *testing.T) {
	m := newImage(t)
	before := state(m)
	for _, c := range []struct {
		name, above string
		slots       int
		want        Errno
	}{
		{"a", "A", 0, ErrArg},
		{"D", "A", -1, ErrArg},
		{"D", "A", math.MinInt, ErrArg},
		{"A", "Any", -1, ErrArg},
		{"a", "Zz", 99, ErrArg},
		{"A", "Any", 2, ErrTwice},
		{"A", "Zz", 99, ErrTwice},
		{"Any", "Any", 0, ErrTwice},
		{"Int", "Any", 0, ErrTwice},
		{"D", "Zz", 0, ErrName},
		{"D", "D", 0, ErrName},
		{"D", "", 0, ErrName},
		{"D", "a", 0, ErrName},
		{"D", "Zz", 99, ErrName},
		{"D", "Any", 11, ErrSize},
		{"D", "A", 9, ErrSize},
		{"D", "C", 8, ErrSize},
		{"D", "A", math.MaxInt, ErrSize},
		{"D", "A", math.MaxInt - 1, ErrSize},
	} {
		if e := m.Class(c.name, c.above, c.slots); e != c.want {
			t.Errorf("P3: Class(%q, %q, %d) = %d, want %d", c.name, c.above, c.slots, e, c.want)
		}
	}
	if after := state(m); after != before {
		t.Errorf("P1: refused calls have changed\n%s to\n%s", before, after)
	}
}

func TestClassSlots(t *testing.T) {
	m, _ := New(0, 1)
	total := map[string]int{"Any": 0, "Int": 0}
	for _, c := range []struct {
		name, above string
		slots       int
	}{{"A", "Any", 10}, {"B", "A", 0}, {"C", "Any", 3}, {"D", "C", 4}, {"E", "D", 3}, {"F", "Int", 2}, {"G", "F", 8}} {
		addClass(t, m, c.name, c.above, c.slots)
		total[c.name] = total[c.above] + c.slots
	}
	for name, want := range total {
		if name == "Int" {
			continue
		}
		v, e := m.Make(name)
		if e != OK {
			t.Fatalf("P6: Make(%q): %d", name, e)
		}
		for slot := range 12 {
			if got, e := m.Slot(v.N, slot); got != (Value{}) || (e == OK) != (slot < want) || e != OK && e != ErrNone {
				t.Errorf("P3: slot %d of an object of %q (%d slots): %v, %d", slot, name, want, got, e)
			}
		}
	}
}

func TestClassesFull(t *testing.T) {
	m, _ := New(0, 1)
	for i := range 10 {
		addClass(t, m, string(rune('A'+i)), "Any", 0)
	}
	before := state(m)
	for _, c := range []struct {
		name, above string
		slots       int
		want        Errno
	}{{"K", "Any", 0, ErrFull}, {"K", "A", 10, ErrFull}, {"K", "A", 11, ErrSize}, {"K", "L", 0, ErrName}, {"J", "A", 0, ErrTwice}, {"k", "A", 0, ErrArg}} {
		if e := m.Class(c.name, c.above, c.slots); e != c.want {
			t.Errorf("P3: with 12 classes, Class(%q, %q, %d) = %d, want %d", c.name, c.above, c.slots, e, c.want)
		}
	}
	if after := state(m); after != before {
		t.Errorf("P1: refused calls have changed\n%s to\n%s", before, after)
	}
	if _, e := m.Make("K"); e != ErrName {
		t.Errorf("P3: the 13th class is there: %d", e)
	}
}

// P5

func TestDrop(t *testing.T) {
	m := newImage(t)
	addMethod(t, m, "A", "f/0", "1 ret")
	addMethod(t, m, "A", "f/1", "a0 ret")
	addMethod(t, m, "B", "f/0", "2 ret")
	before := state(m)
	for _, c := range []struct {
		class, selector string
		want            Errno
	}{{"Z", "f/0", ErrName}, {"", "f/0", ErrName}, {"a", "x", ErrName}, {"A", "g/0", ErrNone}, {"A", "f/2", ErrNone}, {"A", "f", ErrNone}, {"A", "", ErrNone}, {"A", "f/0 ", ErrNone}, {"C", "f/0", ErrNone}, {"Any", "f/0", ErrNone}, {"B", "f/1", ErrNone}, {"A", strings.Repeat("f", 1<<20), ErrNone}} {
		if e := m.Drop(c.class, c.selector); e != c.want {
			t.Errorf("P5: Drop(%q, %.20q) = %d, want %d", c.class, c.selector, e, c.want)
		}
	}
	if after := state(m); after != before {
		t.Errorf("P1: refused calls have changed\n%s to\n%s", before, after)
	}
	if e := m.Drop("A", "f/0"); e != OK {
		t.Errorf("P5: Drop(A, f/0) = %d", e)
	}
	if hasMethod(m, "A", "f/0") || !hasMethod(m, "A", "f/1") || !hasMethod(m, "B", "f/0") {
		t.Errorf("P5: Drop(A, f/0) left\n%s", state(m))
	}
	if e := m.Drop("A", "f/0"); e != ErrNone {
		t.Errorf("P5: a second Drop(A, f/0) = %d", e)
	}
}

func TestMove(t *testing.T) {
	m := newImage(t)
	addClass(t, m, "F", "C", 0)
	addClass(t, m, "G", "Int", 0)
	before := state(m)
	for _, c := range []struct {
		class, above string
		want         Errno
	}{
		{"Z", "A", ErrName}, {"A", "Z", ErrName}, {"", "", ErrName}, {"Z", "Z", ErrName},
		{"Any", "Any", ErrName}, {"Any", "A", ErrName}, {"Int", "Any", ErrName}, {"Int", "Int", ErrName}, {"Int", "G", ErrName}, {"Int", "A", ErrName},
		{"A", "A", ErrRing}, {"A", "B", ErrRing}, {"A", "F", ErrRing}, {"C", "F", ErrRing},
		{"F", "A", ErrSize}, {"C", "Any", ErrSize}, {"E", "A", ErrSize}, {"C", "B", OK}, {"C", "A", OK},
	} {
		if e := m.Move(c.class, c.above); e != c.want {
			t.Errorf("P5: Move(%q, %q) = %d, want %d", c.class, c.above, e, c.want)
		}
	}
	if after := state(m); after != before {
		t.Errorf("P1: refused calls, and one there and back, have changed\n%s to\n%s", before, after)
	}
}

func TestMoveIsSeenByRings(t *testing.T) {
	m := newImage(t)
	for _, c := range []struct {
		class, above string
		want         Errno
	}{
		{"C", "E", OK},      // from below A
		{"E", "C", ErrRing}, // it is below E now
		{"A", "C", ErrSize}, // and not below A any more
		{"A", "Int", OK},    // below Int a class may be
		{"B", "E", OK},
		{"E", "B", ErrRing},
		{"B", "Int", ErrSize},
		{"B", "B", ErrRing},
	} {
		if e := m.Move(c.class, c.above); e != c.want {
			t.Errorf("P5: Move(%q, %q) = %d, want %d", c.class, c.above, e, c.want)
		}
	}
}

func TestMoveKeepsObjects(t *testing.T) {
	m := newImage(t)
	addObject(t, m, "C")
	if e := m.Move("C", "E"); e != OK {
		t.Fatalf("P5: Move(C, E) = %d", e)
	}
	if of, e := m.Of(0); of != "C" || e != OK {
		t.Errorf("P5: Of(0) = %q, %d", of, e)
	}
	if _, e := m.Slot(0, 2); e != OK {
		t.Errorf("P5: Slot(0, 2): %d", e)
	}
	if _, e := m.Slot(0, 3); e != ErrNone {
		t.Errorf("P5: Slot(0, 3): %d", e)
	}
	addClass(t, m, "D", "C", 7)
	if e := m.Class("F", "C", 8); e != ErrSize {
		t.Errorf("P5: C has another number of slots since it was moved: %d", e)
	}
}

func TestCopy(t *testing.T) {
	m := newImage(t)
	addMethod(t, m, "A", "n/1", "a0 ret")
	addMethod(t, m, "A", "r/0", "s1 ret")
	addMethod(t, m, "A", "w/0", "1 =s1")
	addMethod(t, m, "A", "z/0", "s0 ret")
	addMethod(t, m, "A", "dead/0", "1 ret s1")
	addMethod(t, m, "A", "down/0", "s1 s0")
	addMethod(t, m, "C", "r/0", "s2 ret")
	addClass(t, m, "One", "Any", 1)
	before := state(m)
	for _, c := range []struct {
		class, selector, to string
		want                Errno
	}{
		{"Z", "n/1", "A", ErrName}, {"A", "n/1", "Z", ErrName}, {"A", "x", "Z", ErrName}, {"A", "r/0", "", ErrName},
		{"A", "n/0", "B", ErrNone}, {"A", "n", "B", ErrNone}, {"A", "", "B", ErrNone}, {"B", "n/1", "A", ErrNone}, {"Any", "n/1", "A", ErrNone}, {"A", strings.Repeat("n", 1<<20), "B", ErrNone},
		{"A", "r/0", "One", ErrSlot}, {"A", "w/0", "One", ErrSlot}, {"A", "dead/0", "One", ErrSlot}, {"A", "down/0", "One", ErrSlot}, {"A", "z/0", "Any", ErrSlot}, {"A", "z/0", "Int", ErrSlot}, {"C", "r/0", "A", ErrSlot}, {"C", "r/0", "E", ErrSlot},
		{"A", "n/1", "A", OK},
	} {
		if e := m.Copy(c.class, c.selector, c.to); e != c.want {
			t.Errorf("P5: Copy(%q, %.20q, %q) = %d, want %d", c.class, c.selector, c.to, e, c.want)
		}
	}
	if after := state(m); after != before {
		t.Errorf("P1: refused calls have changed\n%s to\n%s", before, after)
	}
	for _, c := range []struct{ class, selector, to string }{
		{"A", "n/1", "Any"}, {"A", "n/1", "Int"}, {"A", "n/1", "One"}, {"A", "z/0", "One"}, {"A", "r/0", "B"}, {"A", "r/0", "E"}, {"A", "r/0", "C"}, {"B", "r/0", "A"},
	} {
		if e := m.Copy(c.class, c.selector, c.to); e != OK {
			t.Errorf("P5: Copy(%q, %q, %q) = %d", c.class, c.selector, c.to, e)
		}
		if !hasMethod(m, c.to, c.selector) {
			t.Errorf("P5: behind Copy(%q, %q, %q) it is not there", c.class, c.selector, c.to)
		}
	}
	// C's own r/0, which had s2, is gone: what it has now fits A
	if e := m.Copy("C", "r/0", "A"); e != OK {
		t.Errorf("P5: Copy took no method's place: %d", e)
	}
}

func TestCopiesAreApart(t *testing.T) {
	m := newImage(t)
	addMethod(t, m, "A", "f/0", "1 ret")
	if e := m.Copy("A", "f/0", "Any"); e != OK {
		t.Fatalf("P5: Copy: %d", e)
	}
	addMethod(t, m, "A", "f/0", "s1 ret")
	if e := m.Copy("Any", "f/0", "Int"); e != OK {
		t.Errorf("P5: a new method took the copy's place: %d", e)
	}
	if e := m.Drop("A", "f/0"); e != OK {
		t.Errorf("P5: Drop: %d", e)
	}
	if !hasMethod(m, "Any", "f/0") {
		t.Error("P5: Drop took the copy, too")
	}
}

// P6

func TestMake(t *testing.T) {
	m := newImage(t)
	addClass(t, m, "G", "Int", 0)
	for i, class := range []string{"A", "Any", "C", "G", "A"} {
		if v, e := m.Make(class); v != (Value{Object: true, N: i}) || e != OK {
			t.Errorf("P6: Make(%q) = %v, %d", class, v, e)
		}
	}
	before := state(m)
	for _, class := range []string{"Int", "Z", "", "a", strings.Repeat("A", 1<<20)} {
		if v, e := m.Make(class); v != (Value{}) || e != ErrName {
			t.Errorf("P6: Make(%.20q) = %v, %d", class, v, e)
		}
	}
	for i := 5; i < 40; i++ {
		if v, e := m.Make("B"); v != (Value{Object: true, N: i}) || e != OK {
			t.Errorf("P6: object %d: %v, %d", i, v, e)
		}
	}
	if !strings.HasPrefix(state(m), before) {
		t.Errorf("P1: refused calls have changed\n%s to\n%s", before, state(m))
	}
	before = state(m)
	if v, e := m.Make("B"); v != (Value{}) || e != ErrFull {
		t.Errorf("P6: the 41st object: %v, %d", v, e)
	}
	if v, e := m.Make("Int"); v != (Value{}) || e != ErrName {
		t.Errorf("P6: with 40 objects, Make(Int) = %v, %d", v, e)
	}
	if after := state(m); after != before {
		t.Errorf("P1: refused calls have changed\n%s to\n%s", before, after)
	}
}

func TestBe(t *testing.T) {
	m := newImage(t)
	addClass(t, m, "G", "Int", 0)
	for _, class := range []string{"A", "C", "Any"} {
		addObject(t, m, class)
	}
	before := state(m)
	for _, c := range []struct {
		object int
		class  string
		want   Errno
	}{
		{-1, "A", ErrNone}, {3, "A", ErrNone}, {3, "Z", ErrNone}, {math.MinInt, "Int", ErrNone}, {math.MaxInt, "A", ErrNone},
		{0, "Z", ErrName}, {0, "", ErrName}, {0, "Int", ErrName}, {2, "Int", ErrName},
		{0, "C", ErrSize}, {0, "Any", ErrSize}, {1, "A", ErrSize}, {2, "A", ErrSize},
		{0, "A", OK},
	} {
		if e := m.Be(c.object, c.class); e != c.want {
			t.Errorf("P6: Be(%d, %q) = %d, want %d", c.object, c.class, e, c.want)
		}
	}
	if after := state(m); after != before {
		t.Errorf("P1: refused calls have changed\n%s to\n%s", before, after)
	}
	for _, c := range []struct {
		object int
		class  string
	}{{0, "B"}, {0, "E"}, {2, "G"}, {0, "A"}} {
		if e := m.Be(c.object, c.class); e != OK {
			t.Errorf("P6: Be(%d, %q) = %d", c.object, c.class, e)
		}
		if of, e := m.Of(c.object); of != c.class || e != OK {
			t.Errorf("P6: behind Be(%d, %q) it is of %q, %d", c.object, c.class, of, e)
		}
	}
	if of, _ := m.Of(1); of != "C" {
		t.Errorf("P6: another object is of %q now", of)
	}
}

func TestSlotAndOf(t *testing.T) {
	m := newImage(t)
	addObject(t, m, "A")
	addObject(t, m, "C")
	m.objects[1].slots[2] = Value{Object: true, N: 1}
	m.objects[1].slots[0] = Value{N: -7}
	for _, c := range []struct {
		object, slot int
		value        Value
		want         Errno
	}{
		{0, 0, Value{}, OK}, {0, 1, Value{}, OK}, {0, 2, Value{}, ErrNone}, {0, -1, Value{}, ErrNone},
		{1, 0, Value{N: -7}, OK}, {1, 1, Value{}, OK}, {1, 2, Value{Object: true, N: 1}, OK}, {1, 3, Value{}, ErrNone},
		{2, 0, Value{}, ErrNone}, {-1, 0, Value{}, ErrNone},
		{math.MaxInt, 0, Value{}, ErrNone}, {math.MinInt, 0, Value{}, ErrNone}, {0, math.MaxInt, Value{}, ErrNone}, {0, math.MinInt, Value{}, ErrNone},
	} {
		if v, e := m.Slot(c.object, c.slot); v != c.value || e != c.want {
			t.Errorf("P6: Slot(%d, %d) = %v, %d, want %v, %d", c.object, c.slot, v, e, c.value, c.want)
		}
	}
	for _, c := range []struct {
		object int
		class  string
		want   Errno
	}{{0, "A", OK}, {1, "C", OK}, {2, "", ErrNone}, {-1, "", ErrNone}, {math.MaxInt, "", ErrNone}, {math.MinInt, "", ErrNone}} {
		if class, e := m.Of(c.object); class != c.class || e != c.want {
			t.Errorf("P6: Of(%d) = %q, %d, want %q, %d", c.object, class, e, c.class, c.want)
		}
	}
}

func TestFlush(t *testing.T) {
	m := newImage(t)
	addMethod(t, m, "A", "f/0", "1 ret")
	addObject(t, m, "A")
	before := state(m)
	for selector, want := range map[string]Errno{
		"": OK, "f/0": OK, "zzzzzz/3": OK, "none/2": OK,
		"f": ErrArg, "f/": ErrArg, "f/4": ErrArg, "/0": ErrArg, "abcdefg/0": ErrArg, "f/0 ": ErrArg, " ": ErrArg, "F/0": ErrArg, "f/00": ErrArg, strings.Repeat("f", 1<<20) + "/0": ErrArg,
	} {
		if e := m.Flush(selector); e != want {
			t.Errorf("P6: Flush(%.20q) = %d, want %d", selector, e, want)
		}
	}
	if after := state(m); after != before {
		t.Errorf("P6: Flush is seen: \n%s became\n%s", before, after)
	}
}

// P1

func TestImagesShareNothing(t *testing.T) {
	one, other := newImage(t), newImage(t)
	before := state(other)
	addClass(t, one, "D", "Any", 0)
	addMethod(t, one, "A", "f/0", "1 ret")
	addMethod(t, one, "Any", "f/0", "1 ret")
	addObject(t, one, "A")
	one.Be(0, "B")
	one.Move("C", "E")
	one.Copy("A", "f/0", "Int")
	if after := state(other); after != before {
		t.Errorf("P1: an image has changed with another one:\n%s became\n%s", before, after)
	}
}

func TestNothingHangsOnPlacesAndTable(t *testing.T) {
	first := ""
	for places := range 7 {
		for table := 1; table <= 64; table *= 2 {
			m, _ := New(places, table)
			var b strings.Builder
			fmt.Fprintln(&b, m.Class("A", "Any", 2), m.Class("B", "A", 0), m.Class("C", "Any", 2))
			fmt.Fprintln(&b, both(m.Method("A", "f/1", "a0 =s1")))
			fmt.Fprintln(&b, both(m.Method("A", "f/1", "a1")))
			fmt.Fprintln(&b, m.Copy("A", "f/1", "C"), m.Move("B", "C"), m.Drop("A", "f/1"))
			fmt.Fprintln(&b, both(m.Make("B")))
			fmt.Fprintln(&b, m.Be(0, "A"), m.Flush(""), m.Flush("f/1"))
			fmt.Fprintln(&b, both(m.Method("A", "g/1", "a0 =s1 self 1 2 h/1 ^h/1 + ret")), both(m.Method("Any", "dnu/1", "self be:B pop a0 ret")))
			for range 3 {
				v, end, e := m.Send(Value{Object: true}, "g/1", []Value{{N: 9}}, 20)
				looks, _ := m.Sends()
				fmt.Fprintln(&b, v, end, e, looks)
			}
			fmt.Fprintln(&b, both(m.Of(0)))
			fmt.Fprintln(&b, both(m.Slot(0, 1)))
			b.WriteString(seen(m))
			if first == "" {
				first = b.String()
			}
			if b.String() != first {
				t.Fatalf("P1: with %d, %d the answers are\n%s not\n%s", places, table, b.String(), first)
			}
		}
	}
}
