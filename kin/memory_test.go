package kin

import (
	"fmt"
	"math/rand/v2"
	"strings"
	"testing"
	"unsafe"
)

// everySize does something with each number of places and each table.
func everySize(do func(places, table int)) {
	for places := range 7 {
		for table := 1; table <= 64; table *= 2 {
			do(places, table)
		}
	}
}

// sizedImage is what sendImage is, with so many places and such a table.
func sizedImage(t *testing.T, places, table int, methods ...string) *Image {
	t.Helper()
	m := sendImage(t)
	sized, e := New(places, table)
	if e != OK {
		t.Fatalf("New(%d, %d): %d", places, table, e)
	}
	m.places, m.table = sized.places, sized.table
	for i := 0; i < len(methods); i += 3 {
		addMethod(t, m, methods[i], methods[i+1], methods[i+2])
	}
	return m
}

func climbsOf(m *Image) int {
	_, climbs := m.Sends()
	return climbs
}

// P1: nothing of what is remembered is to be seen

// call is a call of an image, and what it answered.
type call func(m *Image) string

// newScript answers calls that hang on nothing but the numbers that r draws.
func newScript(r *rand.Rand) []call {
	p := &pair{r: r} // for the words that it makes up
	var script []call
	for _, c := range modelClasses {
		script = append(script, func(m *Image) string { return fmt.Sprint(m.Class(c.name, c.above, c.slots)) })
	}
	for _, class := range []string{"A", "B", "C", "D", "E", "F", "G", "Any"} {
		script = append(script, func(m *Image) string { return both(m.Make(class)) })
	}
	method := func() {
		class, selector, source := p.class(), p.selector(), p.source()
		script = append(script, func(m *Image) string { return both(m.Method(class, selector, source)) })
	}
	for range 40 {
		method()
	}
	for range 60 {
		switch r.IntN(8) {
		case 0:
			method()
		case 1:
			script = append(script, newChange(p))
		default:
			script = append(script, newSend(p))
		}
	}
	return script
}

func newChange(p *pair) call {
	class, selector, other, object := p.class(), p.selector(), p.class(), p.r.IntN(9)
	return pick(p.r,
		func(m *Image) string { return fmt.Sprint(m.Drop(class, selector)) },
		func(m *Image) string { return fmt.Sprint(m.Move(class, other)) },
		func(m *Image) string { return fmt.Sprint(m.Copy(class, selector, other)) },
		func(m *Image) string { return fmt.Sprint(m.Be(object, class)) })
}

func newSend(p *pair) call {
	value := func() Value { return Value{Object: p.r.IntN(4) > 0, N: p.r.IntN(8)} }
	to, selector, fuel := value(), p.selector(), pick(p.r, 3000, 300, 30)
	var args []Value
	for range argumentsOf(selector) {
		args = append(args, value())
	}
	return func(m *Image) string {
		v, end, e := m.Send(to, selector, args, fuel)
		looks, climbs := m.Sends()
		return fmt.Sprint(v, end, e, looks, climbs <= looks)
	}
}

// play answers what an image answers to all calls of a script, and all that is to be seen of it then. Ahead of every third call it flushes those selectors.
func play(m *Image, script []call, flushed ...string) string {
	var b strings.Builder
	for i, c := range script {
		if i%3 == 0 {
			for _, selector := range flushed {
				m.Flush(selector)
			}
		}
		fmt.Fprintln(&b, i, c(m))
	}
	return b.String() + seen(m)
}

func TestNothingRememberedIsSeen(t *testing.T) {
	r := rand.New(rand.NewPCG(7, 8))
	var least, most int // climbs, with and without memories
	for n := range 25 {
		script := newScript(r)
		without, _ := New(0, 1)
		want := play(without, script, "")
		everySize(func(places, table int) {
			for _, flushed := range [][]string{nil, {""}, {"f/0"}, {"g/2", "dnu/1"}} {
				m, _ := New(places, table)
				if got := play(m, script, flushed...); got != want {
					t.Fatalf("P1: script %d with %d places, a table of %d and %q flushed:\n%s\nwant\n%s", n, places, table, flushed, got, want)
				}
				if places == 6 && table == 64 && flushed == nil {
					least += climbsOf(m)
				}
			}
		})
		most += climbsOf(without)
	}
	if least > most/2 {
		t.Errorf("the scripts show little: %d climbs with all memories, %d with none", least, most)
	}
	t.Log(least, most)
}

func TestImagesRememberApart(t *testing.T) {
	everySize(func(places, table int) {
		one, other := sizedImage(t, places, table, asking...), sizedImage(t, places, table, asking...)
		for range 2 {
			checkSend(t, one, objectOf(2), "own/0", nil, 9, number(3), Told)
			checkSend(t, other, objectOf(2), "own/0", nil, 9, number(3), Told)
		}
		addMethod(t, one, "B", "f/0", "9 ret")
		one.Move("C", "A")
		addMethod(t, one, "C", "f/0", "8 ret")
		before := climbsOf(one)
		checkSend(t, other, objectOf(2), "own/0", nil, 9, number(3), Told)
		if climbsOf(one) != before {
			t.Error("P8: a send of one image is counted by another one")
		}
		checkSend(t, one, objectOf(2), "own/0", nil, 9, number(8), Told)
		checkSend(t, one, objectOf(1), "own/0", nil, 9, number(9), Told)
		checkSend(t, other, objectOf(1), "own/0", nil, 9, number(3), Told)
	})
}

// P5, P6, P7: a change between two sends of one place

// change is a word, or give: with a class, a selector and a source, which no word can do; and what a selector tells of an object ahead of it and behind it (-1: Lost).
type change struct {
	word          string
	asked         string
	object        int
	before, after int
}

// asking are the methods that are changed, and those that ask for them: each of own/0, high/0 and up/0 (that of B) is one place that sends.
var asking = []string{
	"Any", "own/0", "self f/0 ret", "A", "f/0", "1 ret", "B", "f/0", "3 ret", "D", "f/0", "2 ret", "G", "f/0", "5 ret",
	"Any", "high/0", "self g/0 ret", "A", "g/0", "1 ret", "D", "g/0", "2 ret",
	"Any", "up/0", "self f/0 ret", "B", "up/0", "^f/0 ret",
	"D", "dnu/1", "6 ret", "B", "other/0", "4 ret",
}

var changes = []change{
	// a method goes
	{"drop:B.f/0", "own/0", 1, 3, 1},
	{"drop:B.f/0", "own/0", 2, 3, 1},
	{"drop:B.f/0", "own/0", 0, 1, 1},
	{"drop:B.f/0", "own/0", 3, 2, 2},
	{"drop:A.f/0", "own/0", 0, 1, -1},
	{"drop:A.f/0", "own/0", 1, 3, 3},
	{"drop:D.f/0", "own/0", 3, 2, 1},
	{"drop:D.dnu/1", "own/0", 3, 2, 2},
	{"drop:A.g/0", "high/0", 2, 1, -1},
	{"drop:A.f/0", "up/0", 2, 1, -1},
	{"drop:B.up/0", "up/0", 2, 1, 3},
	{"drop:B.other/0", "own/0", 2, 3, 3},
	// one comes
	{"copy:D.f/0.C", "own/0", 2, 3, 2},
	{"copy:D.f/0.C", "own/0", 1, 3, 3},
	{"copy:D.f/0.Any", "own/0", 4, -1, 2},
	{"copy:D.f/0.Any", "own/0", 0, 1, 1},
	{"copy:D.g/0.B", "high/0", 2, 1, 2},
	{"copy:D.g/0.B", "high/0", 0, 1, 1},
	{"copy:B.f/0.Int", "own/0", 5, 5, 5},
	{"copy:D.dnu/1.Any", "own/0", 4, -1, 6},
	{"copy:D.dnu/1.Any", "own/0", 0, 1, 1},
	{"copy:B.up/0.D", "up/0", 3, 2, 1},
	{"copy:B.up/0.C", "up/0", 2, 1, 3},
	{"copy:B.up/0.A", "up/0", 0, 1, -1},
	{"give:C.f/0.9 ret", "own/0", 2, 3, 9},
	{"give:Any.f/0.9 ret", "own/0", 4, -1, 9},
	{"give:Any.dnu/1.9 ret", "own/0", 4, -1, 9},
	{"give:Any.g/0.9 ret", "high/0", 4, -1, 9},
	{"give:Int.g/0.9 ret", "high/0", 5, -1, 9},
	// one becomes another one
	{"copy:D.f/0.B", "own/0", 1, 3, 2},
	{"copy:D.f/0.B", "own/0", 2, 3, 2},
	{"copy:D.f/0.A", "own/0", 0, 1, 2},
	{"copy:D.f/0.A", "own/0", 2, 3, 3},
	{"copy:D.f/0.A", "up/0", 2, 1, 2},
	{"copy:D.f/0.B", "up/0", 2, 1, 1},
	{"copy:D.g/0.A", "high/0", 2, 1, 2},
	{"copy:A.f/0.A", "own/0", 0, 1, 1},
	{"give:B.f/0.9 ret", "own/0", 2, 3, 9},
	{"give:A.f/0.9 ret", "up/0", 2, 1, 9},
	{"give:B.up/0.9 ret", "up/0", 2, 1, 9},
	{"give:Any.own/0.9 ret", "own/0", 2, 3, 9},
	// a class is moved
	{"move:C.D", "own/0", 2, 3, 2},
	{"move:C.A", "own/0", 2, 3, 1},
	{"move:C.D", "own/0", 1, 3, 3},
	{"move:B.D", "own/0", 2, 3, 3},
	{"move:D.C", "own/0", 3, 2, 2},
	{"move:C.D", "high/0", 2, 1, 2},
	{"move:B.D", "high/0", 1, 1, 2},
	{"move:B.D", "high/0", 2, 1, 2},
	{"move:B.D", "up/0", 1, 1, 2},
	{"move:B.D", "up/0", 2, 1, 2},
	{"move:C.D", "up/0", 2, 1, 2},
	{"move:C.A", "up/0", 2, 1, 1},
	{"move:G.Any", "own/0", 5, 5, 5},
	// an object becomes another class's
	{"be:D", "own/0", 0, 1, 2},
	{"be:B", "own/0", 0, 1, 3},
	{"be:A", "own/0", 2, 3, 1},
	{"be:G", "own/0", 4, -1, 5},
	{"be:Any", "own/0", 5, 5, -1},
	{"be:D", "up/0", 2, 1, 2},
	{"be:D", "high/0", 2, 1, 2},
}

// doOutside does by a call what the word does.
func doOutside(m *Image, object int, word string) Errno {
	head, rest, _ := strings.Cut(word, ":")
	parts := strings.SplitN(rest, ".", 3)
	switch head {
	case "drop":
		return m.Drop(parts[0], parts[1])
	case "copy":
		return m.Copy(parts[0], parts[1], parts[2])
	case "move":
		return m.Move(parts[0], parts[1])
	case "be":
		return m.Be(object, parts[0])
	}
	e, _ := m.Method(parts[0], parts[1], parts[2])
	return e
}

func (c change) check(t *testing.T, m *Image, want int) {
	t.Helper()
	v, end := number(want), Told
	if want < 0 {
		v, end = Value{}, Lost
	}
	if got, how, e := m.Send(objectOf(c.object), c.asked, nil, 99); got != v || how != end || e != OK {
		t.Errorf("P7: with %d places and a table of %d, %v: %v, %d, %d, want %v, %d", m.places, m.table.size, c, got, how, e, v, end)
	}
}

// askAll asks all objects, so that the place has met many classes.
func (c change) askAll(m *Image) {
	for object := range 6 {
		m.Send(objectOf(object), c.asked, nil, 99)
	}
}

func TestChangesFromOutsideBetweenTwoSends(t *testing.T) {
	everySize(func(places, table int) {
		for _, c := range changes {
			for round := range 3 {
				m := sizedImage(t, places, table, asking...)
				for range round {
					c.askAll(m)
				}
				c.check(t, m, c.before)
				if e := doOutside(m, c.object, c.word); e != OK {
					t.Fatalf("%s: %d", c.word, e)
				}
				c.check(t, m, c.after)
				c.askAll(m)
				c.check(t, m, c.after)
			}
		}
	})
}

// changing is a method that does the word; with twice it is asked ahead of that and behind it.
func (c change) changing() []string {
	return []string{"Any", "change/0", "self " + c.word, "Any", "twice/0", "self " + c.asked + " self change/0 pop self " + c.asked + " 10 * + ret"}
}

func TestChangesByMethodsBetweenTwoSends(t *testing.T) {
	everySize(func(places, table int) {
		for _, c := range changes {
			if strings.HasPrefix(c.word, "give") {
				continue
			}
			for round := range 3 {
				m := sizedImage(t, places, table, append(c.changing(), asking...)...)
				for range round {
					c.askAll(m)
				}
				c.check(t, m, c.before)
				checkSend(t, m, objectOf(c.object), "change/0", nil, 9, objectOf(c.object), Told)
				c.check(t, m, c.after)
				c.askAll(m)
				c.check(t, m, c.after)
			}
		}
	})
}

func TestChangesInsideOneSending(t *testing.T) {
	everySize(func(places, table int) {
		for _, c := range changes {
			if strings.HasPrefix(c.word, "give") {
				continue
			}
			want, end := number(c.before+10*c.after), Told
			if c.before < 0 || c.after < 0 {
				want, end = Value{}, Lost
			}
			for round := range 2 {
				m := sizedImage(t, places, table, append(c.changing(), asking...)...)
				for range round {
					c.askAll(m)
				}
				if v, how, e := m.Send(objectOf(c.object), "twice/0", nil, 99); v != want || how != end || e != OK {
					t.Errorf("P7: with %d places and a table of %d, %v inside: %v, %d, %d, want %v, %d", places, table, c, v, how, e, want, end)
				}
			}
		}
	})
}

// TestMethodsThatRunOn: a method that no class has any more runs on, round by round; its one place that sends g/0 must find what is changed meanwhile.
func TestMethodsThatRunOn(t *testing.T) {
	// s0 counts down; run/0 adds what g/0 tells to ten times s1
	run := "self step/0 pop s1 10 * self g/0 + =s1 s0 1 - =s0 s0 ?17 >0 s1 ret"
	for _, c := range []struct {
		step string // which does something when s0 is 3 and when it is 2
		want int
	}{
		{"s0 3 - ?5 >6 drop:A.run/0 s0 2 - ?11 >12 copy:D.g/0.A", 1122},
		{"s0 3 - ?5 >6 copy:A.x/0.A s0 2 - ?11 >12 drop:A.run/0", 1111},
		{"s0 2 - ?5 >6 drop:A.run/0 s0 1 - ?11 >12 copy:D.g/0.A", 1112},
		{"s0 4 - ?5 >6 drop:A.run/0 s0 1 - ?11 >12 copy:D.g/0.A", 1112},
		{"s0 4 - ?5 >6 copy:D.run/0.A s0 1 - ?11 >12 copy:D.g/0.A", 1112},
		{"s0 3 - ?5 >6 copy:D.run/0.A s0 2 - ?11 >12 drop:A.g/0", 1133},
		{"s0 3 - ?5 >6 drop:A.run/0 s0 1 - ?11 >12 move:A.E", 1114},
		{"s0 2 - ?5 >6 drop:A.g/0 s0 1 - ?11 >12 copy:D.g/0.A", 1132},
	} {
		everySize(func(places, table int) {
			m := sizedImage(t, places, table, "A", "run/0", run, "A", "step/0", c.step, "A", "x/0", "", "Any", "dnu/1", "3 ret", "D", "g/0", "2 ret", "D", "run/0", "", "A", "set/1", "a0 =s0")
			addMethod(t, m, "A", "g/0", "1 ret")
			if strings.Contains(c.step, "move:A.E") {
				m.Drop("A", "g/0")
				addMethod(t, m, "Any", "g/0", "1 ret")
				addClass(t, m, "E", "Any", 0)
				addMethod(t, m, "E", "g/0", "4 ret")
			}
			m.Send(objectOf(0), "set/1", []Value{number(4)}, 9)
			checkSend(t, m, objectOf(0), "run/0", nil, 300, number(c.want), Told)
		})
	}
}

func TestCopiesShareTheirPlaces(t *testing.T) {
	everySize(func(places, table int) {
		m := sizedImage(t, places, table, "A", "ask/0", "self g/0 ^h/0 10 * + ret", "A", "g/0", "1 ret", "D", "g/0", "2 ret", "Any", "h/0", "3 ret", "A", "h/0", "4 ret")
		check := func(object int, want int) {
			t.Helper()
			checkSend(t, m, objectOf(object), "ask/0", nil, 99, number(want), Told)
			checkSend(t, m, objectOf(object), "ask/0", nil, 99, number(want), Told)
		}
		check(0, 31)
		check(3, 32)
		m.Copy("A", "ask/0", "D") // it runs in D now: h/0 is looked for from A on
		check(3, 42)
		check(0, 31)
		m.Copy("A", "ask/0", "A")
		addMethod(t, m, "A", "g/0", "5 ret")
		check(0, 35)
		check(3, 42)
		m.Drop("A", "ask/0") // D has it yet
		addMethod(t, m, "D", "g/0", "6 ret")
		check(3, 46)
		addMethod(t, m, "A", "h/0", "7 ret")
		check(3, 76)
		m.Copy("D", "ask/0", "A")
		addMethod(t, m, "D", "ask/0", "8 ret")
		check(0, 35)
		check(3, 8)
		addMethod(t, m, "Any", "h/0", "9 ret")
		addMethod(t, m, "A", "g/0", "0 ret")
		check(0, 90)
	})
}

// P7: more classes than a place may remember

// manyClasses is an image with ten classes, each with an f/0 of its own, and an object of each; ask/1 of Int sends it.
func manyClasses(t *testing.T, places, table int) *Image {
	t.Helper()
	m, _ := New(places, table)
	addMethod(t, m, "Int", "ask/1", "a0 f/0 ret")
	for i := range 10 {
		name := string(rune('A' + i))
		addClass(t, m, name, "Any", 0)
		addMethod(t, m, name, "f/0", fmt.Sprint(i, " ret"))
		addObject(t, m, name)
	}
	return m
}

// meet sends from the one place to the first so many objects.
func meet(t *testing.T, m *Image, objects int) {
	t.Helper()
	for i := range objects {
		checkSend(t, m, number(0), "ask/1", []Value{objectOf(i)}, 9, number(i), Told)
	}
}

func TestMoreClassesThanPlaces(t *testing.T) {
	everySize(func(places, table int) {
		for classes := 1; classes <= 10; classes++ {
			m := manyClasses(t, places, table)
			meet(t, m, classes)
			cold := climbsOf(m)
			meet(t, m, classes)
			warm := climbsOf(m)
			if classes <= places && warm > cold+1 { // one for ask/1, if f/0 has its entry
				t.Errorf("the section 'Ways': %d classes, met twice with %d places and a table of %d: %d climbs, then %d", classes, places, table, cold, warm-cold)
			}
			meet(t, m, classes)
			climbs := climbsOf(m) - warm
			if climbs != 0 && (classes <= places || table == 64) {
				t.Errorf("the section 'Ways': %d classes, met again with %d places and a table of %d: %d climbs", classes, places, table, climbs)
			}
			if climbs == 0 && classes > places && table == 1 {
				t.Errorf("P8: %d classes, met again with %d places and a table of 1: no climbs", classes, places)
			}
		}
	})
}

// kindOf tells what kind of memory the place of ask/1 has.
func kindOf(m *Image) string {
	return strings.TrimPrefix(fmt.Sprintf("%T", m.classes["Int"].methods["ask/1"].words[1].place.memory), "kin.")
}

func TestMemoryBecomesTheNextKind(t *testing.T) {
	for places := range 7 {
		m := manyClasses(t, places, 1)
		if got := kindOf(m); got != "emptyMemory" {
			t.Errorf("%d places, at first: %s", places, got)
		}
		for classes := 1; classes <= 10; classes++ {
			want := "severalClasses"
			if classes == 1 {
				want = "oneClass"
			}
			if classes > places {
				want = "tableOnly"
			}
			for range 2 {
				meet(t, m, classes)
				if got := kindOf(m); got != want {
					t.Errorf("%d places, %d classes met: %s, want %s", places, classes, got, want)
				}
			}
		}
		m.Flush("g/0")
		if got := kindOf(m); got != "tableOnly" {
			t.Errorf("%d places, another selector flushed: %s", places, got)
		}
		for _, selector := range []string{"f/0", ""} {
			meet(t, m, 10)
			m.Flush(selector)
			if got := kindOf(m); got != "emptyMemory" {
				t.Errorf("%d places, %q flushed: %s", places, selector, got)
			}
		}
	}
}

func TestMemoryAfterChanges(t *testing.T) {
	m := manyClasses(t, 2, 1)
	for _, c := range []struct {
		meets   int
		changed string
		want    string
	}{
		{1, "B", "oneClass"}, {1, "A", "emptyMemory"}, {2, "A", "severalClasses"}, {2, "B", "severalClasses"}, {2, "C", "severalClasses"}, {3, "A", "tableOnly"}, {1, "A", "tableOnly"},
	} {
		meet(t, m, c.meets)
		addMethod(t, m, c.changed, "f/0", fmt.Sprint(c.changed[0]-'A', " ret"))
		if got := kindOf(m); got != c.want {
			t.Errorf("%v: %s", c, got)
		}
	}
}

func TestPlacesKeepWhatStaysSo(t *testing.T) {
	m := manyClasses(t, 3, 1)
	meet(t, m, 3)
	meet(t, m, 1)
	for _, changed := range []string{"A", "C", "D"} {
		addMethod(t, m, changed, "f/0", fmt.Sprint(changed[0]-'A', " ret"))
	}
	m.Move("A", "J")
	before := climbsOf(m)
	checkSend(t, m, number(0), "ask/1", []Value{objectOf(1)}, 9, number(1), Told)
	if climbs := climbsOf(m) - before; climbs != 0 {
		t.Errorf("the section 'Ways': what A, C and D find has changed, and for B there are %d climbs", climbs)
	}
	m.Copy("Int", "ask/1", "Int")
	meet(t, m, 3)
	if got := kindOf(m); got != "severalClasses" {
		t.Errorf("a method that was copied to where it is has lost its memory: %s", got)
	}
}

// P7: selectors that share an entry of the table

// sharing answers selectors that share an entry of the largest table, from a class on.
func sharing(from *class, many int) []string {
	var found []string
	first := question{from, "a/0"}.hash() % maxTable
	for i := 0; len(found) < many; i++ {
		selector := string([]byte{'a' + byte(i/26%26), 'a' + byte(i%26)}) + "/0"
		if (question{from, selector}).hash()%maxTable == first {
			found = append(found, selector)
		}
	}
	return found
}

func TestSelectorsThatShareAnEntry(t *testing.T) {
	everySize(func(places, table int) {
		m := sizedImage(t, places, table)
		selectors := sharing(m.classes["C"], 4)
		for i, selector := range selectors {
			addMethod(t, m, "A", selector, fmt.Sprint(i, " ret"))
			addMethod(t, m, "A", "ask/"+fmt.Sprint(i), "self "+selector+" ret")
		}
		m.Drop("A", selectors[3])
		addMethod(t, m, "A", "dnu/1", "8 ret")
		for round := range 3 {
			for i := range 9 {
				i %= 4
				want := number(10*round + i)
				if i == 3 || round == 0 {
					want = number([]int{0, 1, 2, 8}[i])
				}
				checkSend(t, m, objectOf(2), selectors[i], nil, 9, want, Told)
				checkSend(t, m, objectOf(2), "ask/"+fmt.Sprint(i), make([]Value, i), 9, want, Told)
			}
			for i := range 3 {
				addMethod(t, m, "B", selectors[i], fmt.Sprint(10*(round+1)+i, " ret"))
			}
		}
	})
}

func TestTableKeepsToItsSize(t *testing.T) {
	everySize(func(places, table int) {
		m := sizedImage(t, places, table, "Any", "dnu/1", "")
		for i := range 26 * 26 {
			m.Send(objectOf(i%6), string([]byte{'a' + byte(i/26), 'a' + byte(i%26)})+"/0", nil, 9)
		}
		used := 0
		for i, r := range m.table.room {
			if r != (row{}) {
				used++
			}
			if r != (row{}) && i >= table {
				t.Fatalf("with a table of %d entry %d is made use of", table, i)
			}
		}
		if used != table {
			t.Errorf("of a table of %d only %d entries are made use of", table, used)
		}
	})
}

// P8: what is remembered is of use

func TestWhatIsRememberedIsOfUse(t *testing.T) {
	for _, c := range []struct {
		name          string
		places, table int
		methods       []string
		selector      string
		objects       []int
		want          int // climbs of a hundred sends
	}{
		{"from outside", 0, 1, []string{"Any", "f/0", ""}, "f/0", []int{2}, 1},
		{"from outside, two classes", 0, 2, []string{"Any", "f/0", ""}, "f/0", []int{2, 1}, 2},
		{"nothing found", 0, 64, nil, "f/0", []int{2}, 2},
		{"nothing found but dnu/1", 0, 64, []string{"Any", "dnu/1", ""}, "f/0", []int{2}, 2},
		{"a place", 1, 64, []string{"Any", "f/0", "self g/0", "Any", "g/0", ""}, "f/0", []int{2}, 2},
		{"a place without table", 1, 1, []string{"Any", "f/0", "self g/0", "Any", "g/0", ""}, "f/0", []int{2}, 3},
		{"a place that gives up", 0, 64, []string{"Any", "f/0", "self g/0", "Any", "g/0", ""}, "f/0", []int{2}, 2},
		{"a place that sends from above", 1, 1, []string{"C", "f/0", "^g/0", "Any", "g/0", ""}, "f/0", []int{2}, 3},
		{"a place that finds nothing", 1, 64, []string{"Any", "f/0", "self g/0", "A", "dnu/1", ""}, "f/0", []int{2}, 3},
		{"a loop", 6, 1, []string{"A", "f/0", "9 =s0 s0 1 - =s0 self g/0 pop s0 ?12 >2", "Any", "g/0", ""}, "f/0", []int{2}, 3},
	} {
		m := sizedImage(t, c.places, c.table, c.methods...)
		for i := range 100 {
			m.Send(objectOf(c.objects[i%len(c.objects)]), c.selector, nil, 999)
		}
		if looks, climbs := m.Sends(); looks < 100 || climbs != c.want {
			t.Errorf("the section 'Ways': %s: Sends() = %d, %d, want %d climbs", c.name, looks, climbs, c.want)
		}
	}
}

func TestOnlyWhatLeansIsTakenOut(t *testing.T) {
	methods := []string{"Any", "ask/0", "self f/0 ret", "Any", "f/0", "1 ret", "B", "f/0", "2 ret", "D", "h/0", "", "D", "dnu/1", ""}
	for _, c := range []struct {
		word   string
		object int
		want   int // climbs of the next ask/0
	}{
		{"", 2, 0}, {"", 0, 0}, {"", 4, 0},
		{"drop:B.f/0", 2, 1}, {"drop:B.f/0", 1, 1}, {"drop:B.f/0", 0, 0}, {"drop:B.f/0", 4, 0}, {"drop:B.f/0", 3, 0},
		{"give:Any.f/0.3 ret", 2, 0}, {"give:Any.f/0.3 ret", 1, 0}, {"give:Any.f/0.3 ret", 0, 1}, {"give:Any.f/0.3 ret", 4, 1}, {"give:Any.f/0.3 ret", 5, 1},
		{"give:A.f/0.3 ret", 2, 0}, {"give:A.f/0.3 ret", 0, 1}, {"give:A.f/0.3 ret", 3, 1}, {"give:A.f/0.3 ret", 5, 0},
		{"give:A.g/0.3 ret", 0, 0}, {"give:A.g/0.3 ret", 2, 0}, {"give:C.dnu/1.3 ret", 2, 0}, {"drop:D.dnu/1", 3, 0}, {"drop:D.h/0", 3, 0},
		{"copy:B.f/0.C", 2, 1}, {"copy:B.f/0.C", 1, 0}, {"copy:B.f/0.Int", 5, 1}, {"copy:B.f/0.Int", 0, 0},
		{"give:Any.ask/0.self f/0 ret", 2, 1},
		{"move:D.C", 3, 2}, {"move:D.C", 2, 0}, {"move:D.C", 0, 0},
		{"move:C.D", 2, 2}, {"move:C.D", 1, 0}, {"move:C.D", 3, 0},
		{"move:B.D", 2, 1}, {"move:B.D", 1, 1}, {"move:B.D", 0, 0},
		{"be:D", 0, 0}, {"be:A", 3, 0},
	} {
		m := sizedImage(t, 6, 64, methods...)
		change{asked: "ask/0"}.askAll(m)
		if c.word != "" && doOutside(m, c.object, c.word) != OK {
			t.Fatalf("%s was refused", c.word)
		}
		before := climbsOf(m)
		m.Send(objectOf(c.object), "ask/0", nil, 9)
		if climbs := climbsOf(m) - before; climbs != c.want {
			t.Errorf("the section 'Ways': behind %q, ask/0 to object %d: %d climbs, want %d", c.word, c.object, climbs, c.want)
		}
	}
}

// P6: Flush

func TestFlushForgets(t *testing.T) {
	everySize(func(places, table int) {
		for _, c := range []struct {
			flushed string
			want    int // climbs of the next ask/0
		}{{"", 2}, {"f/0", 1}, {"ask/0", 1}, {"g/0", 0}} {
			m := sizedImage(t, places, table, "Any", "ask/0", "self f/0 ret", "Any", "f/0", "1 ret")
			m.Send(objectOf(2), "ask/0", nil, 9)
			m.Send(objectOf(2), "ask/0", nil, 9)
			before, kept := climbsOf(m), seen(m)
			if e := m.Flush(c.flushed); e != OK || climbsOf(m) != before || seen(m) != kept {
				t.Errorf("P6: Flush(%q) is to be seen: %d\n%s\n%s", c.flushed, e, kept, seen(m))
			}
			checkSend(t, m, objectOf(2), "ask/0", nil, 9, number(1), Told)
			climbs := climbsOf(m) - before
			if climbs < c.want || table == 64 && climbs != c.want {
				t.Errorf("with %d places and a table of %d, Flush(%q), then ask/0: %d climbs, want %d", places, table, c.flushed, climbs, c.want)
			}
		}
	})
}

// What is kept is what is of use.

func TestNothingPilesUp(t *testing.T) {
	m := sizedImage(t, 6, 64)
	for i := range 2000 {
		selector := string([]byte{'a' + byte(i/26%26), 'a' + byte(i%26)}) + "/0"
		addMethod(t, m, "A", "f/0", "self "+selector+" pop ^"+selector+" ret")
		m.Send(objectOf(2), "f/0", nil, 9)
		m.Copy("A", "f/0", "B")
		m.Copy("A", "f/0", "A")
		m.Copy("A", "f/0", "B")
	}
	if len(m.senders) != 1 {
		t.Errorf("two classes share one method that sends one selector, but places are kept for %d", len(m.senders))
	}
	m.Drop("A", "f/0")
	for _, places := range m.senders {
		if len(places) != 2 {
			t.Errorf("B's method has two places, but %d are kept", len(places))
		}
	}
	m.Drop("B", "f/0")
	if len(m.senders) != 0 {
		t.Errorf("no method is left that sends, but places are kept for %d selectors", len(m.senders))
	}
	for _, r := range m.table.entries() {
		if r.method != nil {
			t.Errorf("the table holds on to a method that no class has: %v", r.selector)
		}
	}
}

func TestRememberedTextsAreCopies(t *testing.T) {
	m := sizedImage(t, 1, 64)
	text := []byte("f/0")
	selector := string(text)
	m.Send(objectOf(0), selector, nil, 9)
	kept := m.table.entryFor(question{m.classes["A"], "f/0"}).selector
	if kept != "f/0" {
		t.Fatalf("the table has %q", kept)
	}
	if unsafe.StringData(kept) == unsafe.StringData(selector) {
		t.Error("rule 7: the table keeps the text that was handed in")
	}
}
