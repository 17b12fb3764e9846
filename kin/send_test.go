package kin

import (
	"fmt"
	"math"
	"slices"
	"strings"
	"testing"
)

// sendImage is an image with A (2 slots), B and D below it, C below B, G below Int; objects 0 to 3 of A, B, C, D, object 4 of Any, object 5 of G; and methods, each as class, selector and source.
func sendImage(t *testing.T, methods ...string) *Image {
	t.Helper()
	m, _ := New(2, 8)
	addClass(t, m, "A", "Any", 2)
	addClass(t, m, "B", "A", 0)
	addClass(t, m, "C", "B", 0)
	addClass(t, m, "D", "A", 0)
	addClass(t, m, "G", "Int", 0)
	for _, class := range []string{"A", "B", "C", "D", "Any", "G"} {
		addObject(t, m, class)
	}
	for i := 0; i < len(methods); i += 3 {
		addMethod(t, m, methods[i], methods[i+1], methods[i+2])
	}
	return m
}

func checkSend(t *testing.T, m *Image, to Value, selector string, args []Value, fuel int, want Value, end int) {
	t.Helper()
	if v, how, e := m.Send(to, selector, args, fuel); v != want || how != end || e != OK {
		t.Errorf("P7: Send(%v, %q, %v, %d) = %v, %d, %d, want %v, %d", to, selector, args, fuel, v, how, e, want, end)
	}
}

// checkSource sends f/n (n the number of args) to a receiver of a class that has it with that source.
func checkSource(t *testing.T, class, source string, to Value, args []Value, want Value, end int) {
	t.Helper()
	selector := fmt.Sprint("f/", len(args))
	m := sendImage(t, class, selector, source)
	if v, how, e := m.Send(to, selector, args, 100); v != want || how != end || e != OK {
		t.Errorf("P7: %q: Send(%v, %v) = %v, %d, %d, want %v, %d", source, to, args, v, how, e, want, end)
	}
}

// P7: each word

func TestWordsThatLay(t *testing.T) {
	three := []Value{number(5), objectOf(3), number(-7)}
	for _, c := range []struct {
		source string
		to     Value
		args   []Value
		want   Value
	}{
		{"", objectOf(1), nil, objectOf(1)},
		{"  ", number(-9), nil, number(-9)},
		{"7", number(3), nil, number(3)},
		{"0 ret", number(3), nil, number(0)},
		{"-0 ret", number(3), nil, number(0)},
		{"9999 ret", number(3), nil, number(9999)},
		{"-9999 ret", objectOf(0), nil, number(-9999)},
		{"0010 ret", objectOf(0), nil, number(10)},
		{"self ret", number(math.MinInt), nil, number(math.MinInt)},
		{"self ret", objectOf(5), nil, objectOf(5)},
		{"a0 ret", objectOf(0), three, number(5)},
		{"a1 ret", objectOf(0), three, objectOf(3)},
		{"a2 ret", objectOf(0), three, number(-7)},
		{"a0 ret", objectOf(0), []Value{objectOf(0)}, objectOf(0)},
		{"1 2 pop ret", objectOf(0), nil, number(1)},
		{"3 2 dup * ret", objectOf(0), nil, number(4)},
		{"3 dup pop ret", objectOf(0), nil, number(3)},
		{"self dup = ret", objectOf(0), nil, number(1)},
		{"1 2 3 ret ret", objectOf(0), nil, number(3)},
		{"1 ret 2 ret", objectOf(0), nil, number(1)},
	} {
		checkSource(t, "Any", c.source, c.to, c.args, c.want, Told)
	}
}

func TestArithmetic(t *testing.T) {
	numbers := []int{math.MinInt, math.MinInt + 1, -(1 << 32), -3, -1, 0, 1, 2, 1 << 31, 1 << 32, 1 << 62, math.MaxInt - 1, math.MaxInt}
	m := sendImage(t, "Int", "add/1", "self a0 + ret", "Int", "sub/1", "self a0 - ret", "Int", "mul/1", "self a0 * ret", "Int", "less/1", "self a0 < ret", "Int", "same/1", "self a0 = ret")
	for _, a := range numbers {
		for _, b := range numbers {
			checkSend(t, m, number(a), "add/1", []Value{number(b)}, 4, number(int(uint64(a)+uint64(b))), Told)
			checkSend(t, m, number(a), "sub/1", []Value{number(b)}, 4, number(int(uint64(a)-uint64(b))), Told)
			checkSend(t, m, number(a), "mul/1", []Value{number(b)}, 4, number(int(uint64(a)*uint64(b))), Told)
			less, same := 0, 0
			if a < b {
				less = 1
			}
			if a == b {
				same = 1
			}
			checkSend(t, m, number(a), "less/1", []Value{number(b)}, 4, number(less), Told)
			checkSend(t, m, number(a), "same/1", []Value{number(b)}, 4, number(same), Told)
		}
	}
}

func TestNumbersWrapRound(t *testing.T) {
	m := sendImage(t, "Int", "add/1", "self a0 + ret", "Int", "sub/1", "self a0 - ret", "Int", "mul/1", "self a0 * ret")
	for _, c := range []struct {
		selector   string
		a, b, want int
	}{
		{"add/1", math.MaxInt, 1, math.MinInt},
		{"add/1", math.MinInt, -1, math.MaxInt},
		{"sub/1", math.MinInt, 1, math.MaxInt},
		{"sub/1", 0, math.MinInt, math.MinInt},
		{"mul/1", 1 << 32, 1 << 32, 0},
		{"mul/1", 1 << 32, 1 << 31, math.MinInt},
		{"mul/1", math.MinInt, -1, math.MinInt},
		{"mul/1", math.MaxInt, 2, -2},
	} {
		checkSend(t, m, number(c.a), c.selector, []Value{number(c.b)}, 4, number(c.want), Told)
	}
}

func TestObjectsAreNoNumbers(t *testing.T) {
	for _, word := range []string{"+", "-", "*", "<"} {
		checkSource(t, "Any", "a0 a1 "+word+" ret", number(1), []Value{objectOf(1), number(1)}, Value{}, Bad)
		checkSource(t, "Any", "a0 a1 "+word+" ret", number(1), []Value{number(1), objectOf(1)}, Value{}, Bad)
		checkSource(t, "Any", "a0 a1 "+word+" ret", number(1), []Value{objectOf(1), objectOf(1)}, Value{}, Bad)
		checkSource(t, "Any", "a0 a1 "+word, number(1), []Value{objectOf(0), number(0)}, Value{}, Bad)
	}
	checkSource(t, "Any", "a0 ?4 1 ret", number(1), []Value{objectOf(0)}, Value{}, Bad)
	checkSource(t, "Any", "a0 ?4 1 ret", number(1), []Value{objectOf(1)}, Value{}, Bad)
	for _, c := range []struct {
		a, b Value
		want int
	}{{objectOf(0), objectOf(0), 1}, {objectOf(0), objectOf(1), 0}, {objectOf(1), number(1), 0}, {number(0), objectOf(0), 0}} {
		checkSource(t, "Any", "a0 a1 = ret", number(1), []Value{c.a, c.b}, number(c.want), Told)
	}
}

func TestGoings(t *testing.T) {
	for _, c := range []struct {
		source string
		to     Value
		want   Value
	}{
		{">3 1 ret 2 ret", number(0), number(2)},
		{">1", number(8), number(8)},
		{">01 5 ret", number(8), number(5)},
		{"self ?4 1 ret 2 ret", number(0), number(2)},
		{"self ?4 1 ret 2 ret", number(1), number(1)},
		{"self ?4 1 ret 2 ret", number(-1), number(1)},
		{"self ?4 1 ret 2 ret", number(1 << 32), number(1)},
		{"self ?4 1 ret", number(0), number(0)},
		{"self ?2 7 ret", number(0), number(7)},
		{"1 self dup ?6 * ret pop ret", number(6), number(6)},
		{"1 self dup ?6 * ret pop ret", number(0), number(1)},
		{">4 1 + ret 5 >1", number(0), number(6)},
		{">2 ret 3 >1", number(0), number(3)},
	} {
		checkSource(t, "Int", c.source, c.to, nil, c.want, Told)
	}
}

func TestSlots(t *testing.T) {
	m := sendImage(t,
		"A", "put/1", "a0 =s1",
		"A", "get/0", "s1 ret",
		"A", "first/0", "s0 ret",
		"B", "both/2", "a0 =s0 a1 =s1 s0 s1 - ret")
	checkSend(t, m, objectOf(0), "get/0", nil, 2, number(0), Told)
	checkSend(t, m, objectOf(0), "put/1", []Value{objectOf(3)}, 2, objectOf(0), Told)
	checkSend(t, m, objectOf(0), "get/0", nil, 2, objectOf(3), Told)
	checkSend(t, m, objectOf(0), "first/0", nil, 2, number(0), Told)
	checkSend(t, m, objectOf(1), "get/0", nil, 2, number(0), Told)
	checkSend(t, m, objectOf(2), "both/2", []Value{number(9), number(4)}, 8, number(5), Told)
	for _, c := range []struct {
		object, slot int
		want         Value
	}{{0, 0, number(0)}, {0, 1, objectOf(3)}, {1, 1, number(0)}, {2, 0, number(9)}, {2, 1, number(4)}} {
		if v, e := m.Slot(c.object, c.slot); v != c.want || e != OK {
			t.Errorf("P7: Slot(%d, %d) = %v, %d, want %v", c.object, c.slot, v, e, c.want)
		}
	}
}

func TestEverySlotAndPlaceOnTheStack(t *testing.T) {
	m, _ := New(0, 1)
	addClass(t, m, "A", "Any", 10)
	addObject(t, m, "A")
	store, sum := "", "0"
	for i := range 10 {
		store += fmt.Sprintf("%d =s%d ", 1<<i, i)
		sum += fmt.Sprintf(" s%d", i)
	}
	addMethod(t, m, "A", "store/0", store)
	addMethod(t, m, "A", "sum/0", sum+strings.Repeat(" +", 10)+" ret")
	addMethod(t, m, "A", "deep/0", "1 "+strings.Repeat("dup ", 15)+strings.Repeat("+ ", 15)+"ret")
	checkSend(t, m, objectOf(0), "store/0", nil, 20, objectOf(0), Told)
	checkSend(t, m, objectOf(0), "sum/0", nil, 22, number(1023), Told)
	checkSend(t, m, objectOf(0), "deep/0", nil, 32, number(16), Told)
}

// P7: sends and what they find

func TestSendWord(t *testing.T) {
	digits := []string{"Int", "f/3", "self 10 * a0 + 10 * a1 + 10 * a2 + ret", "Int", "f/2", "self 10 * a0 + 10 * a1 + ret", "Int", "f/1", "self 10 * a0 + ret", "Int", "f/0", "self 1000 * ret"}
	for _, c := range []struct {
		source string
		want   Value
	}{
		{"1 2 3 4 f/3 ret", number(1234)},
		{"9 1 2 3 f/2 - ret", number(9 - 123)},
		{"9 1 2 f/1 - ret", number(9 - 12)},
		{"9 1 f/0 - ret", number(9 - 1000)},
		{"1 2 3 f/1 f/1 ret", number(33)},
		{"1 f/0", objectOf(1)},
	} {
		m := sendImage(t, append(digits, "A", "go/0", c.source)...)
		checkSend(t, m, objectOf(1), "go/0", nil, 99, c.want, Told)
	}
	m := sendImage(t, digits...)
	checkSend(t, m, number(1), "f/3", []Value{number(2), number(3), number(4)}, 99, number(1234), Told)
	checkSend(t, m, number(1), "f/0", nil, 99, number(1000), Told)
}

func TestFinding(t *testing.T) {
	m := sendImage(t,
		"Any", "f/0", "1 ret", "A", "f/0", "2 ret", "C", "f/0", "3 ret", "Int", "f/0", "4 ret", "A", "f/1", "5 ret",
		"B", "g/0", "6 ret", "Any", "h/0", "self f/0 ret")
	for _, c := range []struct {
		to       Value
		selector string
		args     []Value
		want     Value
		end      int
	}{
		{objectOf(0), "f/0", nil, number(2), Told},
		{objectOf(1), "f/0", nil, number(2), Told},
		{objectOf(2), "f/0", nil, number(3), Told},
		{objectOf(3), "f/0", nil, number(2), Told},
		{objectOf(4), "f/0", nil, number(1), Told},
		{objectOf(5), "f/0", nil, number(4), Told},
		{number(0), "f/0", nil, number(4), Told},
		{objectOf(0), "f/1", []Value{{}}, number(5), Told},
		{objectOf(4), "f/1", []Value{{}}, Value{}, Lost},
		{number(0), "f/1", []Value{{}}, Value{}, Lost},
		{objectOf(0), "g/0", nil, Value{}, Lost},
		{objectOf(1), "g/0", nil, number(6), Told},
		{objectOf(2), "g/0", nil, number(6), Told},
		{objectOf(3), "g/0", nil, Value{}, Lost},
		{objectOf(2), "h/0", nil, number(3), Told},
		{objectOf(3), "h/0", nil, number(2), Told},
		{number(7), "h/0", nil, number(4), Told},
	} {
		checkSend(t, m, c.to, c.selector, c.args, 9, c.want, c.end)
	}
}

func TestSendFromAbove(t *testing.T) {
	for _, c := range []struct {
		methods []string
		to      Value
		want    Value
		end     int
	}{
		// each looks above the class in which the one that sends was found, not above that of self
		{[]string{"Any", "f/0", "1 ret", "A", "f/0", "^f/0 10 * 2 + ret", "B", "f/0", "^f/0 10 * 3 + ret", "C", "f/0", "^f/0 10 * 4 + ret"}, objectOf(2), number(1234), Told},
		{[]string{"Any", "f/0", "1 ret", "A", "f/0", "^f/0 10 * 2 + ret", "B", "f/0", "^f/0 10 * 3 + ret"}, objectOf(2), number(123), Told},
		{[]string{"Any", "f/0", "1 ret", "B", "f/0", "^f/0 10 * 3 + ret"}, objectOf(1), number(13), Told},
		// self stays, and what it sends to self is looked for from its class on
		{[]string{"A", "g/0", "self ret", "B", "f/0", "^g/0 ret"}, objectOf(2), objectOf(2), Told},
		{[]string{"A", "g/0", "self h/0 ret", "A", "h/0", "1 ret", "C", "h/0", "2 ret", "B", "f/0", "^g/0 ret"}, objectOf(2), number(2), Told},
		// what only the class itself, or one below, has is not found
		{[]string{"B", "f/0", "^g/0 ret", "B", "g/0", "1 ret", "C", "g/0", "1 ret"}, objectOf(2), Value{}, Lost},
		{[]string{"Any", "f/0", "^f/0 ret"}, objectOf(2), Value{}, Lost},
		{[]string{"Any", "f/0", "^g/0 ret", "Any", "g/0", "1 ret", "Any", "dnu/1", "2 ret"}, objectOf(2), Value{}, Lost},
		{[]string{"Int", "f/0", "^g/0 ret", "Any", "g/0", "self 1 + ret"}, number(5), number(6), Told},
		// it takes its arguments alone
		{[]string{"A", "f/2", "a0 a1 - ret", "B", "f/0", "7 9 4 ^f/2 * ret"}, objectOf(1), number(35), Told},
		{[]string{"A", "f/3", "a0 10 * a1 + 10 * a2 + ret", "B", "f/0", "1 2 3 ^f/3 ret"}, objectOf(1), number(123), Told},
		// dnu/1 is looked for from above, too
		{[]string{"A", "dnu/1", "a0 5 + ret", "B", "dnu/1", "9 ret", "B", "f/0", "1 2 ^g/2 ret"}, objectOf(2), number(7), Told},
		{[]string{"B", "dnu/1", "9 ret", "B", "f/0", "^g/0 ret"}, objectOf(2), Value{}, Lost},
	} {
		m := sendImage(t, c.methods...)
		if v, end, e := m.Send(c.to, "f/0", nil, 99); v != c.want || end != c.end || e != OK {
			t.Errorf("P7: %q: Send(%v) = %v, %d, %d, want %v, %d", c.methods, c.to, v, end, e, c.want, c.end)
		}
	}
}

func TestWhatNothingFinds(t *testing.T) {
	two := []Value{objectOf(1), number(8)}
	for _, c := range []struct {
		methods  []string
		to       Value
		selector string
		args     []Value
		want     Value
		end      int
	}{
		{nil, objectOf(0), "f/0", nil, Value{}, Lost},
		{nil, number(0), "dnu/1", []Value{{}}, Value{}, Lost},
		{[]string{"A", "dnu/1", "a0 ret"}, objectOf(0), "f/0", nil, number(0), Told},
		{[]string{"A", "dnu/1", "a0 ret"}, objectOf(0), "f/1", two[:1], number(1), Told},
		{[]string{"A", "dnu/1", "a0 ret"}, objectOf(0), "f/2", two, number(2), Told},
		{[]string{"A", "dnu/1", "a0 ret"}, objectOf(0), "dnu/1", two[:1], objectOf(1), Told},
		{[]string{"A", "dnu/1", "a0 ret"}, objectOf(0), "dnu/0", nil, number(0), Told},
		{[]string{"A", "dnu/1", "self ret"}, objectOf(3), "f/2", two, objectOf(3), Told},
		{[]string{"A", "dnu/1", "1 ret", "C", "dnu/1", "2 ret"}, objectOf(2), "f/0", nil, number(2), Told},
		{[]string{"A", "dnu/1", "1 ret", "C", "dnu/1", "2 ret"}, objectOf(1), "f/0", nil, number(1), Told},
		{[]string{"A", "dnu/1", "1 ret"}, objectOf(4), "f/0", nil, Value{}, Lost},
		// its class is the one in which dnu/1 was found
		{[]string{"A", "dnu/1", "^g/0 ret", "Any", "g/0", "1 ret", "A", "g/0", "2 ret", "B", "g/0", "3 ret"}, objectOf(2), "f/0", nil, number(1), Told},
		// a method wins over a nearer dnu/1
		{[]string{"C", "dnu/1", "1 ret", "Any", "f/0", "2 ret"}, objectOf(2), "f/0", nil, number(2), Told},
		// inside
		{[]string{"A", "f/0", "100 5 6 7 g/2 - ret", "Int", "dnu/1", "self 10 * a0 + ret"}, objectOf(0), "f/0", nil, number(100 - 52), Told},
		{[]string{"A", "f/0", "100 5 6 7 g/2 - ret"}, objectOf(0), "f/0", nil, Value{}, Lost},
		{[]string{"A", "dnu/1", "self g/0 ret"}, objectOf(0), "f/0", nil, Value{}, Deep},
	} {
		m := sendImage(t, c.methods...)
		if v, end, e := m.Send(c.to, c.selector, c.args, 99); v != c.want || end != c.end || e != OK {
			t.Errorf("P7: %q: Send(%v, %q, %v) = %v, %d, %d, want %v, %d", c.methods, c.to, c.selector, c.args, v, end, e, c.want, c.end)
		}
	}
}

// P7: the ends

func TestSpent(t *testing.T) {
	loop := "self ?7 self 1 - f/0 ret 7 ret" // seven words, the last one when it is told, and at the bottom four
	m := sendImage(t, "Int", "f/0", loop, "Any", "e/0", "", "Any", "on/0", ">0", "A", "w/0", "1 =s0 2 =s1")
	for n := range 31 {
		words := 7*n + 4
		checkSend(t, m, number(n), "f/0", nil, words, number(7), Told)
		checkSend(t, m, number(n), "f/0", nil, words-1, Value{}, Spent)
		checkSend(t, m, number(n), "f/0", nil, 0, Value{}, Spent)
	}
	checkSend(t, m, number(4), "e/0", nil, 0, number(4), Told)
	checkSend(t, m, number(4), "none/0", nil, 0, Value{}, Lost)
	checkSend(t, m, objectOf(4), "on/0", nil, 3000, Value{}, Spent)
	for fuel := range 5 {
		checkSend(t, m, objectOf(fuel%4), "w/0", nil, fuel, []Value{{}, {}, {}, {}, objectOf(0)}[fuel], []int{Spent, Spent, Spent, Spent, Told}[fuel])
	}
	// what was done till then stays
	for object, want := range [][2]Value{{number(1), number(2)}, {}, {number(1), {}}, {number(1), {}}} {
		for slot := range 2 {
			if v, _ := m.Slot(object, slot); v != want[slot] {
				t.Errorf("P7: Slot(%d, %d) = %v, want %v", object, slot, v, want[slot])
			}
		}
	}
}

func TestMaxFuel(t *testing.T) {
	// seven words a round, and eleven more
	m := sendImage(t, "A", "f/1", ">1 >2 >3 >4 >5 a0 =s0 s0 ?13 s0 1 - >6 s0 ret")
	for _, c := range []struct{ n, fuel, end int }{{427, 3000, Told}, {427, 2999, Spent}, {428, 3000, Spent}, {0, 11, Told}, {0, 10, Spent}, {1, 18, Told}, {1, 17, Spent}} {
		checkSend(t, m, objectOf(0), "f/1", []Value{number(c.n)}, c.fuel, Value{}, c.end)
	}
}

func TestDeep(t *testing.T) {
	for _, c := range []struct {
		methods []string
		n       int
		want    Value
		end     int
	}{
		{[]string{"Int", "f/0", "self ?7 self 1 - f/0 ret 5 ret"}, 31, number(5), Told},
		{[]string{"Int", "f/0", "self ?7 self 1 - f/0 ret 5 ret"}, 32, Value{}, Deep},
		{[]string{"Int", "f/0", "self ?7 self 1 - f/0 ret 5 ret"}, 3000, Value{}, Deep},
		{[]string{"Int", "f/0", "self ?7 self 1 - f/0 ret 5 g/0 ret", "Any", "g/0", "6 ret"}, 30, number(6), Told},
		{[]string{"Int", "f/0", "self ?7 self 1 - f/0 ret 5 g/0 ret", "Any", "g/0", "6 ret"}, 31, Value{}, Deep},
		{[]string{"Int", "f/0", "self ?7 self 1 - f/0 ret 5 g/0 ret", "Any", "g/0", ""}, 31, Value{}, Deep},
		{[]string{"Int", "f/0", "self ?7 self 1 - f/0 ret ^g/0 ret", "Any", "g/0", ""}, 31, Value{}, Deep},
		{[]string{"Int", "f/0", "self ?7 self 1 - f/0 ret 5 g/0 ret", "Any", "dnu/1", ""}, 31, Value{}, Deep},
		{[]string{"Int", "f/0", "self ?7 self 1 - f/0 ret 5 g/0 ret", "Any", "dnu/1", ""}, 30, number(5), Told},
		// where nothing is found, it is lost, however deep
		{[]string{"Int", "f/0", "self ?7 self 1 - f/0 ret 5 g/0 ret"}, 31, Value{}, Lost},
		{[]string{"Int", "f/0", "self ?7 self 1 - f/0 ret ^g/0 ret"}, 31, Value{}, Lost},
		// what has told runs no more
		{[]string{"Int", "f/0", "self ?7 self 1 - f/0 ret 5 g/0 g/0 g/0 ret", "Any", "g/0", "self 1 + ret"}, 30, number(8), Told},
	} {
		m := sendImage(t, c.methods...)
		if v, end, e := m.Send(number(c.n), "f/0", nil, 3000); v != c.want || end != c.end || e != OK {
			t.Errorf("P7: %q: Send(%d) = %v, %d, %d, want %v, %d", c.methods, c.n, v, end, e, c.want, c.end)
		}
	}
	// each sending from outside starts anew, whatever the one before ended by
	m := sendImage(t, "Int", "f/0", "self ?7 self 1 - f/0 ret 5 ret")
	for range 3 {
		checkSend(t, m, number(40), "f/0", nil, 3000, Value{}, Deep)
		checkSend(t, m, number(31), "f/0", nil, 9, Value{}, Spent)
		checkSend(t, m, number(31), "f/0", nil, 3000, number(5), Told)
	}
}

func TestBad(t *testing.T) {
	for _, source := range []string{
		"new:Int", "new:Z", "self be:Z", "self be:Int", "self be:Any", "1 be:A", "0 be:A", "1 be:Z",
		"drop:A.x/0", "drop:Z.f/0", "drop:B.f/0", "drop:Any.f/0",
		"move:A.B", "move:A.A", "move:A.C", "move:Z.A", "move:A.Z", "move:Any.A", "move:Int.Any", "move:B.Any",
		"copy:A.x/0.B", "copy:Z.f/0.B", "copy:A.f/0.Z", "copy:B.f/0.A", "copy:A.s/0.Any", "copy:A.s/0.G",
	} {
		m := sendImage(t, "A", "f/0", "5 =s0 "+source+" 6 =s0", "A", "s/0", "s0 ret")
		checkSend(t, m, objectOf(0), "f/0", nil, 99, Value{}, Bad)
		if v, _ := m.Slot(0, 0); v != number(5) {
			t.Errorf("P7: %q: the slot holds %v: what was done till then stays, and no more is done", source, v)
		}
	}
	// with objects enough
	m := sendImage(t, "Any", "f/0", "new:A ret")
	for i := 6; i < 40; i++ {
		checkSend(t, m, number(1), "f/0", nil, 99, objectOf(i), Told)
	}
	checkSend(t, m, number(1), "f/0", nil, 99, Value{}, Bad)
	if _, e := m.Of(40); e != ErrNone {
		t.Errorf("P7: there are 41 objects: %d", e)
	}
}

// P7: changes by methods that run

func TestNewAndBe(t *testing.T) {
	m := sendImage(t, "A", "new/0", "new:C ret", "A", "be/0", "self be:D ret", "A", "put/0", "self =s0 s0 be:B g/0 ret",
		"A", "g/0", "1 ret", "B", "g/0", "2 ret", "D", "g/0", "3 ret", "Any", "any/0", "new:Any be:G ret")
	checkSend(t, m, objectOf(0), "new/0", nil, 9, objectOf(6), Told)
	checkSend(t, m, objectOf(6), "be/0", nil, 9, objectOf(6), Told)
	checkSend(t, m, objectOf(6), "g/0", nil, 9, number(3), Told)
	checkSend(t, m, objectOf(0), "put/0", nil, 9, number(2), Told)
	checkSend(t, m, number(0), "any/0", nil, 9, objectOf(7), Told)
	for object, want := range []string{"B", "B", "C", "D", "Any", "G", "D", "G"} {
		if of, e := m.Of(object); of != want || e != OK {
			t.Errorf("P7: Of(%d) = %q, %d, want %q", object, of, e, want)
		}
	}
	if v, e := m.Slot(6, 1); v != (Value{}) || e != OK {
		t.Errorf("P7: a slot of a new object: %v, %d", v, e)
	}
}

func TestMethodRunsOn(t *testing.T) {
	for _, c := range []struct {
		name    string
		methods []string
		want    Value
		end     int
	}{
		{"taken away", []string{"A", "f/0", "drop:A.f/0 1 2 + ret"}, number(3), Told},
		{"taken away, and sent again", []string{"A", "f/0", "drop:A.f/0 self f/0 ret"}, Value{}, Lost},
		{"taken away, the one above is sent", []string{"A", "f/0", "drop:A.f/0 self f/0 10 * 1 + ret", "Any", "f/0", "7 ret"}, number(71), Told},
		{"taken away, its class stays", []string{"A", "f/0", "drop:A.f/0 ^f/0 10 * 1 + ret", "Any", "f/0", "7 ret"}, number(71), Told},
		{"taken away by one that it sent", []string{"A", "f/0", "self g/0 pop 4 ret", "A", "g/0", "drop:A.f/0 drop:A.g/0"}, number(4), Told},
		{"another one", []string{"A", "f/0", "copy:D.f/0.A 4 ret", "D", "f/0", "5 ret"}, number(4), Told},
		{"another one, and sent again", []string{"A", "f/0", "copy:D.f/0.A self f/0 ret", "D", "f/0", "5 ret"}, number(5), Told},
		{"another one, by one that it sent", []string{"A", "f/0", "self g/0 pop 4 ret", "A", "g/0", "copy:D.f/0.A", "D", "f/0", "5 ret"}, number(4), Told},
		{"a copy's class is the one that it was found in", []string{"A", "f/0", "copy:A.g/0.B self g/0 ret", "A", "g/0", "^h/0 ret", "A", "h/0", "1 ret", "Any", "h/0", "2 ret"}, number(1), Told},
		{"moved, so that the class above is another one", []string{"B", "f/0", "^g/0 move:B.D ^g/0 10 * + ret", "A", "g/0", "1 ret", "D", "g/0", "2 ret"}, number(21), Told},
		{"moved, what self sends is found elsewhere", []string{"B", "f/0", "self g/0 move:B.D self g/0 10 * + ret", "A", "g/0", "1 ret", "D", "g/0", "2 ret"}, number(21), Told},
		{"self of another class, the running method's class stays", []string{"B", "f/0", "self be:D pop ^g/0 self g/0 10 * + ret", "A", "g/0", "1 ret", "D", "g/0", "2 ret"}, number(21), Told},
		{"a copy hides the one above", []string{"A", "f/0", "self g/0 copy:D.g/0.B self g/0 10 * + ret", "A", "g/0", "1 ret", "D", "g/0", "2 ret"}, number(21), Told},
		{"dnu/1 by a copy", []string{"A", "f/0", "copy:D.dnu/1.A self 1 2 g/2 ret", "D", "dnu/1", "a0 5 + ret"}, number(7), Told},
		{"dnu/1 taken away", []string{"A", "f/0", "drop:A.dnu/1 self g/0 ret", "A", "dnu/1", "1 ret"}, Value{}, Lost},
	} {
		m := sendImage(t, c.methods...)
		if v, end, e := m.Send(objectOf(1), "f/0", nil, 99); v != c.want || end != c.end || e != OK {
			t.Errorf("P7: %s: %q: %v, %d, %d, want %v, %d", c.name, c.methods, v, end, e, c.want, c.end)
		}
	}
}

func TestChangesStay(t *testing.T) {
	m := sendImage(t, "A", "f/0", "drop:A.g/0 copy:A.h/0.D move:C.D self be:C new:B drop:A.x/0", "A", "g/0", "", "A", "h/0", "")
	checkSend(t, m, objectOf(0), "f/0", nil, 99, Value{}, Bad)
	if hasMethod(m, "A", "g/0") || !hasMethod(m, "D", "h/0") || m.Move("D", "C") != ErrRing {
		t.Errorf("P7: what was done till then is not there:\n%s", state(m))
	}
	if of, _ := m.Of(0); of != "C" {
		t.Errorf("P7: Of(0) = %q, want C", of)
	}
	if of, _ := m.Of(6); of != "B" {
		t.Errorf("P7: Of(6) = %q, want B", of)
	}
}

func TestChangesFromOutside(t *testing.T) {
	m := sendImage(t, "A", "f/0", "self g/0 ret", "A", "g/0", "1 ret", "D", "g/0", "2 ret")
	check := func(object int, want Value, end int) {
		t.Helper()
		checkSend(t, m, objectOf(object), "f/0", nil, 9, want, end)
	}
	check(2, number(1), Told)
	addMethod(t, m, "B", "g/0", "3 ret")
	check(2, number(3), Told)
	addMethod(t, m, "B", "g/0", "4 ret")
	check(2, number(4), Told)
	m.Move("C", "D")
	check(2, number(2), Told)
	m.Drop("D", "g/0")
	check(2, number(1), Told)
	m.Be(2, "B")
	check(2, number(4), Told)
	m.Copy("A", "g/0", "B")
	check(2, number(1), Told)
	m.Flush("")
	m.Flush("g/0")
	check(2, number(1), Told)
	m.Drop("B", "g/0")
	m.Drop("A", "g/0")
	check(2, Value{}, Lost)
	addMethod(t, m, "Any", "dnu/1", "self ret")
	check(2, objectOf(2), Told)
	addMethod(t, m, "Any", "g/0", "8 ret")
	check(2, number(8), Told)
}

// P7: what is refused

func TestSendErrors(t *testing.T) {
	m := sendImage(t, "Any", "f/0", "new:A ret", "Any", "f/1", "new:A ret", "Any", "f/3", "new:A ret", "Any", "dnu/1", "new:A ret")
	long := make([]Value, 1<<20)
	before := state(m)
	for _, c := range []struct {
		to       Value
		selector string
		args     []Value
		fuel     int
		want     Errno
	}{
		{number(1), "", nil, 9, ErrArg}, {number(1), "f", nil, 9, ErrArg}, {number(1), "f/", nil, 9, ErrArg}, {number(1), "f/4", long[:4], 9, ErrArg}, {number(1), "F/0", nil, 9, ErrArg}, {number(1), "f/0 ", nil, 9, ErrArg}, {number(1), "^f/0", nil, 9, ErrArg}, {number(1), "/0", nil, 9, ErrArg}, {number(1), "abcdefg/0", nil, 9, ErrArg}, {number(1), "f/00", nil, 9, ErrArg}, {number(1), strings.Repeat("f", 1<<20) + "/0", nil, 9, ErrArg},
		{number(1), "f/0", long[:1], 9, ErrArg}, {number(1), "f/1", nil, 9, ErrArg}, {number(1), "f/1", long[:2], 9, ErrArg}, {number(1), "f/3", long[:2], 9, ErrArg}, {number(1), "f/3", long[:4], 9, ErrArg}, {number(1), "f/3", long, 9, ErrArg},
		{number(1), "f/0", nil, -1, ErrArg}, {number(1), "f/0", nil, 3001, ErrArg}, {number(1), "f/0", nil, math.MinInt, ErrArg}, {number(1), "f/0", nil, math.MaxInt, ErrArg},
		{objectOf(6), "f", nil, 9, ErrArg}, {objectOf(6), "f/1", nil, 9, ErrArg}, {objectOf(6), "f/0", nil, -1, ErrArg},
		{objectOf(6), "f/0", nil, 9, ErrNone}, {objectOf(-1), "f/0", nil, 9, ErrNone}, {objectOf(math.MaxInt), "f/0", nil, 9, ErrNone}, {objectOf(math.MinInt), "f/0", nil, 9, ErrNone}, {objectOf(6), "none/0", nil, 9, ErrNone},
		{number(1), "f/1", []Value{objectOf(6)}, 9, ErrNone}, {number(1), "f/3", []Value{objectOf(5), number(6), objectOf(-1)}, 9, ErrNone}, {number(1), "f/3", []Value{objectOf(5), objectOf(40), objectOf(5)}, 9, ErrNone}, {objectOf(6), "f/1", []Value{objectOf(6)}, 0, ErrNone},
	} {
		if v, end, e := m.Send(c.to, c.selector, c.args, c.fuel); v != (Value{}) || end != 0 || e != c.want {
			t.Errorf("P7: Send(%v, %.20q, %d values, %d) = %v, %d, %d, want %d", c.to, c.selector, len(c.args), c.fuel, v, end, e, c.want)
		}
	}
	if after := state(m); after != before {
		t.Errorf("P1: refused calls have changed\n%s to\n%s", before, after)
	}
	checkSend(t, m, number(6), "f/3", []Value{number(6), number(-1), objectOf(5)}, 2, objectOf(6), Told)
}

func TestArgumentsAreNotChanged(t *testing.T) {
	m := sendImage(t, "A", "f/3", "1 2 3 self 7 8 9 g/3 ret", "A", "g/3", "a0 =s0 a2 ret", "A", "dnu/1", "a0 ret", "A", "r/3", "a2 a1 a0 pop pop ret")
	room := []Value{number(1), objectOf(2), number(3), number(4)}
	args := room[:3]
	for _, selector := range []string{"f/3", "r/3", "none/3"} {
		m.Send(objectOf(0), selector, args, 99)
		if !slices.Equal(room, []Value{number(1), objectOf(2), number(3), number(4)}) {
			t.Errorf("P1: %s has changed the list to %v", selector, room)
		}
	}
	addMethod(t, m, "A", "keep/3", "a1 =s1")
	m.Send(objectOf(0), "keep/3", args, 99)
	args[1] = number(99)
	if v, _ := m.Slot(0, 1); v != objectOf(2) {
		t.Errorf("P1: the image holds on to the list: %v", v)
	}
}

// P8

func TestSendsCounts(t *testing.T) {
	for _, c := range []struct {
		methods  []string
		to       Value
		selector string
		args     []Value
		want     int
	}{
		{[]string{"A", "f/0", "1 ret"}, objectOf(0), "f/0", nil, 1},
		{[]string{"Any", "f/0", "1 ret"}, objectOf(2), "f/0", nil, 1},
		{nil, objectOf(0), "f/0", nil, 2},
		{nil, objectOf(0), "dnu/1", []Value{{}}, 2},
		{[]string{"Any", "dnu/1", ""}, objectOf(0), "dnu/1", []Value{{}}, 1},
		{[]string{"Any", "dnu/1", ""}, objectOf(0), "f/0", nil, 2},
		{[]string{"A", "f/0", "self g/0 g/0", "Any", "g/0", ""}, objectOf(0), "f/0", nil, 3},
		{[]string{"A", "f/0", "self g/0 h/0", "Any", "g/0", ""}, objectOf(0), "f/0", nil, 4},
		{[]string{"A", "f/0", "^g/0", "Any", "g/0", ""}, objectOf(0), "f/0", nil, 2},
		{[]string{"A", "f/0", "^g/0"}, objectOf(0), "f/0", nil, 3},
		// no class above to look from
		{[]string{"Any", "f/0", "^g/0"}, objectOf(0), "f/0", nil, 3},
		// what is found too deep was looked for, what is not come to was not
		{[]string{"Any", "f/0", "self f/0"}, objectOf(0), "f/0", nil, 33},
		{[]string{"Any", "f/0", "1 1 1 1 1 1 1 1 1 self f/0"}, objectOf(0), "f/0", nil, 10},
		{[]string{"Any", "f/0", "self drop:A.x/0 f/0"}, objectOf(0), "f/0", nil, 1},
		// other words are no sends
		{[]string{"A", "f/0", "new:A be:B copy:A.f/0.B move:C.D drop:B.f/0 1 ret"}, objectOf(0), "f/0", nil, 1},
	} {
		m := sendImage(t, c.methods...)
		if looks, climbs := m.Sends(); looks != 0 || climbs != 0 {
			t.Errorf("P8: of a new image: Sends() = %d, %d", looks, climbs)
		}
		for round := 1; round < 4; round++ {
			m.Send(c.to, c.selector, c.args, 100)
			if looks, climbs := m.Sends(); looks != c.want*round || climbs < 1 || climbs > looks {
				t.Errorf("P8: %q, %q, round %d: Sends() = %d, %d, want %d", c.methods, c.selector, round, looks, climbs, c.want*round)
			}
		}
	}
}

func TestSendsAreOfOneImage(t *testing.T) {
	one, other := sendImage(t, "Any", "f/0", ""), sendImage(t, "Any", "f/0", "")
	one.Send(objectOf(0), "f/0", nil, 0)
	one.Send(objectOf(0), "f/0", nil, 0)
	other.Send(objectOf(0), "f/0", nil, 0)
	if a, _ := one.Sends(); a != 2 {
		t.Errorf("P8: Sends() = %d, want 2", a)
	}
	if a, _ := other.Sends(); a != 1 {
		t.Errorf("P8: Sends() = %d, want 1", a)
	}
	before := state(one)
	one.Sends()
	one.Send(objectOf(0), "f", nil, 0)
	one.Send(objectOf(9), "f/0", nil, 0)
	one.Flush("f/0")
	if after := state(one); after != before {
		t.Errorf("P8: other calls count:\n%s became\n%s", before, after)
	}
}
