package kin

import (
	"fmt"
	"math/rand/v2"
	"reflect"
	"regexp"
	"strings"
	"testing"
)

// checkMethod holds Method's answer against what it should be, and what it left against what was there.
func checkMethod(t *testing.T, m *Image, class, selector, source string, want Errno, place int) {
	t.Helper()
	before := state(m)
	e, at := m.Method(class, selector, source)
	if e != want || at != place {
		t.Errorf("P4: Method(%q, %.20q, %.130q) = %d, %d, want %d, %d", class, selector, source, e, at, want, place)
	}
	if after := state(m); e != OK && after != before {
		t.Errorf("P1: Method(%q, %.20q, %.130q) = %d has changed\n%s to\n%s", class, selector, source, e, before, after)
	}
}

func TestMethodNames(t *testing.T) {
	m := newImage(t)
	for _, c := range []struct {
		class, selector, source string
		want                    Errno
	}{
		{"Z", "f/0", "1 ret", ErrName},
		{"", "f/0", "1 ret", ErrName},
		{"Z", "wrong", "wrong", ErrName},
		{"a", "f/0", "1 ret", ErrName},
		{"A", "", "1 ret", ErrArg},
		{"A", "f", "1 ret", ErrArg},
		{"A", "/0", "1 ret", ErrArg},
		{"A", "f/", "1 ret", ErrArg},
		{"A", "f0", "1 ret", ErrArg},
		{"A", "f/4", "1 ret", ErrArg},
		{"A", "f/9", "1 ret", ErrArg},
		{"A", "f/-1", "1 ret", ErrArg},
		{"A", "f/00", "1 ret", ErrArg},
		{"A", "abcdefg/0", "1 ret", ErrArg},
		{"A", "F/0", "1 ret", ErrArg},
		{"A", "f1/0", "1 ret", ErrArg},
		{"A", " f/0", "1 ret", ErrArg},
		{"A", "f/0 ", "1 ret", ErrArg},
		{"A", "{/0", "1 ret", ErrArg},
		{"A", "`/0", "1 ret", ErrArg},
		{"A", "ä/0", "1 ret", ErrArg},
		{"A", "wrong", "wrong", ErrArg},
		{"A", strings.Repeat("a", 1<<20) + "/0", "1 ret", ErrArg},
		{"A", "f/0", "1 ret", OK},
		{"A", "abcdef/3", "1 ret", OK},
		{"A", "az/1", "1 ret", OK},
		{"A", "self/2", "1 ret", OK},
		{"Any", "f/0", "1 ret", OK},
		{"Int", "f/0", "1 ret", OK},
	} {
		checkMethod(t, m, c.class, c.selector, c.source, c.want, 0)
		if c.want == OK && !hasMethod(m, c.class, c.selector) {
			t.Errorf("P4: %q has no %q", c.class, c.selector)
		}
	}
}

func TestMethodText(t *testing.T) {
	m := newImage(t)
	ones := strings.Repeat("1 pop ", 20)
	for _, c := range []struct {
		source string
		want   Errno
		place  int
	}{
		{"", OK, 0},
		{" ", OK, 0},
		{"  1   ret  ", OK, 0},
		{strings.Repeat(" ", 120), OK, 0},
		{strings.Repeat(" ", 121), ErrText, 0},
		{"x" + strings.Repeat(" ", 120), ErrText, 0},
		{" x" + strings.Repeat(" ", 119), ErrText, 0},
		{" x" + strings.Repeat(" ", 118), ErrText, 1},
		{strings.Repeat("1 ret ", 1<<20), ErrText, 0},
		{strings.Repeat(" ", 116) + "self", OK, 0},
		{strings.TrimSpace(ones), OK, 0}, // 40 words
		{ones, OK, 0},
		{strings.Repeat("1 ", 40) + "1", ErrText, 80},
		{strings.Repeat("1 ", 40) + "   x", ErrText, 83},
		{strings.Repeat("1 ", 40) + "1 x", ErrText, 80},
		{strings.Repeat("1 ", 39) + "x 1", ErrText, 78},
		{"1 x 2 y", ErrText, 2},
		{"  x", ErrText, 2},
		{"1\t2", ErrText, 0},
		{"1 \n", ErrText, 2},
		{"1 \x00", ErrText, 2},
		{"1 \xff", ErrText, 2},
		{"1 \u00a0", ErrText, 2},
		// a wrong word counts more than what the right ones do
		{"pop a0 s9 >40 x", ErrText, 14},
		{"pop a0 s9 >40 " + strings.Repeat("+ ", 37), ErrText, 86},
	} {
		checkMethod(t, m, "A", "f/0", c.source, c.want, c.place)
	}
}

// allWords are words of every kind.
var allWords = []string{
	"0", "9", "0000", "9999", "-1", "-0", "-9999", "self", "a0", "a1", "a2", "s0", "s9", "=s0", "=s9",
	"+", "-", "*", "<", "=", "pop", "dup", ">0", ">00", ">07", ">40", "?0", "?00", "?39", "?1",
	"f/0", "f/1", "f/2", "f/3", "abcdef/0", "a/0", "s/1", "self/0", "new/0", "^f/0", "^f/3", "^abcdef/2", "^self/1",
	"new:A", "new:Abcdef", "be:A", "be:Zzzzzz", "drop:A.f/0", "drop:Abcdef.abcdef/3", "move:A.B", "move:Abcdef.Zzzzzz", "copy:A.f/0.B", "copy:Abcdef.abcdef/3.Zzzzzz", "ret",
}

// wrongWords look like words and are none.
var wrongWords = []string{
	"12345", "-12345", "--1", "+1", "1-", "1a", "Self", "selfs", "sel", "self:", "self:A", "a", "a3", "a9", "a00", "a-1", "aa0", "s", "s10", "s00", "sa", "=s", "=s10", "=a0", "=s/0", "==", "=1",
	"++", "-+", "**", "<1", ">", ">a", ">-1", ">000", ">100", "?", "?-1", "?100", "?x", ">?1", "pops", "po", "dupe", "du",
	"f/", "/0", "f/4", "f/00", "abcdefg/0", "F/0", "f1/0", "f/0/0", "f.0", "^", "^^f/0", "^f", "^f/", "^f/4", "^/0", "^F/0", "^abcdefg/0", "^self", "^1",
	"new", "new:", "new:a", "new:A.", "new:A.B", "new:A.f/0", "new:Abcdefg", "new:AB", "New:A", "be", "be:", "be:a", "be:A.B",
	"drop:", "drop:A", "drop:A.", "drop:A.f", "drop:A.f/4", "drop:A.B", "drop:f/0", "drop:A.f/0.B", "drop:A/f/0", "drop:.f/0", "drop:A..f/0",
	"move:", "move:A", "move:A.", "move:A.f/0", "move:A.b", "move:A.B.C", "move:A.Abcdefg", "move:.B",
	"copy:", "copy:A", "copy:A.", "copy:A.f/0", "copy:A.f/0.", "copy:A.f/0.b", "copy:A.B.f/0", "copy:A.B", "copy:A.f/0.B.C", "copy:A.f/0.f/0", "copy:A.f/0B",
	"ret1", "re", "rets", "ret.", ".", ":", "/", "A", "Any", "a:A", "s:A", "x:A", "drops:A.f/0", "anew:A", ":A", "!", "ä", "\x00", "\xff", "1,2", "1\t",
}

func TestWords(t *testing.T) {
	addClassWith10 := func() *Image {
		m, _ := New(0, 1)
		addClass(t, m, "A", "Any", 10)
		return m
	}
	for _, w := range allWords {
		// behind 'self ret' no word is ever come to, and 38 more make all places right
		source := "self ret " + w + strings.Repeat(" *", 37)
		checkMethod(t, addClassWith10(), "A", "f/3", source, OK, 0)
	}
	for _, w := range wrongWords {
		checkMethod(t, addClassWith10(), "A", "f/3", "self ret "+w, ErrText, 9)
		checkMethod(t, addClassWith10(), "A", "f/3", w+" ret", ErrText, 0)
	}
}

func TestWordsMean(t *testing.T) {
	source := " -12 0034 a1 s2 =s3 + - * < = pop dup"
	more := ">07 ?9 be/2 ^f/3 new:Ab be:B drop:C.f/1 move:D.E copy:F.g/2.G self ret"
	want := []word{
		{kind: numberWord, n: -12}, {kind: numberWord, n: 34}, {kind: argumentWord, n: 1}, {kind: slotWord, n: 2}, {kind: storeWord, n: 3},
		{kind: addWord}, {kind: subtractWord}, {kind: multiplyWord}, {kind: lessWord}, {kind: sameWord}, {kind: popWord}, {kind: dupWord},
		{kind: goWord, n: 7}, {kind: goIfZeroWord, n: 9}, {kind: sendWord, selector: "be/2", n: 2}, {kind: sendAboveWord, selector: "f/3", n: 3},
		{kind: newWord, class: "Ab"}, {kind: beWord, class: "B"}, {kind: dropWord, class: "C", selector: "f/1"}, {kind: moveWord, class: "D", second: "E"}, {kind: copyWord, class: "F", selector: "g/2", second: "G"},
		{kind: selfWord}, {kind: tellWord},
	}
	words, starts, wrong := readWords(source + "  " + more)
	if wrong != -1 || !reflect.DeepEqual(words, want) {
		t.Errorf("read %v, %d, want %v", words, wrong, want)
	}
	for i, at := range starts {
		if fields := strings.Fields((source + "  " + more)[at:]); len(fields) != len(want)-i {
			t.Errorf("word %d starts at %d", i, at)
		}
	}
	if len(effects) != int(tellWord)+1 {
		t.Errorf("%d rows for %d kinds", len(effects), tellWord+1)
	}
}

func TestMethodNumbers(t *testing.T) {
	m := newImage(t)
	addClass(t, m, "Ten", "C", 7)
	for _, c := range []struct {
		class, selector, source string
		want                    Errno
		place                   int
	}{
		{"A", "f/0", "1 a0", ErrArg, 2},
		{"A", "f/1", "a0 a1", ErrArg, 3},
		{"A", "f/2", "a0 a1 a2", ErrArg, 6},
		{"A", "f/3", "a0 a1 a2", OK, 0},
		{"A", "f/0", ">1", OK, 0},
		{"A", "f/0", ">2", ErrArg, 0},
		{"A", "f/0", "1 ?2", OK, 0},
		{"A", "f/0", "1 ?3", ErrArg, 2},
		{"A", "f/0", " >99", ErrArg, 1},
		{"A", "f/0", "1 ret >5 ?6", ErrArg, 6},
		{"A", "f/0", "s0 s1", OK, 0},
		{"A", "f/0", "s0 s1 s2", ErrSlot, 6},
		{"A", "f/0", "1 =s2", ErrSlot, 2},
		{"A", "f/0", "1 =s1", OK, 0},
		{"B", "f/0", "s2", ErrSlot, 0},
		{"C", "f/0", "s2", OK, 0},
		{"C", "f/0", "s3", ErrSlot, 0},
		{"Ten", "f/0", "s9 =s9", OK, 0},
		{"Any", "f/0", "s0", ErrSlot, 0},
		{"Int", "f/0", "self =s0", ErrSlot, 5},
		// the first word is what counts, not the error
		{"A", "f/0", "s2 a0", ErrSlot, 0},
		{"A", "f/0", "a0 s2", ErrArg, 0},
		{"A", "f/0", "s2 >9", ErrSlot, 0},
		{"A", "f/0", ">9 s2", ErrArg, 0},
		// these count where no way comes, and more than the stack
		{"A", "f/0", "self ret a0", ErrArg, 9},
		{"A", "f/0", "self ret s5", ErrSlot, 9},
		{"A", "f/0", "pop a0", ErrArg, 4},
		{"A", "f/0", "pop s2", ErrSlot, 4},
		{"A", "f/0", "pop >9", ErrArg, 4},
	} {
		checkMethod(t, m, c.class, c.selector, c.source, c.want, c.place)
	}
}

func TestMethodStack(t *testing.T) {
	m := newImage(t)
	sixteen := strings.Repeat("1 ", 16)
	for _, c := range []struct {
		source string
		want   Errno
		place  int
	}{
		// too few
		{"pop", ErrStack, 0}, {"dup", ErrStack, 0}, {"ret", ErrStack, 0}, {"?1", ErrStack, 0}, {"=s0", ErrStack, 0}, {"be:A", ErrStack, 0},
		{"1 +", ErrStack, 2}, {"1 -", ErrStack, 2}, {"1 *", ErrStack, 2}, {"1 <", ErrStack, 2}, {"1 =", ErrStack, 2},
		{"f/0", ErrStack, 0}, {"1 f/1", ErrStack, 2}, {"1 1 f/2", ErrStack, 4}, {"1 1 1 f/3", ErrStack, 6},
		{"^f/1", ErrStack, 0}, {"1 ^f/2", ErrStack, 2}, {"1 1 ^f/3", ErrStack, 4},
		{"1 pop pop", ErrStack, 6}, {"1 =s0 pop", ErrStack, 6}, {"1 ?2 pop", ErrStack, 5},
		// just enough, and what each leaves
		{"1 1 + pop", OK, 0}, {"1 1 - pop", OK, 0}, {"1 1 * pop", OK, 0}, {"1 1 < pop", OK, 0}, {"1 1 = pop", OK, 0},
		{"1 1 + pop pop", ErrStack, 10}, {"1 dup pop pop", OK, 0}, {"1 dup pop pop pop", ErrStack, 14},
		{"1 f/0 pop", OK, 0}, {"1 1 1 1 f/3 pop", OK, 0}, {"1 1 1 1 f/3 pop pop", ErrStack, 16},
		{"^f/0 pop", OK, 0}, {"1 1 1 ^f/3 pop", OK, 0}, {"1 1 1 ^f/3 pop pop", ErrStack, 15},
		{"new:A pop", OK, 0}, {"new:A be:B pop", OK, 0}, {"new:A be:B pop pop", ErrStack, 15},
		{"drop:A.f/0 pop", ErrStack, 11}, {"move:A.B pop", ErrStack, 9}, {"copy:A.f/0.B pop", ErrStack, 13},
		{"s0 pop", OK, 0}, {"self pop", OK, 0}, {"1 ret", OK, 0},
		// too many
		{sixteen, OK, 0}, {sixteen + "1", ErrStack, 32}, {sixteen + "self", ErrStack, 32}, {sixteen + "s0", ErrStack, 32}, {sixteen + "dup", ErrStack, 32}, {sixteen + "new:A", ErrStack, 32}, {sixteen + "^f/0", ErrStack, 32},
		{sixteen + "f/0", OK, 0}, {sixteen + "^f/1", OK, 0}, {sixteen + "be:A", OK, 0}, {sixteen + "f/3 1 1 1", OK, 0}, {sixteen + "f/3 1 1 1 1", ErrStack, 42}, {sixteen + "ret", OK, 0},
		// another height
		{"1 >0", ErrStack, 0}, {"1 pop >0", OK, 0}, {">0", OK, 0}, {"1 1 ?4 1 ret", ErrStack, 9}, {"0 ?4 1 ret 2 ret", OK, 0},
		{"1 ?3 >1 self ret", ErrStack, 2},
		// where no way comes, the stack is not looked at
		{"1 ret + pop", OK, 0}, {">2 pop", OK, 0}, {">2 pop pop", ErrStack, 7}, {">0 pop", OK, 0},
		// behind the last word no height is wrong
		{"0 ?3 1", OK, 0}, {"0 ?4 1 1", OK, 0},
		// whatever the values are, both ways are gone
		{"1 ?3 1 pop", ErrStack, 7}, {"0 ?2 pop", ErrStack, 5},
		// the first word by its place, not by the way: word 3 has two heights, and so leads back to word 0
		{"1 ?3 1 >0", ErrStack, 0},
		// two words are wrong; the one come to later stands ahead
		{">3 pop ret 1 ?6 >1 pop", ErrStack, 3},
		{"1 ?3 >4 >5 pop pop", ErrStack, 11},
		{">2 pop >5 1 >1 +", ErrStack, 15},
		{">4 pop pop self 1 >1", ErrStack, 7},
		// a way ends at a word that can't be done, and leads back to no other
		{"1 pop pop >0", ErrStack, 6},
		{sixteen + "1 >0", ErrStack, 32},
	} {
		checkMethod(t, m, "A", "f/0", c.source, c.want, c.place)
	}
}

func TestMethodTakesPlace(t *testing.T) {
	m := newImage(t)
	addMethod(t, m, "A", "f/0", "s1 ret")
	if e := m.Copy("A", "f/0", "Any"); e != ErrSlot {
		t.Errorf("P5: Copy: %d", e)
	}
	checkMethod(t, m, "A", "f/0", "s1 x", ErrText, 3)
	checkMethod(t, m, "A", "f/0", "pop", ErrStack, 0)
	if e := m.Copy("A", "f/0", "Any"); e != ErrSlot {
		t.Errorf("P1: a refused method took the place of one that was: %d", e)
	}
	addMethod(t, m, "A", "f/0", "1 ret")
	addMethod(t, m, "A", "f/1", "s1 ret")
	if e := m.Copy("A", "f/0", "Any"); e != OK {
		t.Errorf("P4: a method took no place of one that was: %d", e)
	}
}

// What follows says P4 once more, by other means, and holds it against many methods.

const (
	classForm    = `[A-Z][a-z]{0,5}`
	selectorForm = `[a-z]{1,6}/[0-3]`
)

var wordForm = regexp.MustCompile(`\A(?:-?[0-9]{1,4}|self|a[0-2]|=?s[0-9]|[-+*<=]|pop|dup|ret|[>?][0-9]{1,2}` +
	`|\^?` + selectorForm +
	`|(?:new|be):` + classForm +
	`|drop:` + classForm + `\.` + selectorForm +
	`|move:` + classForm + `\.` + classForm +
	`|copy:` + classForm + `\.` + selectorForm + `\.` + classForm + `)\z`)

// expected answers what Method should, for a class and a selector that there are.
func expected(source string, arguments, slots int) (Errno, int) {
	if len(source) > 120 {
		return ErrText, 0
	}
	var words []string
	var starts []int
	for i := 0; i < len(source); i++ {
		if source[i] == ' ' {
			continue
		}
		start := i
		for i < len(source) && source[i] != ' ' {
			i++
		}
		if len(words) == 40 || !wordForm.MatchString(source[start:i]) {
			return ErrText, start
		}
		words, starts = append(words, source[start:i]), append(starts, start)
	}
	for i, w := range words {
		n := 0
		switch {
		case strings.Contains(w, "/") || strings.Contains(w, ":"):
		case w[0] == 'a' && parse(w[1:], &n) && n >= arguments:
			return ErrArg, starts[i]
		case (w[0] == '>' || w[0] == '?') && parse(w[1:], &n) && n > len(words):
			return ErrArg, starts[i]
		case (w[0] == 's' || strings.HasPrefix(w, "=s")) && parse(strings.TrimLeft(w, "=s"), &n) && n >= slots:
			return ErrSlot, starts[i]
		}
	}
	if at := expectedStack(words); at >= 0 {
		return ErrStack, starts[at]
	}
	return OK, 0
}

func parse(digits string, n *int) bool {
	_, err := fmt.Sscanf(digits, "%d", n)
	return err == nil
}

// expectedStack goes all ways at once, a word further each time, till nothing new is come to.
func expectedStack(words []string) int {
	type spot struct{ at, height int }
	come := map[spot]bool{{0, 0}: true}
	wrong := map[int]bool{}
	for size := 0; size != len(come); {
		size = len(come)
		for _, s := range spots(come) {
			if s.at == len(words) {
				continue
			}
			takes, lays, next := expectedEffect(words[s.at], s.at)
			if s.height < takes || len(next) > 0 && s.height-takes+lays > 16 {
				wrong[s.at] = true
				continue
			}
			for _, at := range next {
				come[spot{at, s.height - takes + lays}] = true
			}
		}
	}
	for at := range words {
		heights := 0
		for s := range come {
			if s.at == at {
				heights++
			}
		}
		if wrong[at] || heights > 1 {
			return at
		}
	}
	return -1
}

func spots[S comparable](of map[S]bool) []S {
	var list []S
	for s := range of {
		list = append(list, s)
	}
	return list
}

func expectedEffect(word string, at int) (takes, lays int, next []int) {
	n := 0
	next = []int{at + 1}
	switch {
	case strings.HasPrefix(word, "new:"):
		return 0, 1, next
	case strings.HasPrefix(word, "be:"):
		return 1, 1, next
	case strings.Contains(word, ":"):
		return 0, 0, next
	case strings.Contains(word, "/"):
		n = int(word[len(word)-1] - '0')
		if word[0] == '^' {
			return n, 1, next
		}
		return n + 1, 1, next
	case word == "ret":
		return 1, 0, nil
	case word == "pop" || strings.HasPrefix(word, "=s"):
		return 1, 0, next
	case word == "dup":
		return 1, 2, next
	case strings.Contains("+-*<=", word):
		return 2, 1, next
	case word[0] == '>' && parse(word[1:], &n):
		return 0, 0, []int{n}
	case word[0] == '?' && parse(word[1:], &n):
		return 1, 0, []int{at + 1, n}
	}
	return 0, 1, next
}

// mixed answers a source of words that are mostly right.
func mixed(r *rand.Rand) string {
	var b strings.Builder
	count := r.IntN(12)
	if r.IntN(20) == 0 {
		count = 30 + r.IntN(14)
	}
	for range count {
		switch r.IntN(12) {
		case 0, 1:
			fmt.Fprintf(&b, "%c%d", "?>"[r.IntN(2)], r.IntN(count+1))
		case 2, 3, 4, 5:
			b.WriteString([]string{"1", "self", "dup", "s0"}[r.IntN(4)])
		case 6, 7:
			b.WriteString([]string{"pop", "+", "=s1", "ret"}[r.IntN(4)])
		case 8:
			if r.IntN(20) == 0 {
				b.WriteString(wrongWords[r.IntN(len(wrongWords))])
			} else {
				b.WriteString("f/0")
			}
		default:
			b.WriteString(allWords[r.IntN(len(allWords))])
		}
		b.WriteString(strings.Repeat(" ", 1+r.IntN(8)/7))
	}
	return b.String()
}

func TestMethodAgainstPromise(t *testing.T) {
	r := rand.New(rand.NewPCG(1, 2))
	counts := map[Errno]int{}
	m, _ := New(0, 1)
	addClass(t, m, "A", "Any", 9)
	for range 60000 {
		source := mixed(r)
		want, place := expected(source, 3, 9)
		if e, at := m.Method("A", "f/3", source); e != want || at != place {
			t.Fatalf("P4: Method(A, f/3, %q) = %d, %d, want %d, %d", source, e, at, want, place)
		}
		counts[want]++
	}
	for _, e := range []Errno{OK, ErrArg, ErrText, ErrStack, ErrSlot} {
		if counts[e] < 100 {
			t.Errorf("only %d of the methods answer %d", counts[e], e)
		}
	}
}

// TestMethodAnyBytes writes over bytes of right words, so that words near to right ones are seen.
func TestMethodAnyBytes(t *testing.T) {
	r := rand.New(rand.NewPCG(3, 4))
	m, _ := New(0, 1)
	addClass(t, m, "A", "Any", 10)
	near := "ABZazs019/.:^-=<>?+* \t\x00\xff"
	for range 60000 {
		source := []byte(allWords[r.IntN(len(allWords))] + " " + allWords[r.IntN(len(allWords))])
		for range 1 + r.IntN(2) {
			source[r.IntN(len(source))] = near[r.IntN(len(near))]
		}
		want, place := expected(string(source), 3, 10)
		if e, at := m.Method("A", "f/3", string(source)); e != want || at != place {
			t.Fatalf("P4: Method(A, f/3, %q) = %d, %d, want %d, %d", source, e, at, want, place)
		}
	}
}
