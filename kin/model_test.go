package kin

import (
	"fmt"
	"math/big"
	"math/rand/v2"
	"slices"
	"strconv"
	"strings"
	"testing"
)

// What follows says P5 to P8 once more, by other means, and holds the program against it: a model keeps methods as they were written and values as texts ("7", or "@7" for an object), and runs a method inside another one by calling itself.

type modelObject struct {
	class string
	slots []string
}

type model struct {
	above   map[string]string
	slots   map[string]int
	methods map[string]string // by class and selector
	objects []*modelObject
	looks   int
	fuel    int
}

// modelRun is a method that runs.
type modelRun struct {
	class, self string
	args, stack []string
	next        int
}

func (k *model) below(class, other string) bool {
	for class != "" {
		if class == other {
			return true
		}
		class = k.above[class]
	}
	return false
}

func (k *model) there(classes ...string) bool {
	for _, class := range classes {
		if _, ok := k.slots[class]; !ok {
			return false
		}
	}
	return true
}

func (k *model) drop(class, selector string) bool {
	_, ok := k.methods[class+" "+selector]
	delete(k.methods, class+" "+selector)
	return ok
}

func (k *model) move(class, above string) bool {
	if !k.there(class, above) || class == "Any" || class == "Int" || k.below(above, class) || k.slots[above] != k.slots[k.above[class]] {
		return false
	}
	k.above[class] = above
	return true
}

func (k *model) copy(class, selector, to string) bool {
	source, ok := k.methods[class+" "+selector]
	if !ok || !k.there(class, to) {
		return false
	}
	for _, w := range strings.Fields(source) {
		w = strings.TrimPrefix(w, "=")
		if len(w) == 2 && w[0] == 's' && int(w[1]-'0') >= k.slots[to] {
			return false
		}
	}
	k.methods[to+" "+selector] = source
	return true
}

func (k *model) make(class string) string {
	if !k.there(class) || class == "Int" || len(k.objects) == 40 {
		return ""
	}
	o := &modelObject{class: class}
	for range k.slots[class] {
		o.slots = append(o.slots, "0")
	}
	k.objects = append(k.objects, o)
	return fmt.Sprint("@", len(k.objects)-1)
}

func (k *model) be(value, class string) bool {
	if value[0] != '@' || !k.there(class) || class == "Int" {
		return false
	}
	o := k.object(value)
	if len(o.slots) != k.slots[class] {
		return false
	}
	o.class = class
	return true
}

func (k *model) object(value string) *modelObject {
	n, _ := strconv.Atoi(value[1:])
	return k.objects[n]
}

func (k *model) classOf(value string) string {
	if value[0] == '@' {
		return k.object(value).class
	}
	return "Int"
}

// look answers the class that has it, or "".
func (k *model) look(class, selector string) string {
	k.looks++
	for ; class != ""; class = k.above[class] {
		if _, ok := k.methods[class+" "+selector]; ok {
			return class
		}
	}
	return ""
}

// send answers what is told, and how it ended; depth methods run.
func (k *model) send(from, to, selector string, args []string, depth int) (string, int) {
	home := k.look(from, selector)
	if home == "" {
		args = []string{fmt.Sprint(len(args))}
		selector = "dnu/1"
		home = k.look(from, selector)
	}
	if home == "" {
		return "0", Lost
	}
	if depth == 32 {
		return "0", Deep
	}
	f := &modelRun{class: home, self: to, args: args}
	words := strings.Fields(k.methods[home+" "+selector])
	for f.next < len(words) {
		if k.fuel == 0 {
			return "0", Spent
		}
		k.fuel--
		w := words[f.next]
		f.next++
		if w == "ret" {
			return f.take(), Told
		}
		if end := k.do(f, w, depth+1); end != Told {
			return "0", end
		}
	}
	return to, Told
}

func (f *modelRun) take() string {
	v := f.stack[len(f.stack)-1]
	f.stack = f.stack[:len(f.stack)-1]
	return v
}

func (f *modelRun) lay(v string) int {
	f.stack = append(slices.Clip(f.stack), v)
	return Told
}

// do does a word; it answers how that ended.
func (k *model) do(f *modelRun, w string, depth int) int {
	good := true
	head, rest, colon := strings.Cut(w, ":")
	parts := strings.Split(rest, ".")
	switch {
	case colon && head == "new":
		v := k.make(rest)
		if v == "" {
			return Bad
		}
		return f.lay(v)
	case colon && head == "be":
		good = k.be(f.stack[len(f.stack)-1], rest)
	case colon && head == "drop":
		good = k.drop(parts[0], parts[1])
	case colon && head == "move":
		good = k.move(parts[0], parts[1])
	case colon && head == "copy":
		good = k.copy(parts[0], parts[1], parts[2])
	case strings.Contains(w, "/"):
		return k.doSend(f, w, depth)
	case w == "self":
		return f.lay(f.self)
	case w == "pop":
		f.take()
	case w == "dup":
		return f.lay(f.stack[len(f.stack)-1])
	case strings.Contains("+-*<=", w):
		return f.doNumbers(w)
	case w[0] == 'a':
		return f.lay(f.args[w[1]-'0'])
	case w[0] == 's':
		return f.lay(k.object(f.self).slots[w[1]-'0'])
	case w[0] == '=':
		k.object(f.self).slots[w[2]-'0'] = f.take()
	case w[0] == '>':
		f.next, _ = strconv.Atoi(w[1:])
	case w[0] == '?':
		v := f.take()
		good = v[0] != '@'
		if v == "0" {
			f.next, _ = strconv.Atoi(w[1:])
		}
	default:
		n, _ := strconv.Atoi(w)
		return f.lay(fmt.Sprint(n))
	}
	if !good {
		return Bad
	}
	return Told
}

func (k *model) doSend(f *modelRun, w string, depth int) int {
	count := int(w[len(w)-1] - '0')
	args := make([]string, count)
	for i := range args {
		args[count-1-i] = f.take()
	}
	selector, isAbove := strings.CutPrefix(w, "^")
	to, from := f.self, k.above[f.class]
	if !isAbove {
		to = f.take()
		from = k.classOf(to)
	}
	v, end := k.send(from, to, selector, args, depth)
	if end != Told {
		return end
	}
	return f.lay(v)
}

func (f *modelRun) doNumbers(w string) int {
	b, a := f.take(), f.take()
	if w == "=" {
		return f.lay(map[bool]string{true: "1", false: "0"}[a == b])
	}
	x, isNumber := new(big.Int).SetString(a, 10)
	y, areNumbers := new(big.Int).SetString(b, 10)
	if !isNumber || !areNumbers {
		return Bad
	}
	switch w {
	case "+":
		x.Add(x, y)
	case "-":
		x.Sub(x, y)
	case "*":
		x.Mul(x, y)
	case "<":
		return f.lay(map[bool]string{true: "1", false: "0"}[x.Cmp(y) < 0])
	}
	round := new(big.Int).Lsh(big.NewInt(1), 64)
	half := new(big.Int).Lsh(big.NewInt(1), 63)
	x.Sub(x.Mod(x.Add(x, half), round), half)
	return f.lay(x.String())
}

// modelClasses are class, class above and number of own slots.
var modelClasses = []struct {
	name, above string
	slots       int
}{{"A", "Any", 2}, {"B", "A", 0}, {"C", "B", 0}, {"D", "A", 0}, {"E", "Any", 2}, {"F", "C", 1}, {"G", "Int", 0}}

var modelSelectors = []string{"f/0", "f/1", "g/2", "h/0", "k/3", "dnu/1"}

// pair is an image and its model.
type pair struct {
	t     *testing.T
	r     *rand.Rand
	image *Image
	model *model
	ends  [5]int
}

func newPair(t *testing.T, r *rand.Rand) *pair {
	p := &pair{t: t, r: r, model: &model{above: map[string]string{"Int": "Any"}, slots: map[string]int{"Any": 0, "Int": 0}, methods: map[string]string{}}}
	p.image, _ = New(r.IntN(7), 1<<r.IntN(7))
	for _, c := range modelClasses {
		addClass(t, p.image, c.name, c.above, c.slots)
		p.model.above[c.name], p.model.slots[c.name] = c.above, p.model.slots[c.above]+c.slots
	}
	for _, class := range []string{"A", "B", "C", "D", "E", "F", "G", "Any"} {
		addObject(t, p.image, class)
		p.model.make(class)
	}
	return p
}

func pick[T any](r *rand.Rand, from ...T) T { return from[r.IntN(len(from))] }

func (p *pair) class() string {
	if p.r.IntN(40) == 0 {
		return "Z"
	}
	return pick(p.r, "Any", "Int", "A", "A", "B", "B", "C", "D", "E", "F", "G")
}

func (p *pair) selector() string { return pick(p.r, modelSelectors...) }

// value answers a value that there is.
func (p *pair) value() string {
	if p.r.IntN(3) == 0 {
		return pick(p.r, "0", "1", "-1", "5", "9223372036854775807", "-9223372036854775808")
	}
	return fmt.Sprint("@", p.r.IntN(len(p.model.objects)))
}

func (p *pair) word(height, at int) string {
	switch n := p.r.IntN(24); {
	case n < 5 && height >= 1:
		selector := p.selector()
		return pick(p.r, "", "", "^") + selector
	case n < 8 && height >= 2:
		return pick(p.r, "+", "-", "*", "<", "=")
	case n < 9 && height >= 1:
		return pick(p.r, "pop", "dup", "ret", "be:"+p.class())
	case n < 10 && height >= 1:
		return pick(p.r, "=s0", "=s1")
	case n == 10:
		return fmt.Sprint("?", p.r.IntN(at+6))
	case n == 11:
		return fmt.Sprint(">", p.r.IntN(at+6))
	case n == 12 && p.r.IntN(3) == 0:
		return pick(p.r, "new:"+p.class(), "drop:"+p.class()+"."+p.selector(), "move:"+p.class()+"."+p.class(), "copy:"+p.class()+"."+p.selector()+"."+p.class())
	}
	return pick(p.r, "self", "self", "self", "1", "0", "-7", "a0", "a1", "a2", "s0", "s1")
}

// source answers words whose stack is mostly as it must be.
func (p *pair) source() string {
	var words []string
	height := 0
	for range 1 + p.r.IntN(14) {
		w := p.word(height, len(words))
		takes, lays, _ := expectedEffect(w, 0)
		if takes > height {
			continue
		}
		words = append(words, w)
		height += lays - takes
	}
	if height > 0 && p.r.IntN(3) > 0 {
		words = append(words, "ret")
	}
	return strings.Join(words, " ")
}

func (p *pair) check(what string, got, want any) {
	p.t.Helper()
	if fmt.Sprint(got) != fmt.Sprint(want) {
		p.t.Fatalf("%s: %v, want %v, with\n%s", what, got, want, state(p.image))
	}
}

func asValue(v string) Value {
	n, _ := strconv.Atoi(strings.TrimPrefix(v, "@"))
	return Value{Object: v[0] == '@', N: n}
}

func (p *pair) send() {
	to, selector := p.value(), p.selector()
	var args []string
	var values []Value
	for range argumentsOf(selector) {
		args = append(args, p.value())
		values = append(values, asValue(args[len(args)-1]))
	}
	fuel := pick(p.r, 3000, 3000, 500, 50, 7, p.r.IntN(30))
	p.model.fuel = fuel
	v, end := p.model.send(p.model.classOf(to), to, selector, args, 0)
	p.ends[end]++
	got, how, e := p.image.Send(asValue(to), selector, values, fuel)
	p.check(fmt.Sprintf("P7: Send(%s, %s, %v, %d)", to, selector, args, fuel), []any{got, how, e}, []any{asValue(v), end, OK})
}

func (p *pair) method() {
	class, selector, source := p.class(), p.selector(), p.source()
	if e, _ := p.image.Method(class, selector, source); e == OK {
		p.model.methods[class+" "+selector] = source
	}
}

func (p *pair) change() {
	class, selector, other := p.class(), p.selector(), p.class()
	switch p.r.IntN(5) {
	case 0:
		p.check("P5: Drop", p.image.Drop(class, selector) == OK, p.model.drop(class, selector))
	case 1:
		p.check("P5: Move", p.image.Move(class, other) == OK, p.model.move(class, other))
	case 2:
		p.check("P5: Copy", p.image.Copy(class, selector, other) == OK, p.model.copy(class, selector, other))
	case 3:
		n := p.r.IntN(len(p.model.objects))
		p.check("P6: Be", p.image.Be(n, class) == OK, p.model.be(fmt.Sprint("@", n), class))
	case 4:
		p.check("P6: Flush", p.image.Flush(pick(p.r, "", selector)), OK)
	}
}

func (p *pair) compare() {
	looks, climbs := p.image.Sends()
	p.check("P8: Sends", looks, p.model.looks)
	if climbs > looks {
		p.t.Fatalf("P8: Sends() = %d, %d", looks, climbs)
	}
	for n, o := range p.model.objects {
		of, e := p.image.Of(n)
		p.check("P6: Of", []any{of, e}, []any{o.class, OK})
		for i, want := range o.slots {
			v, e := p.image.Slot(n, i)
			p.check("P6: Slot", []any{v, e}, []any{asValue(want), OK})
		}
	}
	_, e := p.image.Of(len(p.model.objects))
	p.check("P6: the number of objects", e, ErrNone)
	for class := range p.model.slots {
		for _, selector := range modelSelectors {
			_, want := p.model.methods[class+" "+selector]
			p.check("P5: "+class+" has "+selector, hasMethod(p.image, class, selector), want)
		}
	}
}

func TestAgainstModel(t *testing.T) {
	r := rand.New(rand.NewPCG(5, 6))
	var ends [5]int
	for range 1500 {
		p := newPair(t, r)
		for range 30 {
			p.method()
		}
		for range 40 {
			switch r.IntN(8) {
			case 0:
				p.method()
			case 1:
				p.change()
			default:
				p.send()
			}
		}
		p.compare()
		for end, n := range p.ends {
			ends[end] += n
		}
	}
	for end, n := range ends {
		if n < 100 {
			t.Errorf("only %d sends end with %d", n, end)
		}
	}
	t.Log(ends)
}
