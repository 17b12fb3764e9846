package kin

// kind is what sort of word a word is.
type kind int

const (
	noWord kind = iota
	numberWord
	selfWord
	argumentWord
	slotWord
	storeWord
	addWord
	subtractWord
	multiplyWord
	lessWord
	sameWord
	popWord
	dupWord
	goWord
	goIfZeroWord
	sendWord
	sendAboveWord
	newWord
	beWord
	dropWord
	moveWord
	copyWord
	tellWord
	kinds // how many there are
)

// word is one word of a method.
type word struct {
	kind     kind
	n        int // the number; the argument's or the slot's; where to go on; how many arguments are sent
	class    string
	selector string
	second   string // the second class of those that name two
	place    *place // of those of a method that send
}

// spelling is a word that is always written the same, or the head of one that names a class.
type spelling struct {
	text string
	kind kind
}

// plainWords are the words that are always written the same.
var plainWords = [...]spelling{
	{"self", selfWord},
	{"+", addWord},
	{"-", subtractWord},
	{"*", multiplyWord},
	{"<", lessWord},
	{"=", sameWord},
	{"pop", popWord},
	{"dup", dupWord},
	{"ret", tellWord},
}

// classHeads stand ahead of the colon in the words that name a class.
var classHeads = [...]spelling{
	{"new", newWord},
	{"be", beWord},
	{"drop", dropWord},
	{"move", moveWord},
	{"copy", copyWord},
}

// effect is what a kind of word does to the height of the stack, and where it goes on.
type effect struct {
	takes int
	lays  int
	sends bool // it takes its arguments as well
	jumps bool // it may go on at the place that it names
	stays bool // it never goes on at the word behind it
}

// effects has a row for each kind of word.
var effects = [kinds]effect{
	noWord:        {},
	numberWord:    {lays: 1},
	selfWord:      {lays: 1},
	argumentWord:  {lays: 1},
	slotWord:      {lays: 1},
	storeWord:     {takes: 1},
	addWord:       {takes: 2, lays: 1},
	subtractWord:  {takes: 2, lays: 1},
	multiplyWord:  {takes: 2, lays: 1},
	lessWord:      {takes: 2, lays: 1},
	sameWord:      {takes: 2, lays: 1},
	popWord:       {takes: 1},
	dupWord:       {takes: 1, lays: 2},
	goWord:        {jumps: true, stays: true},
	goIfZeroWord:  {takes: 1, jumps: true},
	sendWord:      {takes: 1, lays: 1, sends: true},
	sendAboveWord: {lays: 1, sends: true},
	newWord:       {lays: 1},
	beWord:        {takes: 1, lays: 1},
	dropWord:      {},
	moveWord:      {},
	copyWord:      {},
	tellWord:      {takes: 1, stays: true},
}

// takes tells how many values of the stack the word takes.
func (w word) takes() int {
	if effects[w.kind].sends {
		return effects[w.kind].takes + w.n
	}
	return effects[w.kind].takes
}

// namesSlot tells whether the word's number is a slot's.
func (w word) namesSlot() bool {
	return w.kind == slotWord || w.kind == storeWord
}

// plainKind is the kind of a word that is always written the same, or noWord.
func plainKind(text string) kind {
	for _, s := range plainWords {
		if s.text == text {
			return s.kind
		}
	}
	return noWord
}

// classKind is the kind of the words with that head that name a class, or noWord.
func classKind(head string) kind {
	for _, s := range classHeads {
		if s.text == head {
			return s.kind
		}
	}
	return noWord
}
