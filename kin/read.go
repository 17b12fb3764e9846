package kin

const (
	maxNameTail  = 5 // small letters behind a class's first one
	maxLetters   = 6 // letters of a selector
	numberDigits = 4
	placeDigits  = 2
)

// reader goes through a text from its start on.
type reader struct {
	text string
	at   int
}

// atEnd tells whether a word may end here: the text's end is as good as a blank.
func (r *reader) atEnd() bool {
	return r.at == len(r.text) || r.text[r.at] == ' '
}

// take goes past the next byte, if it is that one.
func (r *reader) take(b byte) bool {
	if r.at == len(r.text) || r.text[r.at] != b {
		return false
	}
	r.at++
	return true
}

// span goes past the bytes from low to high that come next, but no more than most, and answers them.
func (r *reader) span(low, high byte, most int) string {
	start := r.at
	for r.at < len(r.text) && r.at-start < most && low <= r.text[r.at] && r.text[r.at] <= high {
		r.at++
	}
	return r.text[start:r.at]
}

// className goes past a class's name and answers it, or "" where there is none.
func (r *reader) className() string {
	start := r.at
	if r.span('A', 'Z', 1) == "" {
		return ""
	}
	r.span('a', 'z', maxNameTail)
	return r.text[start:r.at]
}

// selector goes past a selector and answers it, or "" where there is none.
func (r *reader) selector() string {
	start := r.at
	if r.span('a', 'z', maxLetters) == "" || !r.take('/') || r.span('0', '0'+maxArgs, 1) == "" {
		return ""
	}
	return r.text[start:r.at]
}

func isClassName(text string) bool {
	r := reader{text: text}
	return r.className() != "" && r.at == len(text)
}

func isSelector(text string) bool {
	r := reader{text: text}
	return r.selector() != "" && r.at == len(text)
}

// argumentsOf tells how many arguments a selector has.
func argumentsOf(selector string) int {
	return decimal(selector[len(selector)-1:])
}

func decimal(digits string) int {
	n := 0
	for _, d := range []byte(digits) {
		n = n*10 + int(d-'0')
	}
	return n
}

// readWords answers the words of a source and where each of them starts; wrong is -1, or the start of the first word that is none or one too many.
func readWords(source string) (words []word, starts []int, wrong int) {
	r := reader{text: source}
	var w word
	var start int

between:
	if r.take(' ') {
		goto between
	}
	if r.at == len(source) {
		return words, starts, -1
	}
	start = r.at
	if len(words) == maxWords {
		goto refused
	}
	w = r.word()
	if w.kind == noWord || !r.atEnd() {
		goto refused
	}
	words = append(words, w)
	starts = append(starts, start)
	goto between

refused:
	return nil, nil, start
}

// word goes past a word that starts here; its kind is noWord, if it is none. Whether it ends there is for the caller to see.
func (r *reader) word() word {
	var w word
	var letters string
	start := r.at
	switch {
	case r.take('-'):
		goto minus
	case r.take('='):
		goto equals
	case r.take('^'):
		return r.send(sendAboveWord)
	case r.take('>'):
		return r.numbered(goWord, '9', placeDigits)
	case r.take('?'):
		return r.numbered(goIfZeroWord, '9', placeDigits)
	case r.take('+'), r.take('*'), r.take('<'):
		goto plain
	}
	letters = r.span('a', 'z', maxLetters)
	if letters != "" {
		goto behindLetters
	}
	return r.numbered(numberWord, '9', numberDigits)

minus:
	if r.atEnd() {
		goto plain
	}
	w = r.numbered(numberWord, '9', numberDigits)
	w.n = -w.n
	return w

equals:
	if r.take('s') {
		return r.numbered(storeWord, '9', 1)
	}
	goto plain

behindLetters:
	switch {
	case r.take(':'):
		return r.classWord(classKind(letters))
	case r.take('/'):
		r.at = start // the letters are the selector's
		return r.send(sendWord)
	case letters == "a":
		return r.numbered(argumentWord, '0'+maxArgs-1, 1)
	case letters == "s":
		return r.numbered(slotWord, '9', 1)
	}

plain:
	return word{kind: plainKind(r.text[start:r.at])}
}

// numbered goes past the digits, from 0 to high, of a word that has a number.
func (r *reader) numbered(k kind, high byte, most int) word {
	digits := r.span('0', high, most)
	if digits == "" {
		return word{}
	}
	return word{kind: k, n: decimal(digits)}
}

// send goes past the selector of a word that sends.
func (r *reader) send(k kind) word {
	selector := r.selector()
	if selector == "" {
		return word{}
	}
	return word{kind: k, selector: selector, n: argumentsOf(selector)}
}

// classWord goes past what stands behind the colon of a word that names a class.
func (r *reader) classWord(k kind) word {
	w := word{kind: k, class: r.className()}
	if w.class == "" {
		goto refused
	}
	switch k {
	case newWord, beWord:
		return w
	case dropWord, copyWord:
		goto selector
	case moveWord:
		goto second
	}
	goto refused

selector:
	if !r.take('.') {
		goto refused
	}
	w.selector = r.selector()
	if w.selector == "" {
		goto refused
	}
	if k == dropWord {
		return w
	}
second:
	if !r.take('.') {
		goto refused
	}
	w.second = r.className()
	if w.second == "" {
		goto refused
	}
	return w

refused:
	return word{}
}
