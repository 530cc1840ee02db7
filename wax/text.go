package wax

import (
	"strconv"
	"strings"

	"stearin/api"
)

// The words that begin the first two lines of a text.
const (
	testsWord = "tests"
	pureWord  = "pure"
)

// Write returns the text of a table.
func Write(t api.WxTable) (string, api.Errno) {
	s, e := open(t)
	if e != api.OK {
		return "", e
	}
	tests := []string{testsWord}
	for _, p := range s.Props {
		tests = append(tests, p.Name, strconv.Itoa(p.Error))
	}
	text := line(tests...) + line(pureWord, strconv.Itoa(s.Purity))
	for _, k := range s.Kinds {
		words := []string{k.Name}
		for _, values := range k.Props {
			words = append(words, strconv.Itoa(values.Lo), strconv.Itoa(values.Hi))
		}
		text += line(words...)
	}
	return text, api.OK
}

// line returns the line that has these words.
func line(words ...string) string { return strings.Join(words, " ") + "\n" }

// Read returns the table of a text.
func Read(text string) (api.WxTable, api.Errno) {
	if len(text) > api.MaxWxText {
		return api.WxTable{}, api.ErrLong
	}
	t, ok := readTable(text)
	if !ok {
		return api.WxTable{}, api.ErrForm
	}
	if _, _, e := Check(t); e != api.OK {
		return api.WxTable{}, api.ErrForm
	}
	return t, api.OK
}

// reader reads a text line by line, and each line word by word. It panics where there is not what it is asked for.
type reader struct {
	rest  string
	words []string
}

// readTable reads a table that can have errors; it is not ok if the text has not the lines and words of any table.
func readTable(text string) (t api.WxTable, ok bool) {
	defer func() {
		if recover() != nil {
			t, ok = api.WxTable{}, false
		}
	}()
	r := &reader{rest: text}
	t.Props = r.tests()
	t.Purity = r.purity()
	for r.rest != "" {
		t.Kinds = append(t.Kinds, r.kind())
	}
	return t, true
}

// tests reads the line of the properties.
func (r *reader) tests() []api.WxProp {
	r.nextLine()
	r.expect(testsWord)
	var props []api.WxProp
	for len(r.words) > 0 {
		name := r.word()
		props = append(props, api.WxProp{Name: name, Error: r.number()})
	}
	return props
}

// purity reads the line of the purity.
func (r *reader) purity() int {
	r.nextLine()
	r.expect(pureWord)
	n := r.number()
	need(len(r.words) == 0)
	return n
}

// kind reads the line of a kind.
func (r *reader) kind() api.WxKind {
	r.nextLine()
	k := api.WxKind{Name: r.word()}
	for len(r.words) > 0 {
		lo := r.number()
		k.Props = append(k.Props, api.Span{Lo: lo, Hi: r.number()})
	}
	return k
}

// nextLine goes to the words of the next line.
func (r *reader) nextLine() {
	first, rest, ended := strings.Cut(r.rest, "\n")
	need(ended)
	r.words, r.rest = strings.Split(first, " "), rest
}

// word reads a word of the line.
func (r *reader) word() string {
	need(len(r.words) > 0)
	w := r.words[0]
	r.words = r.words[1:]
	return w
}

// expect reads a word that has to be a certain one.
func (r *reader) expect(want string) { need(r.word() == want) }

// number reads a word that has to be a number.
func (r *reader) number() int {
	w := r.word()
	n, err := strconv.Atoi(w)
	// A number in any other form than that in which it is written, as with a plus sign or zeros before it, is none.
	need(err == nil && strconv.Itoa(n) == w)
	return n
}

// need panics where a text has not what it needs: so none of the steps of a reader has to hand an error on.
func need(there bool) {
	if !there {
		panic(api.ErrForm)
	}
}
