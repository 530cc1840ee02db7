package hour

import (
	"strconv"
	"strings"

	"stearin/api"
)

// testWord is the word that begins a text.
const testWord = "test"

// Write returns the text of a test.
func Write(s api.HrShop, t api.HrTest) (string, api.Errno) {
	v, e := look(s, t)
	if e != api.OK {
		return "", e
	}
	text := line(testWord, v.Kinds[t.Kind].Name, strconv.Itoa(t.Error))
	for _, m := range t.Marks {
		text += line(strconv.Itoa(m.Minute), strconv.Itoa(m.Weight))
	}
	return text, api.OK
}

// line returns the line that has these words.
func line(words ...string) string { return strings.Join(words, " ") + "\n" }

// Read returns the test of a text.
func Read(s api.HrShop, text string) (api.HrTest, api.Errno) {
	v, e := look(s)
	switch {
	case e != api.OK:
		return api.HrTest{}, e
	case len(text) > api.MaxHrText:
		return api.HrTest{}, api.ErrLong
	}
	t, ok := v.read(text)
	if !ok || testError(s, t) != api.OK {
		return api.HrTest{}, api.ErrForm
	}
	return t, api.OK
}

// read reads a test that can have errors; it is not ok if the text has not the lines and words of any test of the shop.
func (v view) read(text string) (t api.HrTest, ok bool) {
	defer func() {
		if recover() != nil {
			t, ok = api.HrTest{}, false
		}
	}()
	r := &reader{rest: text}
	r.nextLine()
	r.expect(testWord)
	t.Kind = named(v.Kinds, r.word(), nameOfKind)
	t.Error = r.number()
	r.endLine()
	for r.rest != "" {
		t.Marks = append(t.Marks, r.mark())
	}
	return t, true
}

// reader reads a text line by line, and each line word by word. It panics where there is not what it is asked for.
type reader struct {
	rest  string
	words []string
}

// mark reads the line of a mark.
func (r *reader) mark() api.HrMark {
	r.nextLine()
	minute := r.number()
	weight := r.number()
	r.endLine()
	return api.HrMark{Minute: minute, Weight: weight}
}

// nextLine goes to the words of the next line.
func (r *reader) nextLine() {
	first, rest, ended := strings.Cut(r.rest, "\n")
	need(ended)
	r.words, r.rest = strings.Split(first, " "), rest
}

// endLine needs that no word of the line is left.
func (r *reader) endLine() { need(len(r.words) == 0) }

// word reads a word of the line.
func (r *reader) word() string {
	need(len(r.words) > 0)
	w := r.words[0]
	r.words = r.words[1:]
	return w
}

// expect reads a word that has to be a certain one.
func (r *reader) expect(want string) { need(r.word() == want) }

// number reads a word that has to be a number.
func (r *reader) number() int {
	w := r.word()
	n, err := strconv.Atoi(w)
	// A number in any other form than that in which it is written, as with a plus sign or zeros before it, is none.
	need(err == nil && strconv.Itoa(n) == w)
	return n
}

// need panics where a text has not what it needs: so none of the steps of a reader has to hand an error on.
func need(there bool) {
	if !there {
		panic(api.ErrForm)
	}
}
