package dip

import (
	"cmp"
	"slices"
	"strconv"
	"strings"

	"stearin/api"
)

// turnedWord ends the line of a dip that is turned.
const turnedWord = "turned"

// Write returns the text of a plan.
func Write(x api.DpShop, plan []api.DpDip) (string, api.Errno) {
	if e := cmp.Or(shopError(x), planError(x, plan)); e != api.OK {
		return "", e
	}
	text := ""
	for _, d := range plan {
		words := []string{x.Baths[d.Bath].Name, strconv.Itoa(d.Seconds), strconv.Itoa(d.Pause)}
		if d.Turned {
			words = append(words, turnedWord)
		}
		text += strings.Join(words, " ") + "\n"
	}
	return text, api.OK
}

// Read returns the plan of a text.
func Read(x api.DpShop, text string) ([]api.DpDip, api.Errno) {
	if e := shopError(x); e != api.OK {
		return nil, e
	}
	if len(text) > api.MaxDpText {
		return nil, api.ErrLong
	}
	plan, ok := readPlan(x, text)
	if !ok || planError(x, plan) != api.OK {
		return nil, api.ErrForm
	}
	return plan, api.OK
}

// reader reads a text line by line, and each line word by word, in a shop that is looked at. It panics where there is not what it is asked for.
type reader struct {
	api.DpShop
	rest  string
	words []string
}

// readPlan reads a plan that can have errors; it is not ok if the text has not the lines and words of any plan.
func readPlan(x api.DpShop, text string) (plan []api.DpDip, ok bool) {
	defer func() {
		if recover() != nil {
			plan, ok = nil, false
		}
	}()
	r := &reader{DpShop: x, rest: text}
	for r.rest != "" {
		plan = append(plan, r.dip())
	}
	return plan, true
}

// dip reads the line of a dip.
func (r *reader) dip() api.DpDip {
	r.nextLine()
	var d api.DpDip
	d.Bath = r.bath()
	d.Seconds = r.number()
	d.Pause = r.number()
	if len(r.words) > 0 {
		need(r.word() == turnedWord)
		d.Turned = true
	}
	need(len(r.words) == 0)
	return d
}

// nextLine goes to the words of the next line.
func (r *reader) nextLine() {
	first, rest, ended := strings.Cut(r.rest, "\n")
	need(ended)
	r.words, r.rest = strings.Split(first, " "), rest
}

// word reads a word of the line.
func (r *reader) word() string {
	need(len(r.words) > 0)
	w := r.words[0]
	r.words = r.words[1:]
	return w
}

// bath reads a word that has to be the name of a bath.
func (r *reader) bath() int {
	name := r.word()
	at := slices.IndexFunc(r.Baths, func(b api.DpBath) bool { return b.Name == name })
	need(at >= 0)
	return at
}

// number reads a word that has to be a number.
func (r *reader) number() int {
	w := r.word()
	n, err := strconv.Atoi(w)
	// A number in any other form than that in which it is written, as with a plus sign or zeros before it, is none.
	need(err == nil && strconv.Itoa(n) == w)
	return n
}

// need panics where a text has not what it needs: so none of the steps of a reader has to hand an error on.
func need(there bool) {
	if !there {
		panic(api.ErrForm)
	}
}
