package dip_test

import (
	"math/rand"
	"regexp"
	"slices"
	"strconv"
	"strings"
	"testing"

	"stearin/api"
	"stearin/dip"
)

// P4.6, P4.15: numbers and names at their limits.
func TestReadAtTheLimits(t *testing.T) {
	x := example()
	x.Draw = 0
	x.Baths = append(x.Baths, api.DpBath{Name: "turned", Warm: span(700, 700)}, api.DpBath{Name: strings.Repeat("a", 20), Warm: span(700, 700)}, api.DpBath{Name: "low-er", Warm: span(700, 700)})
	for text, want := range map[string][]api.DpDip{
		"":                                     nil,
		"low 1 0\n":                            plan(api.DpDip{Seconds: 1}),
		"high 600 600 turned\n":                plan(api.DpDip{Bath: 1, Seconds: 600, Pause: 600, Turned: true}),
		"turned 10 100\n":                      plan(api.DpDip{Bath: 2, Seconds: 10, Pause: 100}),
		"turned 10 100 turned\nlow-er 5 7\n":   plan(api.DpDip{Bath: 2, Seconds: 10, Pause: 100, Turned: true}, api.DpDip{Bath: 4, Seconds: 5, Pause: 7}),
		strings.Repeat("a", 20) + " 1 0\n":     plan(api.DpDip{Bath: 3, Seconds: 1}),
		strings.Repeat("low 3 40\n", 30):       slices.Repeat(plan(dipA()), 30),
		strings.Repeat("low 3 30 turned\n", 3): slices.Repeat(plan(dipD()), 3),
	} {
		p, e := dip.Read(x, text)
		if !slices.Equal(p, want) || e != api.OK {
			t.Errorf("%q: Read = %v, %d, not %v", text, p, e, want)
		}
		if again, e := dip.Write(x, p); again != text || e != api.OK {
			t.Errorf("%q: Write = %q, %d", text, again, e)
		}
	}
}

// P4.6: what nearly is the text of a plan.
func TestReadRefusesOtherTexts(t *testing.T) {
	for _, text := range []string{
		"\n", "\n\n", " ", " \n", "low", "low\n", "low 3\n", "low 3 40", "turned\n", "3 40\n",
		// Lines that are not ended, empty, or ended otherwise.
		"low 3 40\nlow 3 40", "low 3 40\n\n", "\nlow 3 40\n", "low 3 40\n\nlow 3 40\n", "low 3 40\r\n", "low 3 40\x00\n", "low 3 40;low 3 40\n", "low 3 40\nlow\n", "low 3\n40\n", "low 3 40\n ", "low 3 40\nturned\n",
		// Words.
		"Low 3 40\n", "lo 3 40\n", "loww 3 40\n", "none 3 40\n", " 3 40\n", "0 3 40\n", "low 3 40 Turned\n", "low 3 40 turn\n", "low 3 40 turnedd\n", "low 3 40 turned turned\n", "low turned 3 40\n", "low 3 turned 40\n", "turned low 3 40\n", "turned 3 40\n", "low 3 40 40\n", "low 3 40 40 turned\n", "low low 3 40\n", "low 3 40 turned low 3 40\n",
		// Spaces.
		" low 3 40\n", "low  3 40\n", "low 3  40\n", "low 3 40 \n", "low 3 40  turned\n", "low 3 40 turned \n", "low\t3 40\n", "low 3\u00a040\n", "low 3 40turned\n", "low3 40\n",
		// Numbers.
		"low 03 40\n", "low 3 040\n", "low 3 00\n", "low +3 40\n", "low 3 +40\n", "low -3 40\n", "low 3 -0\n", "low 3 -1\n", "low x 40\n", "low 3 x\n", "low 3. 40\n", "low 3 40.0\n", "low 3 4e1\n", "low 0x3 40\n", "low 3 4_0\n", "low ٣ 40\n", "low 3 99999999999999999999\n", "low 18446744073709551619 40\n", "low 3 " + strings.Repeat("9", 1900) + "\n",
		// Plans with an error.
		"low 2 40\n", "low 0 40\n", "low 601 40\n", "low 3 601\n", "low 3 40\nlow 2 40\n", "low 600 600\nlow 601 600\n", strings.Repeat("low 3 40\n", 31), strings.Repeat("low 3 40\n", 222),
		// Just as long as a text can be.
		strings.Repeat("a", 2000), strings.Repeat("\n", 2000), strings.Repeat(" ", 2000), strings.Repeat("low 3 40\n", 30) + strings.Repeat("\n", 2000-30*9),
	} {
		if p, e := dip.Read(example(), text); len(p) != 0 || e != api.ErrForm {
			t.Errorf("%q: Read = %v, %d", text, p, e)
		}
	}
}

// P4.6: a text that is too long is this first.
func TestReadRefusesLongTexts(t *testing.T) {
	for _, text := range []string{strings.Repeat("a", 2001), strings.Repeat("low 3 40\n", 223), "low 3 40\n" + strings.Repeat("\n", 1992), strings.Repeat("\x00", 1000000)} {
		if p, e := dip.Read(example(), text); len(p) != 0 || e != api.ErrLong {
			t.Errorf("%d bytes: Read = %v, %d", len(text), p, e)
		}
	}
}

// P4.15: a plan is read as it was written.
func TestPlansComeBack(t *testing.T) {
	turned := 0
	eachCase(415, 3000, 30, 100, func(r *rand.Rand, x api.DpShop, _ api.DpTaper, p []api.DpDip) {
		text, e := dip.Write(x, p)
		again, f := dip.Read(x, text)
		if e != api.OK || f != api.OK || !slices.Equal(again, p) || !isText(x, text) {
			t.Fatalf("%v, %v: Write = %q, %d; Read = %v, %d", x, p, text, e, again, f)
		}
		turned += strings.Count(text, " turned\n")
	})
	if turned < 1000 {
		t.Errorf("just %d dips turned", turned)
	}
}

// textForm is what all texts look like.
var textForm = regexp.MustCompile(`\A([a-z-]+ (0|[1-9][0-9]{0,2}) (0|[1-9][0-9]{0,2})( turned)?\n)*\z`)

// isText reports whether a text is that of a plan without an error, as seen by another reader.
func isText(x api.DpShop, text string) bool {
	lines := strings.Split(text, "\n")
	if !textForm.MatchString(text) || len(lines) > 31 {
		return false
	}
	for _, l := range lines[:len(lines)-1] {
		words := strings.Fields(l)
		seconds, _ := strconv.Atoi(words[1])
		pause, _ := strconv.Atoi(words[2])
		named := slices.ContainsFunc(x.Baths, func(b api.DpBath) bool { return b.Name == words[0] })
		if !named || seconds <= x.Draw || seconds > 600 || pause > 600 {
			return false
		}
	}
	return true
}

// changed is a text with some random bytes changed, put in or taken out, or a line moved, or twice there.
func changed(r *rand.Rand, text string) string {
	const bytes = "\n  0019abx-+"
	for range r.Intn(3) {
		i := r.Intn(len(text) + 1)
		piece := string(bytes[r.Intn(len(bytes))])
		if r.Intn(6) == 0 {
			piece = " turned"
		}
		switch r.Intn(5) {
		case 0:
			text = text[:i] + piece + text[i:]
		case 1:
			text = text[:i] + text[min(i+1, len(text)):]
		case 2:
			text = text[:i] + piece + text[min(i+1, len(text)):]
		case 3:
			lines := strings.SplitAfter(text, "\n")
			at := r.Intn(len(lines))
			text = strings.Join(lines[at:], "") + strings.Join(lines[:at], "")
		case 4:
			lines := strings.SplitAfter(text, "\n")
			at := r.Intn(len(lines))
			text = strings.Join(lines[:at], "") + lines[at] + strings.Join(lines[at:], "")
		}
	}
	return text
}

// P4.6, P4.15: a changed text is refused, or written as it was read.
func TestTextsComeBack(t *testing.T) {
	read := map[api.Errno]int{}
	eachCase(4150, 20000, 5, 100, func(r *rand.Rand, x api.DpShop, _ api.DpTaper, p []api.DpDip) {
		text, _ := dip.Write(x, p)
		text = changed(r, text)
		again, e := dip.Read(x, text)
		read[e]++
		if (e == api.OK) != isText(x, text) || e != api.OK && (e != api.ErrForm || len(again) != 0) {
			t.Fatalf("%v, %q: Read = %v, %d", x, text, again, e)
		}
		if written, f := dip.Write(x, again); e == api.OK && (written != text || f != api.OK) {
			t.Fatalf("%v, %q: Write = %q, %d", x, text, written, f)
		}
	})
	if read[api.OK] < 2000 || read[api.ErrForm] < 2000 {
		t.Errorf("not enough of both: %v", read)
	}
}

// FuzzRead looks for texts that Read sees otherwise than isText.
func FuzzRead(f *testing.F) {
	f.Add("low 3 40\nlow 3 30 turned\n")
	f.Add("")
	f.Fuzz(func(t *testing.T, text string) {
		p, e := dip.Read(example(), text)
		if len(text) > api.MaxDpText {
			if e != api.ErrLong {
				t.Errorf("%q: Read: %d", text, e)
			}
			return
		}
		if (e == api.OK) != isText(example(), text) {
			t.Errorf("%q: Read = %v, %d", text, p, e)
		}
		if again, _ := dip.Write(example(), p); e == api.OK && again != text {
			t.Errorf("%q: Write = %q", text, again)
		}
	})
}
