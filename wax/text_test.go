package wax_test

import (
	"math/rand"
	"reflect"
	"regexp"
	"strconv"
	"strings"
	"testing"

	"stearin/api"
	"stearin/wax"
)

// P1.6, and the example of the chapter.
func TestWriteAndReadTheExample(t *testing.T) {
	if s, e := wax.Write(example()); s != exampleText || e != api.OK {
		t.Errorf("Write = %q, %d", s, e)
	}
	if x, e := wax.Read(exampleText); !reflect.DeepEqual(x, example()) || e != api.OK {
		t.Errorf("Read = %v, %d", x, e)
	}
}

// P1.6, P1.14: numbers and names at their limits.
func TestReadAtTheLimits(t *testing.T) {
	for _, text := range []string{
		"tests a 0\npure 1\nb 0 0\n",
		"tests a 10000\npure 1000\nb 0 100000\n",
		"tests a 1\npure 1\nb 100000 100000\n",
		"tests tests 1\npure 1\ntests 0 1\npure 0 1\n",
		"tests pure 1 tests 2\npure 10\na 0 1 2 3\n",
		"tests " + strings.Repeat("a", 20) + " 1\npure 1\na-b 0 1\n",
	} {
		x, e := wax.Read(text)
		if part, at, f := wax.Check(x); e != api.OK || part != 0 || at != 0 || f != api.OK {
			t.Errorf("%q: Read = %v, %d", text, x, e)
		}
		if again, e := wax.Write(x); again != text || e != api.OK {
			t.Errorf("%q: Write = %q, %d", text, again, e)
		}
	}
	full, e := wax.Write(fullTable())
	if x, f := wax.Read(full); e != api.OK || f != api.OK || !reflect.DeepEqual(x, fullTable()) {
		t.Errorf("Read = %v, %d, %d", x, e, f)
	}
}

// P1.6: what nearly is the text of a table.
func TestReadRefusesOtherTexts(t *testing.T) {
	for _, text := range []string{
		"", "\n", "\n\n\n", " ", "tests", "tests\n", "tests a 1\n", "tests a 1\npure 1\n", "tests a 1\npure 1", "tests a 1\nb 0 1\n", "pure 1\nb 0 1\n",
		// Lines that are not ended, empty, twice, or in another order.
		"tests a 1\npure 1\nb 0 1", "tests a 1\npure 1\nb 0 1\n\n", "\ntests a 1\npure 1\nb 0 1\n", "tests a 1\n\npure 1\nb 0 1\n", "tests a 1\npure 1\n\nb 0 1\n", "tests a 1\r\npure 1\r\nb 0 1\r\n", "pure 1\ntests a 1\nb 0 1\n", "tests a 1\nb 0 1\npure 1\n", "tests a 1\ntests a 1\npure 1\nb 0 1\n", "tests a 1\npure 1\npure 1\nb 0 1\n", "tests a 1 pure 1\nb 0 1\n",
		// Words.
		"test a 1\npure 1\nb 0 1\n", "Tests a 1\npure 1\nb 0 1\n", "tests a 1\npur 1\nb 0 1\n", "tests a 1\npures 1\nb 0 1\n", "tests a 1\n1\nb 0 1\n", "a 1\npure 1\nb 0 1\n", "tests A 1\npure 1\nb 0 1\n", "tests a- 1\npure 1\nb 0 1\n", "tests a 1\npure 1\nB 0 1\n", "tests a 1\npure 1\nb--c 0 1\n", "tests a 1\npure 1\n" + strings.Repeat("b", 21) + " 0 1\n", "tests a 1\npure 1\n0 1\n",
		// Spaces.
		"tests  a 1\npure 1\nb 0 1\n", "tests a  1\npure 1\nb 0 1\n", " tests a 1\npure 1\nb 0 1\n", "tests a 1 \npure 1\nb 0 1\n", "tests a 1\npure  1\nb 0 1\n", "tests a 1\npure 1 \nb 0 1\n", "tests a 1\npure 1\nb  0 1\n", "tests a 1\npure 1\nb 0 1 \n", "tests a 1\npure 1\n b 0 1\n", "tests a 1\npure 1\nb\t0 1\n", "tests a 1\npure 1\nb 0\u00a01\n",
		// Numbers.
		"tests a 01\npure 1\nb 0 1\n", "tests a 00\npure 1\nb 0 1\n", "tests a +1\npure 1\nb 0 1\n", "tests a -1\npure 1\nb 0 1\n", "tests a -0\npure 1\nb 0 1\n", "tests a x\npure 1\nb 0 1\n", "tests a 1\npure 1\nb 0 0x1\n", "tests a 1\npure 1\nb 0 1_0\n", "tests a 1\npure 1\nb 0 1.0\n", "tests a 1\npure 1\nb 0 1e1\n", "tests a 1\npure 1\nb 0 ١\n", "tests a 1\npure 001\nb 0 1\n", "tests a 1\npure 1\nb -1 1\n", "tests a 1\npure 1\nb 0 99999999999999999999\n", "tests a 1\npure 1\nb 0 18446744073709551617\n", "tests a 1\npure 1\nb 0 " + strings.Repeat("9", 1900) + "\n",
		// Just beyond a range.
		"tests a 10001\npure 1\nb 0 1\n", "tests a 1\npure 0\nb 0 1\n", "tests a 1\npure 1001\nb 0 1\n", "tests a 1\npure 1\nb 0 100001\n", "tests a 1\npure 1\nb 1 0\n",
		// Too few or too many of something.
		"tests\npure 1\nb\n", "tests\npure 1\nb 0 1\n", "tests a\npure 1\nb 0 1\n", "tests a 1 c\npure 1\nb 0 1 0 1\n", "tests a 1\npure\nb 0 1\n", "tests a 1\npure 1 1\nb 0 1\n", "tests a 1\npure 1\nb\n", "tests a 1\npure 1\nb 0\n", "tests a 1\npure 1\nb 0 1 2\n", "tests a 1\npure 1\nb 0 1 2 3\n", "tests a 1 c 1\npure 1\nb 0 1\n", "tests a 1 b 1 c 1 d 1 e 1 f 1\npure 1\nb 0 1 0 1 0 1 0 1 0 1 0 1\n", "tests x 1\npure 1\na 0 1\nb 0 1\nc 0 1\nd 0 1\ne 0 1\nf 0 1\ng 0 1\nh 0 1\ni 0 1\n",
		// Twice.
		"tests a 1 a 1\npure 1\nb 0 1 0 1\n", "tests a 1\npure 1\nb 0 1\nb 0 1\n",
		// Just as long as a text can be.
		strings.Repeat("a", 2000), strings.Repeat("\n", 2000), strings.Repeat(" ", 2000), exampleText + strings.Repeat("\n", 2000-len(exampleText)),
	} {
		if x, e := wax.Read(text); e != api.ErrForm || !reflect.DeepEqual(x, api.WxTable{}) {
			t.Errorf("%q: Read = %v, %d", text, x, e)
		}
	}
}

// P1.6: a text that is too long is this first.
func TestReadRefusesLongTexts(t *testing.T) {
	for _, text := range []string{strings.Repeat("a", 2001), exampleText + strings.Repeat("\n", 2001-len(exampleText)), strings.Repeat("\x00", 1000000)} {
		if x, e := wax.Read(text); e != api.ErrLong || !reflect.DeepEqual(x, api.WxTable{}) {
			t.Errorf("%d bytes: Read = %v, %d", len(text), x, e)
		}
	}
}

// P1.14: a table is read as it was written.
func TestTablesComeBack(t *testing.T) {
	eachCase(114, 2000, func(r *rand.Rand, x api.WxTable, _ []int, _ mixture) {
		text, e := wax.Write(x)
		y, f := wax.Read(text)
		if e != api.OK || f != api.OK || !reflect.DeepEqual(x, y) || !isText(text) {
			t.Fatalf("%v: Write = %q, %d; Read = %v, %d", x, text, e, y, f)
		}
	})
}

// textForm is what all texts look like.
var textForm = regexp.MustCompile(`\Atests( [a-z-]+ (0|[1-9][0-9]{0,5}))+\npure (0|[1-9][0-9]{0,5})\n([a-z-]+( (0|[1-9][0-9]{0,5}) (0|[1-9][0-9]{0,5}))+\n)+\z`)

// isText reports whether a text is that of a table without an error, as seen by another reader.
func isText(text string) bool {
	if !textForm.MatchString(text) {
		return false
	}
	number := func(s string) int {
		n, _ := strconv.Atoi(s)
		return n
	}
	lines := strings.Split(strings.TrimSuffix(text, "\n"), "\n")
	var x api.WxTable
	tests := strings.Fields(lines[0])[1:]
	for i := 0; i < len(tests); i += 2 {
		x.Props = append(x.Props, api.WxProp{Name: tests[i], Error: number(tests[i+1])})
	}
	x.Purity = number(strings.Fields(lines[1])[1])
	for _, l := range lines[2:] {
		words := strings.Fields(l)
		k := api.WxKind{Name: words[0]}
		for i := 1; i < len(words); i += 2 {
			k.Props = append(k.Props, span(number(words[i]), number(words[i+1])))
		}
		x.Kinds = append(x.Kinds, k)
	}
	_, _, e := wax.Check(x)
	return e == api.OK
}

// changed is a text with some random bytes changed, put in or taken out, or a line moved.
func changed(r *rand.Rand, text string) string {
	const bytes = "\n  0019abz-+"
	for range 1 + r.Intn(2) {
		i := r.Intn(len(text) + 1)
		piece := string(bytes[r.Intn(len(bytes))])
		switch r.Intn(4) {
		case 0:
			text = text[:i] + piece + text[i:]
		case 1:
			text = text[:i] + text[min(i+1, len(text)):]
		case 2:
			text = text[:i] + piece + text[min(i+1, len(text)):]
		case 3:
			lines := strings.SplitAfter(text, "\n")
			at := r.Intn(len(lines))
			text = strings.Join(lines[at:], "") + strings.Join(lines[:at], "")
		}
	}
	return text
}

// P1.6, P1.14: a changed text is refused, or written as it was read.
func TestTextsComeBack(t *testing.T) {
	read := map[api.Errno]int{}
	eachCase(115, 10000, func(r *rand.Rand, x api.WxTable, _ []int, _ mixture) {
		text, _ := wax.Write(x)
		text = changed(r, text)
		y, e := wax.Read(text)
		read[e]++
		if (e == api.OK) != isText(text) || e != api.OK && (e != api.ErrForm || !reflect.DeepEqual(y, api.WxTable{})) {
			t.Fatalf("%q: Read = %v, %d", text, y, e)
		}
		if again, f := wax.Write(y); e == api.OK && (again != text || f != api.OK) {
			t.Fatalf("%q: Write = %q, %d", text, again, f)
		}
	})
	if read[api.OK] < 500 || read[api.ErrForm] < 500 {
		t.Errorf("not enough of both: %v", read)
	}
}

// FuzzRead looks for texts that Read sees otherwise than isText.
func FuzzRead(f *testing.F) {
	f.Add(exampleText)
	f.Add("tests a 1\npure 1\nb 0 1\n")
	f.Fuzz(func(t *testing.T, text string) {
		x, e := wax.Read(text)
		if len(text) > api.MaxWxText {
			if e != api.ErrLong {
				t.Errorf("%q: Read: %d", text, e)
			}
			return
		}
		if (e == api.OK) != isText(text) {
			t.Errorf("%q: Read = %v, %d", text, x, e)
		}
		if again, _ := wax.Write(x); e == api.OK && again != text {
			t.Errorf("%q: Write = %q", text, again)
		}
	})
}
