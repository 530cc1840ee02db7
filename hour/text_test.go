package hour_test

import (
	"math/rand"
	"reflect"
	"regexp"
	"slices"
	"strconv"
	"strings"
	"testing"

	"stearin/api"
	"stearin/hour"
)

// P9.6, and the example of the chapter.
func TestWriteAndReadTheExample(t *testing.T) {
	if s, e := hour.Write(example(), exampleT()); s != goodText || e != api.OK {
		t.Errorf("Write = %q, %d", s, e)
	}
	if x, e := hour.Read(example(), goodText); !reflect.DeepEqual(x, exampleT()) || e != api.OK {
		t.Errorf("Read = %v, %d", x, e)
	}
}

// P9.6: a test that is not possible has a text, too.
func TestWriteAnImpossibleTest(t *testing.T) {
	text := "test birthday 50\n0 100000\n60 96000\n120 91000\n180 88000\n"
	if s, e := hour.Write(works(), of(2, exampleU())); s != text || e != api.OK {
		t.Errorf("Write = %q, %d", s, e)
	}
	if x, e := hour.Read(works(), text); !reflect.DeepEqual(x, of(2, exampleU())) || e != api.OK {
		t.Errorf("Read = %v, %d", x, e)
	}
}

// longNames is a shop with names that are hard to read.
func longNames() api.HrShop {
	return with(func(s *api.HrShop) { s.Kinds[0].Name, s.Kinds[1].Name = strings.Repeat("a", 20), "test" })
}

// P9.6, P9.14: numbers and names at their limits.
func TestReadAtTheLimits(t *testing.T) {
	long := "test " + strings.Repeat("a", 20) + " 10000\n"
	for i := range 10 {
		long += strconv.Itoa(longest-9+i) + " 10000000\n"
	}
	for _, text := range []string{
		"test test 0\n0 0\n1 0\n",
		"test birthday 10000\n0 10000000\n1000000 10000000\n",
		"test birthday 1\n999999 0\n1000000 1\n",
		"test birthday 10\n10 100\n20 200\n",
		long,
	} {
		x, e := hour.Read(longNames(), text)
		if e != api.OK || len(x.Marks) < 2 {
			t.Errorf("%q: Read = %v, %d", text, x, e)
		}
		if again, e := hour.Write(longNames(), x); again != text || e != api.OK {
			t.Errorf("%q: Write = %q, %d", text, again, e)
		}
	}
}

// P9.6: the kind is found by its whole name.
func TestReadFindsTheKind(t *testing.T) {
	s := api.HrShop{}
	names := []string{"a", "ab", "b", "a-b", "aa", "ba"}
	for _, name := range names {
		s.Kinds = append(s.Kinds, kind(name, 1, 1, 0))
	}
	for i, name := range names {
		if x, e := hour.Read(s, "test "+name+" 0\n0 0\n1 0\n"); x.Kind != i || e != api.OK {
			t.Errorf("%s: Read = %v, %d", name, x, e)
		}
	}
	s.Rules = []api.HrRule{rule("c", span(0, 0), span(0, 0))}
	for _, name := range []string{"c", "", "bb", "a-", "A", "ab-a"} {
		if x, e := hour.Read(s, "test "+name+" 0\n0 0\n1 0\n"); e != api.ErrForm || !reflect.DeepEqual(x, api.HrTest{}) {
			t.Errorf("%s: Read = %v, %d", name, x, e)
		}
	}
}

// P9.6: what nearly is the text of a test.
func TestReadRefusesOtherTexts(t *testing.T) {
	for _, text := range []string{
		"", "\n", "\n\n\n", " ", "test", "test\n", "test altar\n", "test altar 5", "test altar 5\n", "altar 5\n0 0\n1 0\n", "0 0\n1 0\n",
		// Lines that are not ended, empty, twice, or in another order.
		"test altar 5\n0 0\n1 0", "test altar 5\n0 0\n1 0\n\n", "\ntest altar 5\n0 0\n1 0\n", "test altar 5\n\n0 0\n1 0\n", "test altar 5\n0 0\n\n1 0\n", "test altar 5\r\n0 0\r\n1 0\r\n", "test altar 5\r0 0\r1 0\r", "0 0\ntest altar 5\n1 0\n", "0 0\n1 0\ntest altar 5\n", "test altar 5\ntest altar 5\n0 0\n1 0\n", "test altar 5 0 0\n1 0\n", "test altar 5\n0 0 1 0\n", "test altar 5\n0 0\n1 0\ntest altar 5\n0 0\n1 0\n", "test\naltar 5\n0 0\n1 0\n", "test altar\n5\n0 0\n1 0\n", "test altar 5\n0\n0\n1\n0\n",
		// Words.
		"tests altar 5\n0 0\n1 0\n", "tes altar 5\n0 0\n1 0\n", "Test altar 5\n0 0\n1 0\n", "altar test 5\n0 0\n1 0\n", "test church 5\n0 0\n1 0\n", "test Altar 5\n0 0\n1 0\n", "test altars 5\n0 0\n1 0\n", "test alta 5\n0 0\n1 0\n", "test 0 5\n0 0\n1 0\n", "test 5\n0 0\n1 0\n", "test altar altar 5\n0 0\n1 0\n", "test altar lamp 5\n0 0\n1 0\n", "altar 5\n0 0\n1 0\n",
		// Spaces.
		"test  altar 5\n0 0\n1 0\n", "test altar  5\n0 0\n1 0\n", " test altar 5\n0 0\n1 0\n", "test altar 5 \n0 0\n1 0\n", "test altar 5\n 0 0\n1 0\n", "test altar 5\n0  0\n1 0\n", "test altar 5\n0 0 \n1 0\n", "test altar 5\n0 0\n1 0 \n", "test altar 5\n0 0\n1 0\n ", "test\taltar 5\n0 0\n1 0\n", "test altar 5\n0\t0\n1 0\n", "test altar 5\n0\u00a00\n1 0\n", "test altar 5\n0\v0\n1 0\n",
		// Numbers.
		"test altar 05\n0 0\n1 0\n", "test altar 00\n0 0\n1 0\n", "test altar +5\n0 0\n1 0\n", "test altar -5\n0 0\n1 0\n", "test altar -0\n0 0\n1 0\n", "test altar x\n0 0\n1 0\n", "test altar \n0 0\n1 0\n", "test altar 5\n00 0\n1 0\n", "test altar 5\n0 00\n1 0\n", "test altar 5\n0 0\n01 0\n", "test altar 5\n0 0\n+1 0\n", "test altar 5\n-1 0\n1 0\n", "test altar 5\n-0 0\n1 0\n", "test altar 5\n0 -1\n1 0\n", "test altar 5\n0 -0\n1 0\n", "test altar 5\n0 0x1\n1 0\n", "test altar 5\n0 1_0\n1 0\n", "test altar 5\n0 1.0\n1 0\n", "test altar 5\n0 1e1\n1 0\n", "test altar 5\n0 ١\n1 0\n", "test altar 5\n0 99999999999999999999\n1 0\n", "test altar 5\n0 18446744073709551617\n1 0\n", "test altar 18446744073709551617\n0 0\n1 0\n", "test altar 5\n0 " + strings.Repeat("9", 270) + "\n1 0\n",
		// Just beyond a range, or the order.
		"test altar 10001\n0 0\n1 0\n", "test altar 5\n0 0\n1000001 0\n", "test altar 5\n0 10000001\n1 0\n", "test altar 5\n0 0\n1 10000001\n", "test altar 5\n1 0\n1 0\n", "test altar 5\n2 0\n1 0\n", "test altar 5\n0 0\n1 0\n1 0\n",
		// Too few or too many of something.
		"test altar\n0 0\n1 0\n", "test altar 5 5\n0 0\n1 0\n", "test altar 5\n0 0\n", "test altar 5\n0\n1 0\n", "test altar 5\n0 0\n1\n", "test altar 5\n0 0 0\n1 0\n", "test altar 5\n0 0\n1 0 0\n", "test altar 5\n0 0\n1 0\n2\n", "test altar 5\n0 0\n1 0\n2 0\n3 0\n4 0\n5 0\n6 0\n7 0\n8 0\n9 0\n10 0\n",
		// Just as long as a text can be.
		strings.Repeat("a", 300), strings.Repeat("\n", 300), strings.Repeat(" ", 300), goodText + strings.Repeat("\n", 300-len(goodText)),
	} {
		if x, e := hour.Read(works(), text); e != api.ErrForm || !reflect.DeepEqual(x, api.HrTest{}) {
			t.Errorf("%q: Read = %v, %d", text, x, e)
		}
	}
}

// P9.6: a text that is too long is this first.
func TestReadRefusesLongTexts(t *testing.T) {
	for _, text := range []string{strings.Repeat("a", 301), goodText + strings.Repeat("\n", 301-len(goodText)), strings.Repeat("\x00", 1000000)} {
		if x, e := hour.Read(works(), text); e != api.ErrLong || !reflect.DeepEqual(x, api.HrTest{}) {
			t.Errorf("%d bytes: Read = %v, %d", len(text), x, e)
		}
	}
}

// P9.14: a test is read as it was written.
func TestTestsComeBack(t *testing.T) {
	longestText := 0
	eachWorks(914, 3000, large(), func(r *rand.Rand, s api.HrShop, l []api.HrTest) {
		for _, x := range l {
			text, e := hour.Write(s, x)
			y, f := hour.Read(s, text)
			if e != api.OK || f != api.OK || !reflect.DeepEqual(x, y) || !isText(s, text) {
				t.Fatalf("%v: Write = %q, %d; Read = %v, %d", x, text, e, y, f)
			}
			longestText = max(longestText, len(text))
		}
	})
	if longestText < 150 {
		t.Errorf("no text is longer than %d", longestText)
	}
}

// textForm is what all texts look like.
var textForm = regexp.MustCompile(`\Atest [a-z-]+ (0|[1-9][0-9]{0,7})\n((0|[1-9][0-9]{0,7}) (0|[1-9][0-9]{0,7})\n){2,10}\z`)

// isText reports whether a text is that of a test of a shop, as seen by another reader.
func isText(s api.HrShop, text string) bool {
	if !textForm.MatchString(text) {
		return false
	}
	words := strings.Fields(text)
	if !slices.ContainsFunc(s.Kinds, func(k api.HrKind) bool { return k.Name == words[1] }) {
		return false
	}
	number := func(s string) int {
		n, _ := strconv.Atoi(s)
		return n
	}
	if number(words[2]) > 10000 {
		return false
	}
	before := -1
	for i := 3; i < len(words); i += 2 {
		minute, weight := number(words[i]), number(words[i+1])
		if minute <= before || minute > longest || weight > heaviest {
			return false
		}
		before = minute
	}
	return true
}

// disturbed is a text with some random bytes changed, put in or taken out, or a line moved.
func disturbed(r *rand.Rand, text string) string {
	const bytes = "\n  0019abz-+"
	for range 1 + r.Intn(2) {
		i := r.Intn(len(text) + 1)
		piece := string(bytes[r.Intn(len(bytes))])
		switch r.Intn(5) {
		case 0:
			text = text[:i] + piece + text[i:]
		case 1:
			text = text[:i] + text[min(i+1, len(text)):]
		case 2:
			text = text[:i] + piece + text[min(i+1, len(text)):]
		case 3:
			lines := strings.SplitAfter(text, "\n")
			at := r.Intn(len(lines))
			text = strings.Join(lines[at:], "") + strings.Join(lines[:at], "")
		case 4:
			lines := strings.SplitAfter(text, "\n")
			at := r.Intn(len(lines))
			text = strings.Join(slices.Delete(lines, at, at+1), "")
		}
	}
	return text
}

// P9.6, P9.14: a disturbed text is refused, or written as it was read.
func TestTextsComeBack(t *testing.T) {
	read := map[api.Errno]int{}
	eachWorks(915, 20000, small(), func(r *rand.Rand, s api.HrShop, l []api.HrTest) {
		text, _ := hour.Write(s, l[0])
		text = disturbed(r, text)
		y, e := hour.Read(s, text)
		read[e]++
		if (e == api.OK) != isText(s, text) || e != api.OK && (e != api.ErrForm || !reflect.DeepEqual(y, api.HrTest{})) {
			t.Fatalf("%q: Read = %v, %d", text, y, e)
		}
		if again, f := hour.Write(s, y); e == api.OK && (again != text || f != api.OK) {
			t.Fatalf("%q: Write = %q, %d", text, again, f)
		}
	})
	if read[api.OK] < 500 || read[api.ErrForm] < 500 {
		t.Errorf("not enough of both: %v", read)
	}
}

// FuzzRead looks for texts that Read sees otherwise than isText.
func FuzzRead(f *testing.F) {
	f.Add(goodText)
	f.Add("test lamp 0\n0 0\n1 0\n")
	f.Fuzz(func(t *testing.T, text string) {
		x, e := hour.Read(works(), text)
		if len(text) > api.MaxHrText {
			if e != api.ErrLong {
				t.Errorf("%q: Read: %d", text, e)
			}
			return
		}
		if (e == api.OK) != isText(works(), text) {
			t.Errorf("%q: Read = %v, %d", text, x, e)
		}
		if again, _ := hour.Write(works(), x); e == api.OK && again != text {
			t.Errorf("%q: Write = %q", text, again)
		}
	})
}
