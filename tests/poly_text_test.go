package tests

import (
	"fmt"
	"slices"
	"strings"
	"testing"

	"loop.example/g01146/impl"
)

// Promise 4, last part: polynomials have texts and come back.

func textOf(p int) string {
	words := []string{}
	for _, k := range buttonsOf(p) {
		word := fmt.Sprintf("x%d", k)
		switch k {
		case 0:
			word = "1"
		case 1:
			word = "x"
		}
		words = append(words, word)
	}
	if len(words) == 0 {
		return "0"
	}
	slices.Reverse(words)
	return strings.Join(words, "+")
}

func wantText(t *testing.T, what, text string, ok bool, want string) {
	t.Helper()
	if !ok || text != want {
		t.Errorf("%s: %q %v, want %q true", what, text, ok, want)
	}
}

func wantNoText(t *testing.T, what, text string, ok bool) {
	t.Helper()
	if ok || text != "" {
		t.Errorf("%s: %q %v, want no text", what, text, ok)
	}
}

func TestPolyText(t *testing.T) {
	for _, p := range somePolys(&dice{state: 81}) {
		text, ok := impl.PolyText(p)
		wantText(t, fmt.Sprint(p), text, ok, textOf(p))
		x, ok := impl.ParsePoly(text)
		wantNumber(t, text, x, ok, p)
	}
	for p, want := range map[int]string{0: "0", 1: "1", 2: "x", 3: "x+1", 4: "x2", 5: "x2+1", 6: "x2+x", 7: "x2+x+1", 1024: "x10", power(40): "x40", power(40) + power(11) + 2: "x40+x11+x"} {
		text, ok := impl.PolyText(p)
		wantText(t, fmt.Sprint(p), text, ok, want)
		x, ok := impl.ParsePoly(want)
		wantNumber(t, want, x, ok, p)
	}
}

func TestParsePolyInvalid(t *testing.T) {
	for _, s := range []string{
		"", "+", "x2+", "+x2", "x2++1", "x41", "x42", "x99", "x100", "x64", "x63", "x-1", "x-2", "x0", "x1", "x00", "x01", "x02", "x+2", "x +1", " x", "x ", "x2 + 1",
		"1+x", "x+x2", "x2+x3", "x+x", "1+1", "x2+x2", "x2+x+x", "0+0", "x+0", "0+1", "0+x", "00", "01", "2", "3", "-1", "-x", "X", "X2", "xx", "2x", "x2x", "x^2", "x2+x+1\n", "x2\x00",
		"x99999999999999999999", "x18446744073709551618", "x4294967298", "x1_0", "x0x2", "x0b10", "x２", "x2+x+1+", "x40+x41", "x41+x40", "x2.0", "x2e1", "11", "10",
	} {
		x, ok := impl.ParsePoly(s)
		wantNoNumber(t, fmt.Sprintf("%q", s), x, ok)
	}
}

// checkPolyText requires that a text either is that of its polynomial or has none.
func checkPolyText(t *testing.T, s string) {
	t.Helper()
	p, ok := impl.ParsePoly(s)
	if !ok {
		wantNoNumber(t, fmt.Sprintf("%q", s), p, ok)
		return
	}
	if p < 0 || p >= power(41) || textOf(p) != s {
		t.Errorf("%q is parsed as %d", s, p)
	}
}

// TestParsePolyOfAllShort parses all short texts of the bytes that texts have.
func TestParsePolyOfAllShort(t *testing.T) {
	texts := map[string]int{}
	for p := range power(10) {
		texts[textOf(p)] = p
	}
	for _, k := range []int{10, 11, 12, 20, 21, 22} {
		for p := range 8 {
			texts[textOf(power(k)+p)] = power(k) + p
		}
	}
	words := []string{""}
	for range 7 {
		var longer []string
		for _, w := range words {
			for _, b := range "x+012" {
				longer = append(longer, w+string(b))
			}
		}
		for _, w := range longer {
			x, ok := impl.ParsePoly(w)
			if p, known := texts[w]; known {
				wantNumber(t, w, x, ok, p)
			} else {
				checkPolyText(t, w)
			}
		}
		words = longer
	}
}

func TestParsePolyChanged(t *testing.T) {
	for _, text := range []string{"x2+x+1", "x40+x39+x10+x9", "x", "0", "1", "x12+x2+1"} {
		eachChange(text, func(s string) { checkPolyText(t, s) })
	}
}
