package front

import (
	"fmt"
	"math/rand"
	"strings"
	"testing"

	"ashlar/api"
)

const themselves = "ABCDEFGHIJKLMNOPQRSTUVWXYZabcdefghijklmnopqrstuvwxyz0123456789/._-"

// wordOf is a text's word, reckoned byte by byte from the document.
func wordOf(s string) string {
	if s == "" {
		return "%"
	}
	var out strings.Builder
	for i := range len(s) {
		if c := s[i : i+1]; strings.Contains(themselves, c) {
			out.WriteString(c)
		} else {
			fmt.Fprintf(&out, "%%%02X", s[i])
		}
	}
	return out.String()
}

// holds asks Unquote for a word's text.
func holds(t *testing.T, w, want string) {
	t.Helper()
	if got, e := Unquote(w); e != api.OK || got != want {
		t.Errorf("Unquote(%q): %q, error %d, not %q", w, got, e, want)
	}
}

// noWord asks Unquote for what stands for nothing.
func noWord(t *testing.T, w string) {
	t.Helper()
	if got, e := Unquote(w); e != api.ErrLine || got != "" {
		t.Errorf("Unquote(%q): %q, error %d, not error %d alone", w, got, e, api.ErrLine)
	}
}

// P18.1: the word that stands for a text, and the text that a word stands for.
func TestWords(t *testing.T) {
	for text, word := range map[string]string{
		"":                 "%",
		"a b":              "a%20b",
		" ":                "%20",
		"%":                "%25",
		"%%":               "%25%25",
		"%41":              "%2541",
		"/d/x_1.Z-":        "/d/x_1.Z-",
		"-":                "-",
		"..":               "..",
		"\n":               "%0A",
		"\x00\x0f\x10\xff": "%00%0F%10%FF",
		"\u00e4":           "%C3%A4",
		"\u65e5":           "%E6%97%A5",
		"a,b":              "a%2Cb",
		"#":                "%23",
		"@[`{":             "%40%5B%60%7B", // beside letters
		"09:":              "09%3A",
		"~+=":              "%7E%2B%3D",
		themselves:         themselves,
	} {
		if got := Quote(text); got != word {
			t.Errorf("Quote(%q): %q, not %q", text, got, word)
		}
		holds(t, word, text)
	}
}

// P18.1: each byte, also beside others.
func TestEachByte(t *testing.T) {
	for b := range 256 {
		one := string([]byte{byte(b)})
		for _, text := range []string{one, one + one, "x" + one + "Y", one + "41", "\xc3" + one} {
			if got := Quote(text); got != wordOf(text) {
				t.Errorf("Quote(%q): %q, not %q", text, got, wordOf(text))
			}
			holds(t, wordOf(text), text)
		}
	}
}

// P18.1: what is no word.
func TestNoWords(t *testing.T) {
	for _, w := range []string{
		"", " ", "a b", "a ", " a", "\n", "a\n", "\r", "\t", "\x00", "a\x00", "\xff", "a,b", "#", "+", "~", "\u00e4", "\u65e5",
		"%%", "%2", "%A", "a%", "%20%", "%%20", "%%%", "% ", "%2 ", "% 0",
		"%41", "%7A", "%30", "%39", "%2F", "%2E", "%5F", "%2D", "a%41", "%20%41", "%5A", "%61",
		"%2f", "%0a", "%Ff", "%fF", "%ff", "%c3", "%G0", "%0G", "%-1", "%+1", "%x1", "%/0", "%:0", "%@0", "%0x20", "%\xff\xff",
	} {
		noWord(t, w)
		noWord(t, "x"+strings.Repeat("%20", 40)+w+" ")
	}
}

// P18.4: each word stands for one text, each text has one word: all short texts, and all short words.
func TestWordsAreOneToOne(t *testing.T) {
	texts := map[string]string{"%": ""}
	add := func(text string) {
		w := Quote(text)
		if other, ok := texts[w]; ok {
			t.Errorf("%q is the word of %q and of %q", w, other, text)
		}
		texts[w] = text
	}
	for a := range 256 {
		add(string([]byte{byte(a)}))
		for b := range 256 {
			add(string([]byte{byte(a), byte(b)}))
		}
	}
	for a := range 256 {
		words := []string{string([]byte{byte(a)})}
		for b := range 256 {
			words = append(words, string([]byte{byte(a), byte(b)}), string([]byte{'%', byte(a), byte(b)}))
		}
		for _, w := range words {
			if text, ok := texts[w]; ok {
				holds(t, w, text)
			} else {
				noWord(t, w)
			}
		}
	}
}

// P18.4: random texts, and words of which a byte is another one.
func TestRandomWords(t *testing.T) {
	r := rand.New(rand.NewSource(18))
	for range 20000 {
		text := make([]byte, r.Intn(12))
		for i := range text {
			text[i] = "aZ09/._- %\x00\xff,#\n"[r.Intn(15)]
		}
		w := Quote(string(text))
		if w != wordOf(string(text)) {
			t.Fatalf("Quote(%q): %q", text, w)
		}
		holds(t, w, string(text))
		turned := []byte(w)
		turned[r.Intn(len(w))] = "a4F%0f \xff2g-"[r.Intn(11)]
		switch got, e := Unquote(string(turned)); {
		case e == api.OK && wordOf(got) != string(turned):
			t.Fatalf("Unquote(%q): %q, whose word is another one", turned, got)
		case e != api.OK && (e != api.ErrLine || got != ""):
			t.Fatalf("Unquote(%q): %q, error %d", turned, got, e)
		}
	}
}

// P18.1, P1: a word has no length that it may not have.
func TestLongWords(t *testing.T) {
	plain, strange := strings.Repeat("a", 1<<21), strings.Repeat("\xe4", 1<<20)
	if Quote(plain) != plain {
		t.Error("letters are others")
	}
	holds(t, plain, plain)
	w := Quote(strange)
	if w != strings.Repeat("%E4", 1<<20) {
		t.Error("strange bytes are others")
	}
	holds(t, w, strange)
	noWord(t, plain+"%")
	noWord(t, w+" ")
}
