package tests

import (
	"fmt"
	"regexp"
	"slices"
	"strings"
	"testing"

	"loop.example/g01354/impl"
)

func TestNamedSets(t *testing.T) {
	for _, name := range names {
		got, code := impl.NamedSet(name[0])
		wantSet(t, "NamedSet of "+name[0], got, code, name[1])
	}
	for _, none := range []string{"", "Plain", "PLAIN", "plain ", " plain", "plai", "plainn", "chess\n", "1:0000", "2:0011,1100", "none", "0", "plainchess", "wheel\x00"} {
		got, code := impl.NamedSet(none)
		wantCode(t, fmt.Sprintf("NamedSet of %q", none), got, code, impl.ErrNotFound)
	}
}

// Promise 1: sets come back from their texts.
func TestTexts(t *testing.T) {
	for _, want := range sampleTexts() {
		text, code := impl.SetText(setOf(want))
		if text != want || code != impl.ErrNone {
			t.Errorf("SetText of %s = %s, %d", want, text, code)
		}
		got, code := impl.ParseSet(text)
		wantSet(t, "ParseSet of "+want, got, code, want)
	}
	for _, no := range noSets() {
		text, code := impl.SetText(no)
		wantCode(t, fmt.Sprintf("SetText of %v", no), text, code, impl.ErrInvalid)
	}
}

var shapeOfText = regexp.MustCompile(`\A[1-6]:([0-5]{4}(,[0-5]{4}){0,15})?\z`)

// isText reports whether something is the text of a set.
func isText(text string) bool {
	if !shapeOfText.MatchString(text) {
		return false
	}
	head, list, _ := strings.Cut(text, ":")
	words := strings.FieldsFunc(list, func(r rune) bool { return r == ',' })
	for i, word := range words {
		if i > 0 && words[i-1] >= word {
			return false
		}
	}
	return !slices.ContainsFunc([]byte(strings.Join(words, "")), func(b byte) bool { return b >= head[0] })
}

// checkText checks ParseSet for a text that may be one or none, and returns whether it is one.
func checkText(t *testing.T, text string) bool {
	t.Helper()
	got, code := impl.ParseSet(text)
	if isText(text) {
		wantSet(t, fmt.Sprintf("ParseSet of %q", text), got, code, text)
		return true
	}
	wantCode(t, fmt.Sprintf("ParseSet of %q", text), got, code, impl.ErrSyntax)
	return false
}

func TestNoTexts(t *testing.T) {
	bad := []string{
		"", " ", ":", "1", "2", "0:", "7:", "9:", "-1:", "+1:", "01:", "02:0011", "10:", "16:0000", "a:", "1;", "1.", "::", "1::",
		":0000", "2:0", "2:001", "2:00111", "2:00110", "2:0011,", "2:,", "2:,0011", "2:0011,,1100", "2:0011;1100",
		"2:0011 1100", "2:0011, 1100", " 2:0011", "2 :0011", "2: 0011", "2:0011 ", "2:0011\n", "2:0011:", "2:0011:1100",
		"2:00111100", "2:1100,0011", "2:0011,0011", "2:0000,0011,0001", "2:0000,0000,0011", "1:0001", "1:1000", "2:0002", "3:0003",
		"6:0006", "6:0000,6000", "6:999a", "2:0o11", "2:-011", "2:+011", "2:00/1", "2:00:1", "2:0x11", "2:001\x00", "2:001\xff", "2:0011,110",
		"\x002:", "\u0662:", "2:001\u0661", "chess", "2:0011,1100,", "2:0011,1100,1", "2:0,0011",
		"3:" + strings.TrimPrefix(fullTwo, "2:") + ",2222", fullTwo + ",1111",
		strings.Repeat("0", 1000), "1:" + strings.Repeat("0000,", 1000), "1:" + strings.Repeat("0", 4000),
	}
	for _, text := range bad {
		if checkText(t, text) {
			t.Errorf("%q is taken for a text here", text)
		}
	}
}

// texts of which one byte is changed, left out, or put in are texts of other sets, or none.
func TestChangedTexts(t *testing.T) {
	good, bad := 0, 0
	count := func(text string) {
		if checkText(t, text) {
			good++
		} else {
			bad++
		}
	}
	for _, text := range sampleTexts() {
		for i := range len(text) + 1 {
			for _, b := range "012567/:,; -a\x00\n" {
				count(text[:i] + string(b) + text[i:])
				if i < len(text) {
					count(text[:i] + string(b) + text[i+1:])
				}
			}
			if i < len(text) {
				count(text[:i] + text[i+1:])
				count(text[:i])
			}
		}
	}
	if good < 100 || bad < 100 {
		t.Errorf("%d texts, and %d that are none", good, bad)
	}
}
