package scan

import (
	"math/big"
	"regexp"
	"strconv"
	"strings"
	"testing"

	"millrace/api"
)

// fittingAsTold is what a verb reads of bytes, as many as its width has room for.
var fittingAsTold = map[string]*regexp.Regexp{
	"d": regexp.MustCompile(`^[+-]?[0-9]*`),
	"u": regexp.MustCompile(`^[0-9]*`),
	"x": regexp.MustCompile(`^[0-9a-fA-F]*`),
	"o": regexp.MustCompile(`^[0-7]*`),
	"s": regexp.MustCompile(`^[^ \n\t]*`),
}

// asTold is Scan as the chapter's words tell it, for these tests alone: in terms of texts that are cut, not of bytes one by one.
func asTold(f, b string) scanned {
	parts, wrong := partsOf(f)
	if wrong != "" {
		return scanned{e: api.ErrFormat}
	}
	var args []api.Arg
	left := b
	for _, m := range parts {
		a, used, e := partOf(m, left)
		left = left[used:]
		if e != api.OK {
			return scanned{args, len(b) - len(left), e}
		}
		if m[3] != "" && m[1] == "" {
			args = append(args, a)
		}
	}
	return scanned{args, len(b) - len(left), api.OK}
}

// partOf is what one part reads, how many bytes that uses up, and the error.
func partOf(m []string, left string) (api.Arg, int, api.Errno) {
	width := map[string]int{"c": 1}[m[3]]
	if width == 0 {
		width = api.MaxWidth
	}
	if m[2] != "" {
		width, _ = strconv.Atoi(m[2])
	}
	trimmed := strings.TrimLeft(left, " \n\t")
	switch verb := m[3]; {
	case m[0] == " " || m[0] == "\n":
		return api.Arg{}, len(left) - len(trimmed), api.OK
	case verb == "" && left == "":
		return api.Arg{}, 0, api.ErrEnd
	case verb == "" && left[0] != m[0][0]:
		return api.Arg{}, 0, api.ErrMatch
	case verb == "":
		return api.Arg{}, 1, api.OK
	case verb == "c" && m[2] == "" && left != "":
		return char(left[0]), 1, api.OK
	case verb == "c" && len(left) < width:
		return api.Arg{}, len(left), api.ErrEnd
	case verb == "c":
		return word(left[:width]), width, api.OK
	}
	room := trimmed[:min(width, len(trimmed))]
	found := fittingAsTold[m[3]].FindString(room)
	a, e := valueOf(m[3], found)
	if e == api.ErrEnd && (len(found) == width || found != trimmed) {
		e = api.ErrMatch
	}
	return a, len(left) - len(trimmed) + len(found), e
}

// valueOf is what a verb makes of the bytes that fit it; ErrEnd: they are too few.
func valueOf(verb, found string) (api.Arg, api.Errno) {
	if found == "" || verb == "d" && (found == "+" || found == "-") {
		return api.Arg{}, api.ErrEnd
	}
	if verb == "s" {
		return word(found), api.OK
	}
	base := map[string]int{"d": 10, "u": 10, "x": 16, "o": 8}[verb]
	n, ok := new(big.Int).SetString(found, base)
	switch {
	case ok && verb == "d" && n.IsInt64():
		return in(int(n.Int64())), api.OK
	case ok && verb != "d" && n.IsUint64():
		return un(n.Uint64()), api.OK
	}
	return api.Arg{}, api.ErrMatch
}

// TestShorts: all short patterns of all short texts, held against the chapter's words (P18.1).
func TestShorts(t *testing.T) {
	for f := range shorts(4, "%2*dsc ") {
		if _, wrong := partsOf(f); wrong != "" {
			continue
		}
		for b := range shorts(4, "-1 a") {
			if got, want := scanning(f, b), asTold(f, b); !got.is(want) {
				t.Fatalf("P18.1: Scan(%q, %q): %s, not %s", f, b, got, want)
			}
		}
	}
}

// TestVerbsOfShorts: all pairs of directives of all short texts (P18.1).
func TestVerbsOfShorts(t *testing.T) {
	var directives []string
	for _, ahead := range []string{"", "1", "2", "3", "*", "*2"} {
		for _, verb := range "duxocs" {
			directives = append(directives, "%"+ahead+string(verb))
		}
	}
	for _, one := range directives {
		for _, two := range append(directives, " ", "1", "%%") {
			for b := range shorts(3, "+7f \t%") {
				if got, want := scanning(one+two, b), asTold(one+two, b); !got.is(want) {
					t.Fatalf("P18.1: Scan(%q, %q): %s, not %s", one+two, b, got, want)
				}
			}
		}
	}
}

// somePattern is a pattern, most of which may be, by the dice.
func somePattern(roll func(n int) int) string {
	pieces := []string{"%d", "%u", "%x", "%o", "%c", "%s", "%d", "%s", " ", "\n", "%%", "a", ",", "-", "\t", "1"}
	ahead := []string{"", "", "1", "2", "3", "5", "12", "20", "4096", "*", "*1", "*4", "*19"}
	f := ""
	for range 1 + roll(7) {
		p := pieces[roll(len(pieces))]
		if len(p) == 2 && p != "%%" {
			p = "%" + ahead[roll(len(ahead))] + p[1:]
		}
		f += p
	}
	if roll(40) == 0 {
		f += "%" + strconv.Itoa(roll(9000))
	}
	return f
}

// someText is a text that a pattern reads some of, by the dice.
func someText(roll func(n int) int) string {
	pieces := []string{"-17", "+5", "9223372036854775807", "-9223372036854775808", "18446744073709551615", "18446744073709551616", "ffffffffffffffff", "1777777777777777777777", "DEAD", "word", "0", "007", "%", "a", ",", "-", "1", "\xff\x00", "89"}
	blanks := []string{"", "", " ", " ", "\n", "\t", " \n\t "}
	b := ""
	for range 1 + roll(7) {
		b += blanks[roll(len(blanks))] + pieces[roll(len(pieces))]
	}
	return b + blanks[roll(len(blanks))]
}

// TestSome: longer patterns and texts, by dice (P18.1).
func TestSome(t *testing.T) {
	roll := dice(18)
	seen := map[api.Errno]int{}
	for range 300000 {
		f, b := somePattern(roll), someText(roll)
		got, want := scanning(f, b), asTold(f, b)
		seen[got.e]++
		if !got.is(want) {
			t.Fatalf("P18.1: Scan(%q, %q): %s, not %s", f, b, got, want)
		}
	}
	for _, e := range []api.Errno{api.OK, api.ErrMatch, api.ErrEnd, api.ErrFormat} {
		if seen[e] < 1000 {
			t.Errorf("the error %d was met %d times alone", e, seen[e])
		}
	}
}
