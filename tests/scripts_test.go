package tests

import (
	"fmt"
	"strings"
	"testing"

	"loop.example/g00609/impl"
)

// wantScript checks the output of a script, and that the model agrees.
func wantScript(t *testing.T, what string, text string, want string) {
	t.Helper()
	if got := impl.RunScript(text); got != want {
		t.Errorf("%s: %.200q\nyields %q,\nnot %q", what, text, got, want)
	}
	if model := scriptModel(text); model != want {
		t.Errorf("%s: %.200q\nyields %q in the model,\nnot %q", what, text, model, want)
	}
}

// wantWhat checks lines that have no form, or whose command is not valid, each alone, and all of them between others.
func wantWhat(t *testing.T, what string, lines ...string) {
	t.Helper()
	for _, line := range lines {
		wantScript(t, what, line+"\n", "what\n")
		wantScript(t, what, "limit 0 1 1 1 9 5 1\n"+line+"\nbook 0\n", "ack 1 9 5\nwhat\nbook 9:5 |\n")
	}
}

func wantTooLong(t *testing.T, what string, text string) {
	t.Helper()
	wantScript(t, what, text, "too long\n")
}

func TestScriptExamples(t *testing.T) {
	wantScript(t, "example", "limit 0 1 1 1 100 5 1\nlimit 0 2 2 2 100 3 1\n", "ack 1 100 5\nack 2 100 3; fill 2 1 100 3\n")
	wantTooLong(t, "example", "book 0")
	if impl.MaxScript != 40 || impl.MaxLines != 4000 {
		t.Errorf("%d lines, %d bytes", impl.MaxScript, impl.MaxLines)
	}
}

func TestScriptsWithoutLinesOrWords(t *testing.T) {
	wantScript(t, "empty", "", "")
	for _, text := range []string{"\n", "\n\n", " \n", "\n \n", "    \n\n  \n \n"} {
		wantScript(t, "no words", text, "")
	}
	wantScript(t, "no words between others", "\n  \nbook 0\n\n \nbook 1\n \n\n", "book |\nbook |\n")
}

func TestScriptsWithoutANewlineAtTheEnd(t *testing.T) {
	for _, text := range []string{
		" ", "x", "book 0", "\nbook 0", "book 0\n ", "book 0\nx", "book 0\nbook 0", "book 0\r", "book 0\n\r", "\x00", "book 0\n\x00",
		"book 0\x0b", "book 0\u2028", "book 0\u0085", `book 0\n`, "too long", "limit 0 1 1 1 100 5 1\nlimit 0 2 2 2 100 3 1",
	} {
		wantTooLong(t, "no newline", text)
	}
}

func TestNumberOfLines(t *testing.T) {
	for _, line := range []string{"\n", " \n", "book 0\n", "what\n", "mass 1\n"} {
		out := ""
		switch line {
		case "book 0\n":
			out = "book |\n"
		case "what\n":
			out = "what\n"
		case "mass 1\n":
			out = "done 0\n"
		}
		for _, n := range []int{0, 1, 2, 39, 40} {
			wantScript(t, fmt.Sprint(n, " lines"), strings.Repeat(line, n), strings.Repeat(out, n))
		}
		for _, n := range []int{41, 42, 80, 100, 256, 296, 500} {
			wantTooLong(t, fmt.Sprint(n, " lines"), strings.Repeat(line, n))
		}
		wantTooLong(t, "the 41st line has no newline", strings.Repeat(line, 40)+"book 0")
		wantTooLong(t, "the 40th line has no newline", strings.Repeat(line, 39)+"book 0")
	}
	wantScript(t, "only the last of 40 lines has words", strings.Repeat("\n", 39)+"book 0\n", "book |\n")
	wantTooLong(t, "only the last of 41 lines has words", strings.Repeat("\n", 40)+"book 0\n")
	wantTooLong(t, "only the first of 41 lines has words", "book 0\n"+strings.Repeat("\n", 40))
}

// longLine returns a line of n bytes with its newline.
func longLine(n int) string {
	return "book 0" + strings.Repeat(" ", n-7) + "\n"
}

func TestNumberOfBytes(t *testing.T) {
	for _, n := range []int{3999, 4000} {
		wantScript(t, fmt.Sprint("one line of ", n), longLine(n), "book |\n")
		wantScript(t, fmt.Sprint("one line of spaces of ", n), strings.Repeat(" ", n-1)+"\n", "")
		wantScript(t, fmt.Sprint("one word of ", n), strings.Repeat("x", n-1)+"\n", "what\n")
		wantScript(t, fmt.Sprint("one number of ", n), "book "+strings.Repeat("0", n-6)+"\n", "what\n")
		wantScript(t, fmt.Sprint("many words of ", n), strings.Repeat("0 ", n/2-1)+strings.Repeat(" ", n%2+1)+"\n", "what\n")
		wantScript(t, fmt.Sprint("words of two bytes of ", n), strings.Repeat("x", n%2+1)+strings.Repeat("\u00e9", n/2-1)+"\n", "what\n")
		wantScript(t, fmt.Sprint("two lines of ", n), longLine(2000)+longLine(n-2000), "book |\nbook |\n")
		wantScript(t, fmt.Sprint("40 lines of ", n), strings.Repeat(longLine(100), 39)+longLine(n-3900), strings.Repeat("book |\n", 40))
		wantTooLong(t, fmt.Sprint("no newline of ", n), strings.Repeat(" ", n))
	}
	for _, n := range []int{4001, 4002, 4256, 8000, 65536, 65636, 1 << 20} {
		wantTooLong(t, fmt.Sprint("one line of ", n), longLine(n))
		wantTooLong(t, fmt.Sprint("one line of spaces of ", n), strings.Repeat(" ", n-1)+"\n")
		wantTooLong(t, fmt.Sprint("one word of ", n), strings.Repeat("x", n-1)+"\n")
		wantTooLong(t, fmt.Sprint("words of two bytes of ", n), strings.Repeat("x", n%2+1)+strings.Repeat("\u00e9", n/2-1)+"\n")
		wantTooLong(t, fmt.Sprint("two lines of ", n), longLine(2000)+longLine(n-2000))
		wantTooLong(t, fmt.Sprint("40 lines of ", n), strings.Repeat(longLine(100), 39)+longLine(n-3900))
		wantTooLong(t, fmt.Sprint("no newline of ", n), strings.Repeat("x", n))
	}
	wantTooLong(t, "41 lines of 4000", strings.Repeat(longLine(100), 39)+longLine(50)+longLine(50))
	wantTooLong(t, "41 lines of 4001", strings.Repeat(longLine(100), 39)+longLine(50)+longLine(51))
}

// spaced returns ways to write a line with other numbers of spaces.
func spaced(line string) []string {
	return []string{
		line, " " + line, line + " ", "  " + line + "   ", strings.Repeat(" ", 50) + line + strings.Repeat(" ", 60),
		strings.ReplaceAll(line, " ", "  "), "   " + strings.ReplaceAll(line, " ", "     ") + "    ",
		strings.Replace(line, " ", "         ", 1), strings.ReplaceAll(line, " ", strings.Repeat(" ", 99)),
	}
}

func TestSpacesBetweenWords(t *testing.T) {
	first := "limit 0 1 1 1 100 5 1"
	for _, line := range spaced(first) {
		wantScript(t, "spaces", line+"\nbook 0\n", "ack 1 100 5\nbook 100:5 |\n")
	}
	for _, r := range rows {
		line := r.word + strings.Repeat(" 1", len(r.letters))
		want := scriptModel(line + "\n")
		for _, x := range spaced(line) {
			wantScript(t, "spaces", x+"\n", want)
		}
		wantWhat(t, "no space", strings.ReplaceAll(line, " ", ""), strings.Replace(line, " ", "", 1))
		if len(r.letters) > 1 {
			wantWhat(t, "no space between numbers", strings.Replace(line, "1 1", "11", 1), strings.TrimSuffix(line, " 1")+"1")
		}
	}
	wantWhat(t, "a space in a word", "bo ok 0", "b ook 0", "boo k 0", "l imit 0 1 1 1 100 5 1", "limit 0 1 1 1 1 00 5 1")
}

func TestBytesThatAreNotSpaces(t *testing.T) {
	for b := range 256 {
		if b == ' ' || b == '\n' {
			continue
		}
		s := string([]byte{byte(b)})
		wantWhat(t, "a byte", s, "book"+s+"0", "book 0"+s, s+"book 0", "book "+s+"0", s+" book 0", "bo"+s+"ok 0")
		wantWhat(t, "a byte and spaces", "book "+s+" 0", "book 0 "+s, " "+s+" ", "limit"+s+"0 1 1 1 100 5 1", "limit 0 1 1 1 100 5"+s+"1")
	}
	for _, s := range []string{"\u00a0", "\u0085", "\u1680", "\u2000", "\u2003", "\u2028", "\u2029", "\u202f", "\u205f", "\u3000", "\ufeff", "\u200b", "\u0130", "\U0010ffff", "\xc2", "\xed\xa0\x80", "\xff\xff"} {
		wantWhat(t, "a character", s, "book"+s+"0", "book 0"+s, s+"book 0", "book "+s+"0", "book 0 "+s, "book "+s+" 0")
	}
	wantWhat(t, "lines that end with two bytes", "book 0\r", "book 0 \r", "\r", "volume 0\t")
	wantScript(t, "a newline in a line", "book\n0\nboo\nk 0\n", "what\nwhat\nwhat\nwhat\n")
}

func TestUnknownWords(t *testing.T) {
	words := []string{
		"fly", "quit", "help", "what", "ack", "no", "gone", "done", "fill", "too", "0", "1", "-", "#", "//", "|", "sell", "buy", "depth", "blocked", "repl", "cancelall",
		"limit,", "limit:", "limit;", "\"limit\"", "l\u0131mit", "\u017ftop", "post0", "book0", "x", "lim\u0000it", "bool", "bookk", "boook", "markets", "kind", "Kind",
	}
	for _, r := range rows {
		w := r.word
		words = append(words, strings.ToUpper(w), strings.ToUpper(w[:1])+w[1:], w[:1]+strings.ToUpper(w[1:]), w[:len(w)-1]+strings.ToUpper(w[len(w)-1:]),
			w[1:], w[:len(w)-1], w[:1], w+"s", w+w, "_"+w, w+"_", fmt.Sprint(r.kind))
	}
	for _, w := range words {
		for n := range 9 {
			wantScript(t, "unknown", w+strings.Repeat(" 1", n)+"\n", "what\n")
		}
		wantWhat(t, "unknown", w, w+" 0", w+" 0 1 1 1 100 5 1")
	}
	for _, r := range rows {
		line := r.word + strings.Repeat(" 1", len(r.letters))
		wantWhat(t, "words in disorder", strings.Repeat("1 ", len(r.letters))+r.word, "1 "+line, "x "+line, r.word+" "+line, line+" "+r.word, line+" x", line+" "+line)
	}
}

func TestNumberOfNumbers(t *testing.T) {
	for _, r := range rows {
		for n := range 20 {
			line := r.word + strings.Repeat(" 1", n)
			if n != len(r.letters) {
				wantWhat(t, "a number too few or too many", line)
			} else if impl.RunScript(line+"\n") == "what\n" {
				t.Errorf("%q is not understood", line)
			}
		}
		wantWhat(t, "a zero too many", r.word+strings.Repeat(" 1", len(r.letters))+" 0", r.word+" 0"+strings.Repeat(" 1", len(r.letters)))
	}
}

// withNumber returns a line of ones in which the number at a place is another word.
func withNumber(r row, at int, word string) string {
	words := make([]string, len(r.letters))
	for i := range words {
		words[i] = "1"
	}
	words[at] = word
	return r.word + " " + strings.Join(words, " ")
}

func TestWordsThatAreNoNumbers(t *testing.T) {
	for _, r := range rows {
		for at := range r.letters {
			for _, n := range []string{"0", "1", "2", "3"} {
				for _, word := range notDecimal(n) {
					if word != "" && !strings.ContainsAny(word, " \n") {
						wantScript(t, "no number", withNumber(r, at, word)+"\n", "what\n")
					}
				}
			}
			wantWhat(t, "no number", withNumber(r, at, "01"), withNumber(r, at, "+1"), withNumber(r, at, "-1"), withNumber(r, at, "x"))
		}
	}
}

func TestNumbersOfManyDigits(t *testing.T) {
	for _, id := range []string{"999999999", "1000000000"} {
		wantScript(t, "an order number", "limit 0 1 "+id+" 1 100 5 1\ncancel 0 1 "+id+"\n", "ack "+id+" 100 5\ngone "+id+" 5\n")
	}
	for _, id := range []string{"1000000001", "9999999999", "10000000000", "01000000000", "0100000000", "00000000001", "0000000001", "10000000001", "99999999999"} {
		wantWhat(t, "an order number", "limit 0 1 "+id+" 1 100 5 1", "cancel 0 1 "+id)
	}
	for _, n := range []string{"1000000", "999999"} {
		wantScript(t, "a price and a quantity", "limit 3 100 7 2 "+n+" "+n+" 3\nbook 3\n", "ack 7 "+n+" "+n+"\nbook | "+n+":"+n+"\n")
	}
}

// cmdsNextToValidOnes returns commands of a kind in which one field is next to a limit of its range, or 0.
func cmdsNextToValidOnes(r row) []impl.Cmd {
	var l []impl.Cmd
	for _, letter := range r.letters {
		f := fieldOf(letter)
		for _, n := range []int64{0, 1, f.low - 1, f.low, f.low + 1, f.high - 1, f.high, f.high + 1, 2 * f.high, f.high + 256, f.high + 65536, 4294967296 + f.low, 9999999999} {
			c := cmdOfKind(r.kind, func(f field[impl.Cmd]) int64 { return 1 })
			*f.at(&c) = n
			l = append(l, c)
		}
	}
	return l
}

func TestCommandsThatAreNotValidInScripts(t *testing.T) {
	seen := map[bool]int{}
	for _, r := range rows {
		if r.kind == 0 {
			continue
		}
		for _, c := range cmdsNextToValidOnes(r) {
			seen[validCmd(c)]++
			line := cmdLine(c)
			if !validCmd(c) {
				wantWhat(t, "not valid", line)
			} else if got := impl.RunScript(line + "\n"); got == "what\n" || got != scriptModel(line+"\n") {
				t.Errorf("%q yields %q", line, got)
			}
		}
	}
	if seen[true] < 100 || seen[false] < 100 {
		t.Errorf("commands that are valid or not: %v", seen)
	}
	wantWhat(t, "all zero", "limit 0 0 0 0 0 0 0", "market 0 0 0 0 0 0", "cancel 0 0 0", "replace 0 0 0 0 0 0", "mass 0", "block 0", "free 0")
}

func TestBooksThatCanBeRead(t *testing.T) {
	for _, r := range rows {
		if r.kind != 0 {
			continue
		}
		answer := map[string]string{"book": "book |", "volume": "volume 0", "vwap": "vwap 0"}[r.word]
		for sym := range 4 {
			wantScript(t, "S", fmt.Sprint(r.word, " ", sym, "\n"), answer+"\n")
		}
		for _, s := range []string{"4", "5", "10", "100", "255", "256", "260", "4294967296", "9999999999", "10000000000", "18446744073709551616", "-1", "-0", "+0", "00", "03", "x"} {
			wantWhat(t, "S", r.word+" "+s)
		}
	}
}
