package tests

import (
	"slices"
	"strings"
	"testing"

	"loop.example/g00609/impl"
)

// randomLine returns a line of a command, of a question or without words, and now and then one that has no form.
func randomLine(d *dice, spread int64) string {
	switch d.roll(12) {
	case 0:
		return strings.Repeat(" ", int(d.roll(4)))
	case 1, 2, 3:
		return randomQuestion(d)
	case 4:
		return randomSpoiled(d, cmdLine(randomWide(d, spread, 3)))
	}
	return cmdLine(randomWide(d, spread, 3))
}

func randomQuestion(d *dice) string {
	return oneOf(d, []string{"book", "volume", "vwap"}) + " " + oneOf(d, []string{"0", "1", "2", "3"})
}

// randomSpoiled changes a line in one place.
func randomSpoiled(d *dice, line string) string {
	at := int(d.roll(int64(len(line))))
	switch d.roll(4) {
	case 0:
		return line[:at] + line[at+1:]
	case 1:
		return line[:at] + " " + line[at:]
	case 2:
		return line[:at] + string([]byte{oneOf(d, []byte("0123456789 \t\x00xk-"))}) + line[at+1:]
	}
	return line + " " + oneOf(d, []string{"0", "1", "2", "3"})
}

func randomLines(d *dice, n int64) []string {
	var l []string
	spread := d.roll(4)
	for range n {
		l = append(l, randomLine(d, spread))
	}
	return l
}

func scriptOf(lines []string) string {
	text := ""
	for _, line := range lines {
		text += line + "\n"
	}
	return text
}

func TestScriptsRandomly(t *testing.T) {
	d := dice(151)
	seen := map[string]int{}
	for range 3000 {
		text := scriptOf(randomLines(&d, d.roll(42)))
		want := scriptModel(text)
		wantScript(t, "random", text, want)
		if again := impl.RunScript(strings.Clone(text)); again != want {
			t.Errorf("%q yields %q, then %q", text, want, again)
		}
		for _, word := range strings.FieldsFunc(want, func(r rune) bool { return !('a' <= r && r <= 'z') }) {
			seen[word]++
		}
	}
	for _, word := range []string{"ack", "no", "fill", "gone", "done", "book", "volume", "vwap", "what", "too", "long"} {
		if seen[word] < 30 {
			t.Errorf("%s: only %d times", word, seen[word])
		}
	}
}

func TestScriptsOfRandomBytes(t *testing.T) {
	d := dice(152)
	for range 3000 {
		text := scriptOf(randomLines(&d, 5+d.roll(30)))
		for range d.roll(5) {
			text = randomSpoiled(&d, text)
		}
		wantScript(t, "spoiled", text+"\n", scriptModel(text+"\n"))
		bytes := make([]byte, d.roll(60))
		for i := range bytes {
			bytes[i] = oneOf(&d, []byte("01 \n\n book\xff\x00"))
		}
		wantScript(t, "bytes", string(bytes)+"\n", scriptModel(string(bytes)+"\n"))
	}
}

// Promise 15: the output does not change when further lines follow.
func TestOutputDoesNotChangeWhenLinesFollow(t *testing.T) {
	d := dice(153)
	for range 300 {
		lines := randomLines(&d, 1+d.roll(40))
		whole := impl.RunScript(scriptOf(lines))
		for n := range lines {
			first := impl.RunScript(scriptOf(lines[:n]))
			if !strings.HasPrefix(whole, first) {
				t.Fatalf("%q yields %q,\nits first %d lines %q", lines, whole, n, first)
			}
			if line := strings.Trim(lines[n], " "); line == "" && first != impl.RunScript(scriptOf(lines[:n+1])) {
				t.Errorf("%q has output for line %d", lines, n)
			}
		}
		words := 0
		for _, line := range lines {
			if strings.Trim(line, " ") != "" {
				words++
			}
		}
		if strings.Count(whole, "\n") != words {
			t.Errorf("%q has not one line of output for each line with words: %q", lines, whole)
		}
	}
}

// Promise 15 does not hold for the line that is too many, or that has the byte that is too many.
func TestOutputOfTooManyLines(t *testing.T) {
	d := dice(154)
	for range 100 {
		lines := randomLines(&d, 40)
		if got := impl.RunScript(scriptOf(lines)); got == "too long\n" {
			t.Errorf("40 lines: %q", got)
		}
		wantTooLong(t, "41 lines", scriptOf(append(lines, randomLine(&d, 0))))
		text := scriptOf(lines[:30])
		rest := strings.Repeat(" ", 4000-len(text)-1)
		wantScript(t, "4000 bytes", text+rest+"\n", impl.RunScript(text))
		wantTooLong(t, "4001 bytes", text+rest+" \n")
	}
}

// Promise 15: lines that only read change nothing, wherever they are and however often.
func TestLinesThatReadChangeNothing(t *testing.T) {
	d := dice(155)
	for range 500 {
		lines := slices.DeleteFunc(randomLines(&d, 13), func(line string) bool { return strings.Trim(line, " ") == "" })
		outputs := strings.SplitAfter(impl.RunScript(scriptOf(lines)), "\n")
		question := oneOf(&d, []string{randomQuestion(&d), randomQuestion(&d), "fly 1", "book 4"})
		text, want := "", ""
		for i, line := range lines {
			text += line + "\n" + question + "\n" + question + "\n"
			reads := impl.RunScript(scriptOf(lines[:i+1]) + question + "\n")
			answer := strings.TrimPrefix(reads, strings.Join(outputs[:i+1], ""))
			want += outputs[i] + answer + answer
		}
		wantScript(t, "a line that reads behind every line", text, want)
	}
}
