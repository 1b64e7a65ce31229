package tests

import (
	"fmt"
	"regexp"
	"strconv"
	"strings"

	"loop.example/g00609/impl"
)

// A row is one of the document's table of lines: a word, and a letter for each of its numbers. Lines of kind 0 only read.
type row struct {
	word    string
	kind    int64
	letters string
}

var rows = []row{
	{"limit", impl.CkLimit, "SAIDPQM"},
	{"ioc", impl.CkIoc, "SAIDPQM"},
	{"fok", impl.CkFok, "SAIDPQM"},
	{"post", impl.CkPost, "SAIDPQM"},
	{"market", impl.CkMarket, "SAIDQM"},
	{"cancel", impl.CkCancel, "SAI"},
	{"replace", impl.CkRepl, "SAIPQM"},
	{"mass", impl.CkMass, "A"},
	{"block", impl.CkBlock, "A"},
	{"free", impl.CkFree, "A"},
	{"book", 0, "S"},
	{"volume", 0, "S"},
	{"vwap", 0, "S"},
}

// fieldNames are those of the letters in the table.
var fieldNames = map[rune]string{'S': "Sym", 'A': "Acct", 'I': "Id", 'D': "Side", 'P': "Price", 'Q': "Qty", 'M': "Mode"}

func fieldOf(letter rune) field[impl.Cmd] {
	for _, f := range cmdFields() {
		if f.name == fieldNames[letter] {
			return f
		}
	}
	panic("no field has this letter")
}

// lineForms are the forms of the lines of each row.
var lineForms = formsOf(rows)

func formsOf(rows []row) []*regexp.Regexp {
	var l []*regexp.Regexp
	for _, r := range rows {
		numbers := strings.Repeat(` +(0|[1-9][0-9]{0,9})`, len(r.letters))
		l = append(l, regexp.MustCompile(`^ *`+r.word+numbers+` *$`))
	}
	return l
}

// cmdLine returns the line of a command, valid or not, of a valid kind.
func cmdLine(c impl.Cmd) string {
	for _, r := range rows {
		if r.kind == c.Kind {
			line := r.word
			for _, letter := range r.letters {
				line += fmt.Sprint(" ", *fieldOf(letter).at(&c))
			}
			return line
		}
	}
	panic("no line has this kind")
}

// A terminal is a model of an interpreter: an exchange, and all records so far.
type terminal struct {
	exchange *exchange
	recs     []impl.Rec
}

// scriptModel compares each line with the forms of all rows.
func scriptModel(text string) string {
	lines := strings.Split(text, "\n")
	last := len(lines) - 1
	if last > 40 || len(text) > 4000 || lines[last] != "" {
		return "too long\n"
	}
	x := &terminal{exchange: exchangeOf(engineOf())}
	out := ""
	for _, line := range lines[:last] {
		if strings.Trim(line, " ") != "" {
			out += x.line(line) + "\n"
		}
	}
	return out
}

func (x *terminal) line(line string) string {
	for i, r := range rows {
		numbers := lineForms[i].FindStringSubmatch(line)
		if numbers == nil {
			continue
		}
		c := impl.Cmd{Kind: r.kind}
		for j, letter := range r.letters {
			*fieldOf(letter).at(&c), _ = strconv.ParseInt(numbers[j+1], 10, 64)
		}
		switch {
		case validCmd(c):
			return x.step(c)
		case c.Kind == 0 && c.Sym < 4:
			return x.answer(r.word, c.Sym)
		}
	}
	return "what"
}

func (x *terminal) step(c impl.Cmd) string {
	recs := x.exchange.step(c)
	x.recs = append(x.recs, recs...)
	text := ""
	for i, r := range recs {
		if i > 0 {
			text += "; "
		}
		text += recWords(r)
	}
	return text
}

func recWords(r impl.Rec) string {
	switch r.Kind {
	case impl.RkAck:
		return fmt.Sprintf("ack %d %d %d", r.Id, r.Price, r.Qty)
	case impl.RkReject:
		return fmt.Sprintf("no %d", r.Other)
	case impl.RkFill:
		return fmt.Sprintf("fill %d %d %d %d", r.Id, r.Other, r.Price, r.Qty)
	case impl.RkCancel:
		return fmt.Sprintf("gone %d %d", r.Id, r.Qty)
	case impl.RkDone:
		return fmt.Sprintf("done %d", r.Qty)
	}
	return "a record of no kind"
}

func (x *terminal) answer(word string, sym int64) string {
	switch word {
	case "book":
		b := x.exchange.markets[sym].book()
		return "book" + levelWords(b.Bids) + " |" + levelWords(b.Asks)
	case "volume":
		return fmt.Sprint("volume ", volumeModel(x.recs, sym))
	}
	l := tradesModel(x.recs, sym)
	if len(l) == 0 {
		return "vwap 0"
	}
	c := candleModel(l)
	return fmt.Sprint("vwap ", c.Worth/c.Qty)
}

func levelWords(orders []impl.Order) string {
	words := ""
	for _, x := range depthModel(orders) {
		words += fmt.Sprintf(" %d:%d", x.Price, x.Qty)
	}
	return words
}
