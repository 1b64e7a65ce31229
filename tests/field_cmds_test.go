package tests

import (
	"fmt"
	"math"
	"regexp"
	"slices"
	"strconv"
	"strings"
	"testing"

	"loop.example/g00609/impl"
)

// A cmdTag is the tag of a field of a command.
type cmdTag struct {
	tag int64
	at  func(c *impl.Cmd) *int64
}

// cmdTags are in the order in which the document names them.
func cmdTags() []cmdTag {
	return []cmdTag{
		{35, func(c *impl.Cmd) *int64 { return &c.Kind }},
		{55, func(c *impl.Cmd) *int64 { return &c.Sym }},
		{1, func(c *impl.Cmd) *int64 { return &c.Acct }},
		{11, func(c *impl.Cmd) *int64 { return &c.Id }},
		{54, func(c *impl.Cmd) *int64 { return &c.Side }},
		{44, func(c *impl.Cmd) *int64 { return &c.Price }},
		{38, func(c *impl.Cmd) *int64 { return &c.Qty }},
		{7928, func(c *impl.Cmd) *int64 { return &c.Mode }},
	}
}

func isCmdTag(tag int64) bool {
	return slices.ContainsFunc(cmdTags(), func(x cmdTag) bool { return x.tag == tag })
}

// cmdFieldsModel lists the fields of any command that are not 0.
func cmdFieldsModel(c impl.Cmd) []impl.Field {
	var l []impl.Field
	for _, x := range cmdTags() {
		if n := *x.at(&c); n != 0 {
			l = append(l, tagged(x.tag, fmt.Sprint(n)))
		}
	}
	return l
}

var decimalForm = regexp.MustCompile(`^(0|[1-9][0-9]{0,9})$`)

// cmdModel returns the command with the fields, and why there is none.
func cmdModel(l []impl.Field) (impl.Cmd, string) {
	c := impl.Cmd{}
	for i, f := range l {
		n, _ := strconv.ParseInt(f.Val, 10, 64)
		switch {
		case !isCmdTag(f.Tag):
			return impl.Cmd{}, "unknown"
		case slices.ContainsFunc(l[:i], func(x impl.Field) bool { return x.Tag == f.Tag }):
			return impl.Cmd{}, "twice"
		case !decimalForm.MatchString(f.Val):
			return impl.Cmd{}, "no number"
		}
		for _, x := range cmdTags() {
			if x.tag == f.Tag {
				*x.at(&c) = n
			}
		}
	}
	if !validCmd(c) {
		return impl.Cmd{}, "no command"
	}
	return c, ""
}

func wantCmdOf(t *testing.T, what string, l []impl.Field, want impl.Cmd) {
	t.Helper()
	if c := impl.CmdOf(l); c != want {
		t.Errorf("%s: CmdOf(%v) = %+v, want %+v", what, l, c, want)
	}
}

func wantNoCmd(t *testing.T, what string, l []impl.Field) {
	t.Helper()
	wantCmdOf(t, what, l, impl.Cmd{})
}

// inserts returns the lists in which a field is added to others, at each place.
func inserts(l []impl.Field, f impl.Field) [][]impl.Field {
	var all [][]impl.Field
	for i := range len(l) + 1 {
		all = append(all, slices.Insert(slices.Clone(l), i, f))
	}
	return all
}

// orders calls do with the elements of l in each order.
func orders[T any](l []T, do func(l []T)) {
	var place func(n int)
	place = func(n int) {
		if n == len(l) {
			do(l)
			return
		}
		for i := n; i < len(l); i++ {
			l[n], l[i] = l[i], l[n]
			place(n + 1)
			l[n], l[i] = l[i], l[n]
		}
	}
	place(0)
}

// fullCmd uses all fields.
func fullCmd() impl.Cmd {
	return impl.Cmd{Kind: impl.CkIoc, Sym: 2, Acct: 37, Id: 1000000000, Side: impl.SdSell, Price: 123, Qty: 45, Mode: impl.SpBoth}
}

func TestCommandFieldExamples(t *testing.T) {
	c := impl.Cmd{Kind: impl.CkLimit, Acct: 3, Id: 258, Side: impl.SdSell, Price: 100, Qty: 7, Mode: impl.SpBoth}
	l := impl.FieldsOf(c)
	want := fieldsOf(tagged(35, "1"), tagged(1, "3"), tagged(11, "258"), tagged(54, "2"), tagged(44, "100"), tagged(38, "7"), tagged(7928, "3"))
	if !slices.Equal(l, want) {
		t.Errorf("%v", l)
	}
	wantCmdOf(t, "example", l, c)
	wantCmdOf(t, "example with a zero", append(l, tagged(55, "0")), c)
}

func TestCommandsAreRecoveredFromFields(t *testing.T) {
	for _, c := range append(sampleCmds(), fullCmd()) {
		l := impl.FieldsOf(c)
		if !slices.Equal(l, cmdFieldsModel(c)) || !impl.FieldsOk(l) {
			t.Errorf("FieldsOf(%+v) = %v", c, l)
		}
		wantCmdOf(t, "fields", l, c)
		read, ok := impl.ReadFields(impl.FieldsText(l))
		if !ok {
			t.Errorf("%v: the text is not read", l)
		}
		wantCmdOf(t, "fields of the text", read, c)
	}
}

func TestCommandsThatAreNotValidHaveNoFields(t *testing.T) {
	check := func(c impl.Cmd) {
		if l := impl.FieldsOf(c); !validCmd(c) && len(l) != 0 {
			t.Errorf("FieldsOf(%+v) = %v", c, l)
		}
		want, _ := cmdModel(cmdFieldsModel(c))
		wantCmdOf(t, "fields that are not valid", cmdFieldsModel(c), want)
	}
	check(impl.Cmd{})
	for kind := int64(1); kind <= 10; kind++ {
		base := cmdOfKind(kind, func(f field[impl.Cmd]) int64 { return min(f.low+1, f.high) })
		for _, f := range cmdFields() {
			for _, n := range append(outside(f.low, f.high), 0, 1, f.low, f.high) {
				c := base
				*f.at(&c) = n
				check(c)
			}
		}
		for _, n := range outside(1, 10) {
			c := base
			c.Kind = n
			check(c)
		}
	}
}

func TestFieldsInEveryOrder(t *testing.T) {
	c := fullCmd()
	orders(impl.FieldsOf(c), func(l []impl.Field) { wantCmdOf(t, "order", l, c) })
	for _, c := range []impl.Cmd{cancel(3, 5), wide(impl.CkBlock, 100), inBook(1, replace(by(1, 2, 3, 4), 1))} {
		orders(impl.FieldsOf(c), func(l []impl.Field) { wantCmdOf(t, "order", l, c) })
	}
}

func TestFieldsThatAreMissingOrZero(t *testing.T) {
	for _, c := range append(sampleCmds(), fullCmd()) {
		l := impl.FieldsOf(c)
		for i, f := range l {
			less := slices.Delete(slices.Clone(l), i, i+1)
			want, _ := cmdModel(less)
			wantCmdOf(t, "a field is missing", less, want)
			zero := slices.Clone(l)
			zero[i].Val = "0"
			wantCmdOf(t, "a field is zero", zero, want)
			if f.Tag != 55 && want != (impl.Cmd{}) {
				t.Errorf("%v is a command", less)
			}
		}
		zeros := slices.Clone(l)
		for _, x := range cmdTags() {
			if *x.at(&c) == 0 {
				zeros = append(zeros, tagged(x.tag, "0"))
			}
		}
		wantCmdOf(t, "all zeros are present", zeros, c)
	}
	wantNoCmd(t, "none", nil)
}

func TestFieldsThatOccurTwice(t *testing.T) {
	for _, c := range append(sampleCmds(), fullCmd()) {
		l := impl.FieldsOf(c)
		for _, f := range l {
			for _, val := range []string{f.Val, "0", "1", "2", "x", ""} {
				for _, twice := range inserts(l, tagged(f.Tag, val)) {
					wantNoCmd(t, "twice", twice)
				}
			}
		}
		if c.Sym == 0 {
			wantNoCmd(t, "two zeros", append(l, tagged(55, "0"), tagged(55, "0")))
		}
		wantNoCmd(t, "all twice", append(l, l...))
	}
}

func TestUnknownTags(t *testing.T) {
	l := impl.FieldsOf(fullCmd())
	for tag := int64(-50); tag <= 10050; tag++ {
		if !isCmdTag(tag) {
			wantNoCmd(t, "an unknown tag", append(slices.Clone(l), tagged(tag, "0")))
			wantNoCmd(t, "an unknown tag with a number", append(slices.Clone(l), tagged(tag, "1")))
			wantNoCmd(t, "an unknown tag first", append(fieldsOf(tagged(tag, "0")), l...))
		}
	}
	for _, x := range cmdTags() {
		for _, tag := range []int64{x.tag + 256, x.tag + 65536, x.tag + 1<<32, -x.tag} {
			wantNoCmd(t, "a tag with other bytes", append(slices.Clone(l), tagged(tag, "0")))
		}
	}
	for _, tag := range []int64{math.MinInt64, math.MaxInt64} {
		wantNoCmd(t, "an extreme tag", append(slices.Clone(l), tagged(tag, "0")))
	}
}

func TestTagsOfOtherFields(t *testing.T) {
	l := impl.FieldsOf(fullCmd())
	for i := range l {
		for _, x := range cmdTags() {
			if other := slices.Clone(l); x.tag != l[i].Tag {
				other[i].Tag = x.tag
				wantNoCmd(t, "a tag is that of another field", other)
			}
		}
	}
}

// notDecimal are values that are no decimal numbers, though some of them are read as numbers elsewhere.
func notDecimal(n string) []string {
	return []string{
		"", "0" + n, "00" + n, strings.Repeat("0", 10-len(n)) + n, strings.Repeat("0", 11-len(n)) + n, "+" + n, "-" + n, "+0", "-0", "00", "0000000000",
		" " + n, n + " ", n + ".", n + ".0", "." + n, n + "e0", "0x" + n, "0b1", "0o1", n + "_0", "_" + n, "x", "=", n + "=", "," + n, "1" + "," + "000", "-", "+", " ", "--" + n,
		"\uff11", n + "\x00", "\x00" + n, n + "\n", "\x01", n + "a", "/", ":", "inf", "NaN",
		"99999999999", "10000000000", "00000000000", "4294967297", "8589934594", "4294967296", "18446744073709551617", "18446744073709551616", "12345678901234567890",
		"9223372036854775808", "9223372036854775807", "-9223372036854775808", "123456789012345678901", "340282366920938463463374607431768211457", "9999999999", "1000000001",
	}
}

func TestValuesThatAreNotAccepted(t *testing.T) {
	for _, c := range []impl.Cmd{fullCmd(), buys(1, 1, 1, 1), inBook(1, sells(2, 2, 2, 2))} {
		l := cmdFieldsModel(c)
		if c.Sym == 0 {
			l = append(l, tagged(55, "0"))
		}
		for i := range l {
			for _, val := range notDecimal(l[i].Val[:1]) {
				x := slices.Clone(l)
				x[i].Val = val
				wantNoCmd(t, fmt.Sprintf("value %q", val), x)
			}
		}
	}
}

// A field that the command does not use has to be a decimal number, too.
func TestValuesOfUnusedFields(t *testing.T) {
	for _, c := range []impl.Cmd{wide(impl.CkMass, 5), cancel(5, 6)} {
		l := impl.FieldsOf(c)
		for _, x := range cmdTags() {
			if *x.at(&c) != 0 {
				continue
			}
			wantCmdOf(t, "an unused field is 0", append(slices.Clone(l), tagged(x.tag, "0")), c)
			for _, val := range append(notDecimal("0"), "01") {
				wantNoCmd(t, "an unused field", append(slices.Clone(l), tagged(x.tag, val)))
			}
			if x.tag != 55 {
				wantNoCmd(t, "an unused field is 1", append(slices.Clone(l), tagged(x.tag, "1")))
			}
		}
	}
}

func TestNumbersOfTenAndElevenDigits(t *testing.T) {
	with := func(id string) []impl.Field {
		return fieldsOf(tagged(35, "6"), tagged(1, "1"), tagged(11, id))
	}
	wantCmdOf(t, "ten digits", with("1000000000"), cancel(1, 1000000000))
	wantCmdOf(t, "nine digits", with("999999999"), cancel(1, 999999999))
	for _, id := range []string{"1000000001", "9999999999", "10000000000", "01000000000", "0100000000", "0000000001", "00000000001", "00000000000", "0000000000", "+100000000", "-100000000"} {
		wantNoCmd(t, id, with(id))
	}
}

func TestFieldsOfManyValues(t *testing.T) {
	for n := int64(1); n <= 1000000; n += 1 + n/7 {
		c := buys(1+n%100, n*1000, n, 1000001-n)
		wantCmdOf(t, "value", impl.FieldsOf(c), c)
	}
}

// The fields of a list of 21, or with other invalid fields, are not looked at.
func TestCmdOfListsThatAreNotValid(t *testing.T) {
	l := impl.FieldsOf(fullCmd())
	for n := range 30 {
		wantNoCmd(t, "many fields", append(slices.Clone(l), slices.Repeat(fieldsOf(tagged(5, "0")), n+1)...))
		wantNoCmd(t, "many fields with a known tag", append(slices.Clone(l), slices.Repeat(fieldsOf(tagged(55, "2")), n+1)...))
	}
	for _, f := range fieldsOf(tagged(10, "0"), tagged(0, "0"), tagged(10000, "0"), tagged(55, "0\x01"), tagged(55, strings.Repeat("0", 21))) {
		for _, x := range inserts(impl.FieldsOf(buys(1, 1, 1, 1)), f) {
			wantNoCmd(t, "an invalid field", x)
		}
	}
}

func TestCmdOfRandomly(t *testing.T) {
	d := dice(136)
	cmds := sampleCmds()
	seen := map[string]int{}
	for range 40000 {
		l := cmdFieldsModel(cmds[d.roll(int64(len(cmds)))])
		for range d.roll(3) {
			at := d.roll(int64(len(l) + 1))
			val := []string{"0", "1", "2", "3", "100", "4", "01", "", "1000000", "1000001", "+1"}[d.roll(11)]
			switch tag := cmdTags()[d.roll(8)].tag; {
			case d.roll(10) == 0:
				l = slices.Insert(l, int(at), tagged(1+d.roll(60), val))
			case d.roll(3) == 0 || at == int64(len(l)):
				l = slices.Insert(l, int(at), tagged(tag, val))
			case d.roll(3) == 0:
				l = slices.Delete(l, int(at), int(at)+1)
			default:
				l[at].Val = val
			}
		}
		for i := range l {
			j := d.roll(int64(i + 1))
			l[i], l[j] = l[j], l[i]
		}
		want, why := cmdModel(l)
		wantCmdOf(t, why, l, want)
		seen[why]++
	}
	for _, why := range []string{"", "unknown", "twice", "no number", "no command"} {
		if seen[why] < 100 {
			t.Errorf("%q: only %d times", why, seen[why])
		}
	}
}

func TestFieldsOfCommandsAreNew(t *testing.T) {
	for _, c := range sampleCmds() {
		a, b := impl.FieldsOf(c), impl.FieldsOf(c)
		if !slices.Equal(a, b) || overlap(a, b) {
			t.Errorf("%+v: %v and %v", c, a, b)
		}
		clear(a[:cap(a)])
		if again := impl.FieldsOf(c); !slices.Equal(again, b) {
			t.Errorf("%+v: first %v, then %v", c, b, again)
		}
		if x := impl.CmdOf(slices.Clone(b)); x != impl.CmdOf(b) {
			t.Errorf("%v: %+v", b, x)
		}
	}
}
