package tests

import (
	"fmt"
	"regexp"
	"slices"
	"strconv"
	"strings"
	"testing"

	"loop.example/g00609/impl"
)

func fieldsOf(l ...impl.Field) []impl.Field { return l }

func tagged(tag int64, val string) impl.Field {
	return impl.Field{Tag: tag, Val: val}
}

// summed appends the last part of a text to the parts before it.
func summed(body string) string {
	sum := 0
	for _, b := range []byte(body) {
		sum += int(b)
	}
	return fmt.Sprintf("%s10=%03d\x01", body, sum%256)
}

func textOf(l []impl.Field) string {
	body := ""
	for _, f := range l {
		body += fmt.Sprintf("%d=%s\x01", f.Tag, f.Val)
	}
	return summed(body)
}

var fieldForm = regexp.MustCompile(`([1-9][0-9]{0,3})=([ -~]{0,20})\x01`)
var textForm = regexp.MustCompile(`^((?:[1-9][0-9]{0,3}=[ -~]{0,20}\x01){0,20})10=[0-9]{3}\x01$`)

// fieldsModel reads a text by its form.
func fieldsModel(s string) ([]impl.Field, bool) {
	whole := textForm.FindStringSubmatch(s)
	if whole == nil || summed(whole[1]) != s {
		return nil, false
	}
	var l []impl.Field
	for _, x := range fieldForm.FindAllStringSubmatch(whole[1], -1) {
		tag, _ := strconv.Atoi(x[1])
		if tag == 10 {
			return nil, false
		}
		l = append(l, tagged(int64(tag), x[2]))
	}
	return l, true
}

// wantFields checks a valid list and its text.
func wantFields(t *testing.T, what string, l []impl.Field) {
	t.Helper()
	s := textOf(l)
	if !impl.FieldsOk(l) || impl.FieldsText(l) != s {
		t.Errorf("%s: %v: FieldsOk %v, text %q, want %q", what, l, impl.FieldsOk(l), impl.FieldsText(l), s)
	}
	if got, ok := impl.ReadFields(s); !ok || !slices.Equal(got, l) {
		t.Errorf("%s: ReadFields(%q) = %v, %v", what, s, got, ok)
	}
}

// wantNoFields checks a list that is not valid, and what would be its text.
func wantNoFields(t *testing.T, what string, l []impl.Field) {
	t.Helper()
	if impl.FieldsOk(l) || impl.FieldsText(l) != "" {
		t.Errorf("%s: %v: FieldsOk %v, text %q", what, l, impl.FieldsOk(l), impl.FieldsText(l))
	}
	if got, ok := impl.ReadFields(textOf(l)); ok && slices.Equal(got, l) {
		t.Errorf("%s: ReadFields(%q) = %v", what, textOf(l), got)
	}
	wantReadAsModel(t, what, textOf(l))
}

func wantNoText(t *testing.T, what string, s string) {
	t.Helper()
	if l, ok := impl.ReadFields(s); ok || len(l) != 0 {
		t.Errorf("%s: ReadFields(%q) = %v, %v", what, s, l, ok)
	}
}

func wantReadAsModel(t *testing.T, what string, s string) {
	t.Helper()
	l, ok := impl.ReadFields(s)
	if want, wantOk := fieldsModel(s); ok != wantOk || !slices.Equal(l, want) {
		t.Errorf("%s: ReadFields(%q) = %v, %v, want %v, %v", what, s, l, ok, want, wantOk)
	}
}

func sampleFields() [][]impl.Field {
	all := [][]impl.Field{
		nil,
		fieldsOf(tagged(35, "D"), tagged(1, "")),
		fieldsOf(tagged(1, "")),
		fieldsOf(tagged(9999, "~"), tagged(9, " "), tagged(11, "~ ~")),
		fieldsOf(tagged(100, "10=000"), tagged(101, "=")),
		fieldsOf(tagged(7, "x"), tagged(7, "x"), tagged(7, "")),
		slices.Repeat(fieldsOf(tagged(1234, "01234567890123456789")), 20),
	}
	d := dice(131)
	for n := range int64(21) {
		all = append(all, randomFields(&d, n))
	}
	return all
}

func randomFields(d *dice, n int64) []impl.Field {
	var l []impl.Field
	for range n {
		tag := 1 + d.roll([]int64{9, 99, 9999}[d.roll(3)])
		if tag == 10 {
			tag = 101
		}
		val := make([]byte, d.roll(21))
		for i := range val {
			val[i] = byte(32 + d.roll(95))
		}
		l = append(l, tagged(tag, string(val)))
	}
	return l
}

func TestFieldExamples(t *testing.T) {
	l := fieldsOf(tagged(35, "D"), tagged(1, ""))
	if s := impl.FieldsText(l); s != "35=D\x011=\x0110=089\x01" {
		t.Errorf("%q", s)
	}
	if s := impl.FieldsText(nil); s != "10=000\x01" {
		t.Errorf("%q", s)
	}
	if l, ok := impl.ReadFields("10=000\x01"); !ok || len(l) != 0 {
		t.Errorf("%v, %v", l, ok)
	}
}

func TestFieldsAreRecovered(t *testing.T) {
	for _, l := range sampleFields() {
		wantFields(t, "sample", l)
	}
	d := dice(132)
	for range 2000 {
		wantFields(t, "random", randomFields(&d, d.roll(21)))
	}
}

// wantFieldIn checks lists in which a field is alone, first, last or between others.
func wantFieldIn(t *testing.T, what string, f impl.Field, valid bool) {
	t.Helper()
	check := wantNoFields
	if valid {
		check = wantFields
	}
	other := tagged(2, "x")
	check(t, what, fieldsOf(f))
	check(t, what, fieldsOf(f, other))
	check(t, what, fieldsOf(other, f))
	check(t, what, fieldsOf(other, f, other))
}

func TestTagsOfFields(t *testing.T) {
	for tag := int64(-300); tag <= 10300; tag++ {
		wantFieldIn(t, "tag", tagged(tag, "v"), tag >= 1 && tag <= 9999 && tag != 10)
	}
	for _, tag := range outside(1, 9999) {
		wantFieldIn(t, "tag", tagged(tag, "v"), false)
	}
	for _, shift := range []int{8, 16, 32, 48} {
		wantFieldIn(t, "a tag with 10 as its last bytes", tagged(10+1<<shift, ""), 10+1<<shift == 266)
	}
}

func TestLengthsOfValues(t *testing.T) {
	for n := range 300 {
		for _, b := range []string{" ", "~", "=", "0"} {
			wantFieldIn(t, "length", tagged(5, strings.Repeat(b, n)), n <= 20)
		}
	}
	wantFieldIn(t, "65536 bytes", tagged(5, strings.Repeat("a", 65536)), false)
}

func TestBytesOfValues(t *testing.T) {
	for b := range 256 {
		x := string([]byte{byte(b)})
		for n := range 20 {
			val := strings.Repeat("v", n) + x + strings.Repeat("w", 19-n)
			wantFieldIn(t, "byte", tagged(6, val), b >= 32 && b <= 126)
		}
		wantFieldIn(t, "one byte", tagged(6, x), b >= 32 && b <= 126)
	}
}

func TestValuesWithEqualSigns(t *testing.T) {
	for _, val := range []string{"=", "==", "a=b", "=a", "a=", "10=000", "35=D", "====================", "10=", "=10=089"} {
		wantFieldIn(t, "equal signs", tagged(35, val), true)
	}
}

func TestNumbersOfFields(t *testing.T) {
	for n := range 300 {
		same := slices.Repeat(fieldsOf(tagged(3, "x")), n)
		var different []impl.Field
		for i := range n {
			different = append(different, tagged(int64(i+100), fmt.Sprint(i)))
		}
		for _, l := range [][]impl.Field{same, different} {
			if n <= 20 {
				wantFields(t, "number of fields", l)
			} else {
				wantNoFields(t, "number of fields", l)
			}
		}
	}
}

// Three bytes of a value can give every sum.
func TestEverySum(t *testing.T) {
	seen := map[string]bool{}
	for n := range 283 {
		x := []byte{32, 32, 32}
		for i := range x {
			add := min(94, n)
			x[i] += byte(add)
			n -= add
		}
		l := fieldsOf(tagged(1, string(x)))
		wantFields(t, "sum", l)
		seen[textOf(l)[6:]] = true
	}
	if len(seen) != 256 {
		t.Errorf("%d sums", len(seen))
	}
}

func TestEveryBitOfATextIsRejected(t *testing.T) {
	for _, l := range sampleFields() {
		s := impl.FieldsText(l)
		for i := range len(s) {
			for bit := range 8 {
				x := []byte(s)
				x[i] ^= 1 << bit
				wantNoText(t, "a bit changed", string(x))
			}
		}
	}
}

func TestEveryByteOfATextIsRejected(t *testing.T) {
	s := impl.FieldsText(fieldsOf(tagged(35, "D"), tagged(1, ""), tagged(7928, "= 10=0")))
	for i := range len(s) {
		for b := range 256 {
			if byte(b) != s[i] {
				wantNoText(t, "a byte changed", s[:i]+string([]byte{byte(b)})+s[i+1:])
			}
			wantReadAsModel(t, "a byte more", s[:i]+string([]byte{byte(b)})+s[i:])
		}
		wantNoText(t, "a byte less", s[:i]+s[i+1:])
	}
}

func TestTextsThatAreCut(t *testing.T) {
	for _, l := range sampleFields() {
		s := textOf(l)
		for i := range len(s) {
			wantNoText(t, "cut", s[:i])
			wantReadAsModel(t, "cut at the front", s[i+1:])
		}
		for b := range 256 {
			x := string([]byte{byte(b)})
			wantNoText(t, "a byte more at the end", s+x)
			wantNoText(t, "a byte more at the front", x+s)
		}
		for _, x := range []string{s + s, s + "10=000\x01", "10=000\x01" + s, summed(s), summed(summed(s))} {
			wantNoText(t, "two sums", x)
		}
	}
}

// Each of these bodies has a correct sum, but is none of a valid list.
func TestBodiesOfNoFields(t *testing.T) {
	for _, body := range []string{
		"\x01", "\x01\x01", "=\x01", "=D\x01", "35\x01", "D\x01", "35D\x01", "35=D", "35=D\x01\x01", "\x0135=D\x01", "35=D\x01=\x01", "35=D\x0135\x01",
		"035=D\x01", "0035=D\x01", "01=\x01", "00001=\x01", "0000000001=\x01", "00000000001=\x01", "0=\x01", "00=\x01", "-0=\x01", "+1=\x01", "-1=\x01", "--1=\x01",
		" 1=\x01", "1 =\x01", "1.0=\x01", "1_0=\x01", "0x1=\x01", "1e2=\x01", "1a=\x01", "a1=\x01", "\uff11=\x01", "\x00=\x01", "1\x00=\x01",
		"10=\x01", "10=1\x01", "10=000\x01", "010=1\x01", "10000=1\x01", "99999=1\x01", "9999999999=1\x01", "10000000000=1\x01", "4294967297=1\x01",
		"18446744073709551617=1\x01", "9223372036854775808=1\x01", "65537=1\x01",
		"1=012345678901234567890\x01", "1=\x1f\x01", "1=\x7f\x01", "1=\x00\x01", "1=\x80\x01", "1=\xff\x01", "1=\n\x01", "1=\t\x01", "1=\u00e9\x01",
		strings.Repeat("1=\x01", 21), strings.Repeat("1=a\x01", 276), strings.Repeat("\x01", 20), strings.Repeat("\x01", 100000),
		"1=a\x01" + strings.Repeat("2=b\x01", 20), strings.Repeat("1=\x01", 20) + "\x01", strings.Repeat("1=\x01", 20) + "x",
	} {
		wantNoText(t, "body", summed(body))
		wantReadAsModel(t, "body", summed(body))
	}
	for _, body := range []string{"", "1=\x01", "9999=\x01", "9=\x01", "11=\x01", "100=10\x01", "1=01234567890123456789\x01", "1= \x01", "1=~\x01", strings.Repeat("1=\x01", 20)} {
		if l, ok := impl.ReadFields(summed(body)); !ok || textOf(l) != summed(body) {
			t.Errorf("ReadFields(%q) = %v, %v", summed(body), l, ok)
		}
	}
}

func TestSumsOfTexts(t *testing.T) {
	for _, x := range []struct {
		body string
		sum  string
	}{
		{"35=D\x011=\x01", "089"}, {"", "000"}, {"1=U\x01", "196"}, {"1=d]\x01", "048"}, {"1=  \x01", "175"}, {"1=KK\x01", "005"}, {"1=MN\x01", "010"}, {"1={z\x01", "100"}, {"1=7\x012=n\x01", "132"}, {"1=  ~~\x01", "171"},
	} {
		if s := x.body + "10=" + x.sum + "\x01"; summed(x.body) != s {
			t.Fatalf("%q has another sum", s)
		}
		l, _ := fieldsModel(summed(x.body))
		wantFields(t, "sum", l)
		short := strings.TrimLeft(x.sum, "0")
		value, _ := strconv.Atoi(x.sum)
		for _, sum := range []string{
			"0" + x.sum, "00" + x.sum, x.sum[1:], x.sum[2:], x.sum[:2], "", "0" + x.sum[1:] + "0", x.sum + "0",
			fmt.Sprint(value + 256), fmt.Sprint(value + 512), fmt.Sprintf("%03d", value+1), fmt.Sprintf("%03d", value+255),
			"+" + x.sum[1:], "-" + x.sum[1:], " " + x.sum[1:], "+" + x.sum, " " + x.sum, x.sum + " ", x.sum[:2] + " ",
			fmt.Sprintf("%03x", value) + "h", fmt.Sprintf("%03d", (value+'1'+'0'+'=')%256), fmt.Sprintf("%03d", (value+255)%256),
		} {
			wantNoText(t, "sum", x.body+"10="+sum+"\x01")
		}
		if len(short) < 3 {
			wantNoText(t, "a sum without zeros", x.body+"10="+short+"\x01")
		}
		for _, end := range []string{
			"10=" + x.sum, "10=" + x.sum + "\x01\x01", "10=" + x.sum + "\x02", "10=" + x.sum + "\n", "010=" + x.sum + "\x01", "11=" + x.sum + "\x01",
			"10 " + x.sum + "\x01", "10" + x.sum + "\x01", "=" + x.sum + "\x01", x.sum + "\x01", "10==" + x.sum + "\x01", "\x0110=" + x.sum + "\x01", "00=" + x.sum + "\x01", "",
		} {
			wantNoText(t, "end", x.body+end)
		}
	}
}

func TestReadFieldsRandomly(t *testing.T) {
	d := dice(133)
	parts := []string{"1", "0", "10", "=", "\x01", "a", " ", "~", "35", "9999", "\x1f", "\x7f", "=\x01", "1=\x01", "10=000\x01", "", "12=x\x01"}
	read := 0
	for range 20000 {
		body := ""
		for range d.roll(12) {
			body += parts[d.roll(int64(len(parts)))]
		}
		wantReadAsModel(t, "random", body)
		wantReadAsModel(t, "random, with a sum", summed(body))
		if _, ok := impl.ReadFields(summed(body)); ok {
			read++
		}
	}
	if read < 100 {
		t.Errorf("only %d texts were read", read)
	}
}

func TestChangedTextsRandomly(t *testing.T) {
	d := dice(134)
	for range 20000 {
		s := textOf(randomFields(&d, d.roll(4)))
		body := s[:len(s)-7]
		for range 1 + d.roll(2) {
			at := d.roll(int64(len(body) + 1))
			x := string([]byte{[]byte("\x01=019 ~\x7fz")[d.roll(9)]})
			if body = body[:at] + x + body[min(at+d.roll(2), int64(len(body))):]; d.roll(3) == 0 {
				wantReadAsModel(t, "changed, with the old sum", body+s[len(s)-7:])
			}
		}
		wantReadAsModel(t, "changed, with a new sum", summed(body))
	}
}

func TestTextsOfDifferentFieldsDiffer(t *testing.T) {
	seen := map[string]string{}
	d := dice(135)
	for range 20000 {
		var l []impl.Field
		for range d.roll(4) {
			l = append(l, tagged(1+d.roll(3), []string{"", "=", "1", "2=", "1=1"}[d.roll(5)]))
		}
		s, key := impl.FieldsText(l), fmt.Sprintf("%#v", l)
		if old, ok := seen[s]; ok && old != key {
			t.Fatalf("%s and %s have the text %q", old, key, s)
		}
		seen[s] = key
	}
}

func TestFieldsAreKept(t *testing.T) {
	for _, l := range append(sampleFields(), fieldsOf(tagged(10, "x"), tagged(1, "\x01")), slices.Repeat(fieldsOf(tagged(3, "x")), 21)) {
		wantKept(t, "FieldsOk", l, impl.FieldsOk)
		wantKept(t, "FieldsText", l, impl.FieldsText)
		wantKept(t, "CmdOf", l, impl.CmdOf)
	}
}

func TestEqualArgumentsYieldEqualFields(t *testing.T) {
	for _, l := range sampleFields() {
		s := impl.FieldsText(l)
		impl.FieldsText(fieldsOf(tagged(4, "other")))
		if again := impl.FieldsText(slices.Clone(l)); again != s {
			t.Errorf("%v: first %q, then %q", l, s, again)
		}
		a, _ := impl.ReadFields(s)
		b, ok := impl.ReadFields(strings.Clone(s))
		if !ok || !slices.Equal(a, b) || overlap(a, b) {
			t.Errorf("%q: first %v, then %v", s, a, b)
		}
		clear(a)
		if again, _ := impl.ReadFields(s); !slices.Equal(again, b) {
			t.Errorf("%q: first %v, then %v", s, b, again)
		}
	}
}
