package tests

import (
	"fmt"
	"slices"
	"strings"
	"testing"

	"loop.example/g00609/impl"
)

func TestFrameExamples(t *testing.T) {
	f := impl.FrameOf("abc")
	if f != "\x00\x00\x00\x03\xc2\x41\x24\x35abc" {
		t.Errorf("FrameOf returns %q", f)
	}
	if l, at := impl.TakeFrames(f + f + "x"); !slices.Equal(l, []string{"abc", "abc"}) || at != 22 {
		t.Errorf("TakeFrames returns %q, %d", l, at)
	}
}

func TestConstantsOfStores(t *testing.T) {
	codes := []int{impl.StOk, impl.StDisk, impl.StNone, impl.StForm, impl.StFull, impl.StPower, impl.StTorn}
	if !slices.Equal(codes, []int{0, 1, 2, 3, 4, 5, 6}) {
		t.Errorf("the codes are %v", codes)
	}
	if kinds := []int{impl.AcNew, impl.AcAdd, impl.AcOpen, impl.AcCrash}; !slices.Equal(kinds, []int{1, 2, 3, 4}) {
		t.Errorf("the kinds are %v", kinds)
	}
}

// sampleData is data of many lengths and bytes.
func sampleData() []string {
	l := []string{"", "\x00", "\xff", "123456789", strings.Repeat("\x00", 1000), strings.Repeat("\xff", 70000), strings.Repeat("ab", 50000)}
	d := dice(121)
	for n := range 300 {
		b := make([]byte, n)
		for i := range b {
			b[i] = byte(d.roll(256))
		}
		l = append(l, string(b))
	}
	for b := range 256 {
		l = append(l, string([]byte{byte(b)}))
	}
	return l
}

// wantFrames checks the frames with which a string begins, and where they end.
func wantFrames(t *testing.T, what string, s string, want []string, at int) {
	t.Helper()
	if l, got := impl.TakeFrames(s); !slices.Equal(l, want) || got != int64(at) {
		t.Errorf("%s: TakeFrames returns %d elements and %d, want %d and %d", what, len(l), got, len(want), at)
	}
}

func TestFrames(t *testing.T) {
	if f := impl.FrameOf("123456789"); f[4:8] != "\x26\x39\xf4\xcb" {
		t.Errorf("the sum is %q", f[4:8])
	}
	if f := impl.FrameOf(""); f != strings.Repeat("\x00", 8) {
		t.Errorf("the frame of nothing is %q", f)
	}
	var all strings.Builder
	for _, data := range sampleData() {
		f := impl.FrameOf(data)
		if f != logFrame(data) {
			t.Errorf("FrameOf(%q) returns %q", data, f)
		}
		wantFrames(t, "one", f, []string{data}, len(f))
		wantFrames(t, "one and a byte", f+"x", []string{data}, len(f))
		wantFrames(t, "two", f+f, []string{data, data}, 2*len(f))
		wantFrames(t, "one behind a byte", "x"+f, nil, 0)
		all.WriteString(f)
	}
	wantFrames(t, "all", all.String(), sampleData(), all.Len())
}

func TestFramesOfAtMost100000Bytes(t *testing.T) {
	data := strings.Repeat("x", 100001)
	f := impl.FrameOf(data[1:])
	if f != logFrame(data[1:]) {
		t.Error("the frame of 100000 bytes is wrong")
	}
	wantFrames(t, "100000 bytes", f+f, []string{data[1:], data[1:]}, 2*len(f))
	if f := impl.FrameOf(data); f != "" {
		t.Errorf("the frame of 100001 bytes has %d bytes", len(f))
	}
	wantFrames(t, "100001 bytes", logFrame(data), nil, 0)
	wantFrames(t, "100001 bytes behind a frame", f+logFrame(data)+f, []string{data[1:]}, len(f))
	if f := impl.FrameOf(data + data); f != "" {
		t.Errorf("the frame of 200002 bytes has %d bytes", len(f))
	}
}

func TestFramesThatAreCut(t *testing.T) {
	first, second := logFrame("first"), logFrame("2nd")
	s := first + second + logFrame("")
	for n := range len(s) {
		want, at := []string{}, 0
		if n >= len(first) {
			want, at = append(want, "first"), len(first)
		}
		if n >= len(first+second) {
			want, at = append(want, "2nd"), len(first+second)
		}
		wantFrames(t, fmt.Sprintf("the first %d bytes", n), s[:n], want, at)
	}
	wantFrames(t, "nothing", "", nil, 0)
	wantFrames(t, "7 zeros", strings.Repeat("\x00", 7), nil, 0)
	wantFrames(t, "15 zeros", strings.Repeat("\x00", 15), []string{""}, 8)
	wantFrames(t, "16 zeros", strings.Repeat("\x00", 16), []string{"", ""}, 16)
}

func TestFramesWithAChangedBit(t *testing.T) {
	first, second := logFrame("first"), logFrame("\x00\x01 something longer \xfe\xff")
	s := first + second + first
	for at := range len(second) {
		for bit := range 8 {
			b := []byte(s)
			b[len(first)+at] ^= 1 << bit
			wantFrames(t, fmt.Sprintf("bit %d of byte %d", bit, at), string(b), []string{"first"}, len(first))
		}
	}
}

func TestFramesOfAWrongLengthOrSum(t *testing.T) {
	f := logFrame("abc")
	for name, s := range map[string]string{
		"a length of 0":                "\x00\x00\x00\x00" + f[4:],
		"a length of 2":                "\x00\x00\x00\x02" + f[4:],
		"a length of 4":                "\x00\x00\x00\x04" + f[4:] + "d",
		"a length of 4, no byte":       "\x00\x00\x00\x04" + f[4:],
		"the greatest length":          "\xff\xff\xff\xff" + f[4:],
		"a length with the sign":       "\x80\x00\x00\x03" + f[4:],
		"a little-endian length":       "\x03\x00\x00\x00" + f[4:],
		"a big-endian sum":             f[:4] + "\x35\x24\x41\xc2abc",
		"a sum of 0":                   f[:4] + "\x00\x00\x00\x00abc",
		"the sum of other data":        f[:4] + logFrame("abd")[4:8] + "abc",
		"the sum of the length too":    f[:4] + logFrame("\x00\x00\x00\x03abc")[4:8] + "abc",
		"a sum that is not turned":     f[:4] + "\x3d\xbe\xdb\xcaabc",
		"nothing, with a sum":          "\x00\x00\x00\x00\x01\x00\x00\x00",
		"nothing, with the other sum":  "\x00\x00\x00\x00\xff\xff\xff\xff",
		"a length of more than 100000": "\x00\x01\x86\xa1" + f[4:] + strings.Repeat("x", 100000),
	} {
		wantFrames(t, name, s, nil, 0)
		wantFrames(t, name+", behind a frame", f+s, []string{"abc"}, len(f))
	}
}

func TestManyFrames(t *testing.T) {
	var s strings.Builder
	var want []string
	for i := range 5000 {
		want = append(want, fmt.Sprint(i))
		s.WriteString(logFrame(want[i]))
	}
	wantFrames(t, "5000", s.String(), want, s.Len())
}

// A logCase is what a log contains, and what of it counts.
type logCase struct {
	name  string
	log   string
	many  int
	whole bool
}

// logCases have the commands of numberedCmds.
func logCases() []logCase {
	l := numberedCmds(201)
	three := logOf(l[:3]...)
	fourth := entry("3", l[3])
	out := []logCase{
		{"empty", "", 0, true},
		{"1 command", logOf(l[0]), 1, true},
		{"3 commands", three, 3, true},
		{"11 commands", logOf(l[:11]...), 11, true},
		{"101 commands", logOf(l[:101]...), 101, true},
		{"199 commands", logOf(l[:199]...), 199, true},
		{"200 commands", logOf(l[:200]...), 200, true},
		{"201 commands", logOf(l...), 200, false},
		{"200 commands and a byte", logOf(l[:200]...) + "x", 200, false},
		{"a number too great", three + entry("4", l[3]) + entry("4", l[4]), 3, false},
		{"a number too small", three + entry("2", l[3]) + fourth, 3, false},
		{"a number 1 at first", entry("1", l[0]) + logOf(l[:2]...), 0, false},
		{"10 before 2", logOf(l[:2]...) + entry("10", l[2]), 2, false},
		{"1 behind 9", logOf(l[:10]...) + entry("1", l[10]), 10, false},
		{"an order number as a number", three + entry("4294967299", l[3]), 3, false},
		{"a command of kind 0", three + entry("3", impl.Cmd{}), 3, false},
		{"a command of account 101", three + entry("3", wide(impl.CkMass, 101)), 3, false},
		{"a command with a field too much", three + entry("3", impl.Cmd{Kind: impl.CkMass, Acct: 1, Id: 1}), 3, false},
		{"a command that is not valid at first", entry("0", impl.Cmd{}) + logOf(l[0]), 0, false},
		{"commands without a number", three + logFrame(frame(l[3])), 3, false},
		{"no command", three + logFrame("3 "), 3, false},
		{"no command, no space", three + logFrame("3"), 3, false},
		{"an empty frame", three + logFrame(""), 3, false},
		{"an empty frame at first", logFrame("") + three, 0, false},
		{"a part of a command", three + logFrame("3 "+frame(l[3])[:14]), 3, false},
		{"a command and a byte", three + logFrame("3 "+frame(l[3])+"x"), 3, false},
		{"two commands", three + logFrame("3 "+frame(l[3])+frame(l[4])), 3, false},
		{"two frames in one", three + logFrame("3 "+frame(l[3])+entry("4", l[4])), 3, false},
		{"a byte behind", three + "x", 3, false},
		{"a byte 0 behind", three + "\x00", 3, false},
		{"a byte before", "x" + three, 0, false},
		{"a byte in between", three + "x" + fourth, 3, false},
		{"a wrong sum", three + fourth[:4] + "abcd" + fourth[8:], 3, false},
		{"a wrong length", three + "\x00\x00\x00\x10" + fourth[4:], 3, false},
		{"the same again", three + three, 3, false},
	}
	for _, number := range []string{"03", "003", "+3", "-3", " 3", "3 ", "3.", "3\x00", "\x003", "0x3", "\t3", "", "3,", "a"} {
		out = append(out, logCase{fmt.Sprintf("the number %q", number), three + entry(number, l[3]) + fourth, 3, false})
	}
	for _, number := range []string{"00", "01", "+0", "-0", "", "O"} {
		out = append(out, logCase{fmt.Sprintf("the number %q at first", number), entry(number, l[0]), 0, false})
	}
	for _, separator := range []string{"", "  ", "\t", "\n", "\x00", ":"} {
		out = append(out, logCase{fmt.Sprintf("the separator %q", separator), three + logFrame("3"+separator+frame(l[3])), 3, false})
	}
	for n := 1; n < len(fourth); n++ {
		out = append(out, logCase{fmt.Sprintf("%d bytes of a frame", n), three + fourth[:n], 3, false})
	}
	return out
}

// wantView checks the commands that a log contains.
func wantView(t *testing.T, what string, d impl.Disk, want ...impl.Cmd) {
	t.Helper()
	if l, code := impl.StoreView(d); code != impl.StOk || !slices.Equal(l, want) {
		t.Errorf("%s: StoreView returns %d commands and %d, want %d", what, len(l), code, len(want))
	}
}

func wantNoView(t *testing.T, what string, d impl.Disk, code int64) {
	t.Helper()
	if l, got := impl.StoreView(d); got != code || len(l) != 0 {
		t.Errorf("%s: StoreView returns %d commands and %d, want %d", what, len(l), got, code)
	}
}

func TestStoreViewOfLogs(t *testing.T) {
	for _, x := range logCases() {
		want := numberedCmds(x.many)
		if l, size := readLog(x.log); !slices.Equal(l, want) || (size == len(x.log)) != x.whole {
			t.Fatalf("%s: the model reads %d commands", x.name, len(l))
		}
		wantView(t, x.name, withLog(x.log), want...)
		wantView(t, x.name+", among other files", withLog(x.log, file("lo", "1"), file("log.new", logOf(numberedCmds(9)...)), file("logs", "2")), want...)
		wantView(t, x.name+", unsynced", after(impl.Disk{}, adds("log", x.log)), want...)
		wantView(t, x.name+", renamed", after(withLog(""), adds("x", x.log), renames("x", "log")), want...)
	}
}

func TestStoreViewOfEachKindOfCommand(t *testing.T) {
	var l []impl.Cmd
	for _, c := range sampleCmds() {
		if l = append(l, c); len(l) == 200 {
			break
		}
	}
	wantView(t, "samples", withLog(logOf(l...)), l...)
	// Kind 10, a line feed, and account 32, a space, are in the bytes of the command.
	blank := []impl.Cmd{wide(impl.CkFree, 32), {Kind: impl.CkCancel, Sym: 0, Acct: 32, Id: 0x20202020}}
	wantView(t, "spaces", withLog(logOf(blank...)), blank...)
}

func TestStoreViewWithoutALog(t *testing.T) {
	for name, d := range invalidDisks() {
		wantNoView(t, name, d, impl.StDisk)
	}
	wantNoView(t, "a disk that is not valid, with a log", disk(files(file("log", "")), nil), impl.StDisk)
	wantNoView(t, "the zero disk", impl.Disk{}, impl.StNone)
	for name, d := range map[string]impl.Disk{
		"other names":  synced(file("LOG", ""), file("lo", ""), file("log ", ""), file("log.new", ""), file("xlog", "")),
		"removed":      after(withLog(""), erases("log")),
		"renamed":      after(withLog(logOf(numberedCmds(3)...)), renames("log", "log.new")),
		"full of ops":  after(impl.Disk{}, manyOps(200)...),
		"60 files":     synced(manyFiles(60, 0)...),
		"200000 bytes": synced(manyFiles(1, 200000)...),
	} {
		wantNoView(t, name, d, impl.StNone)
	}
}

func TestStoreViewOfALargeLog(t *testing.T) {
	log := logOf(numberedCmds(200)...)
	log += strings.Repeat("\x00", 200000-len(log))
	wantView(t, "200000 bytes", withLog(log), numberedCmds(200)...)
	wantView(t, "200000 zeros", withLog(strings.Repeat("\x00", 200000)))
}

func TestStoreViewOfChangedLogs(t *testing.T) {
	log := logOf(numberedCmds(3)...)
	for at := range len(log) {
		b := []byte(log)
		b[at] ^= 0x10
		want, size := readLog(string(b))
		if size > at {
			t.Fatalf("the model does not see that byte %d has changed", at)
		}
		wantView(t, fmt.Sprint("a change in byte ", at), withLog(string(b)), want...)
	}
}
