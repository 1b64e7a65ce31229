package tests

import (
	"encoding/binary"
	"math"
	"slices"
	"strings"
	"testing"

	"loop.example/g00609/impl"
)

// bytesOf is an encoder of its own: each number in as many bytes as its width.
func bytesOf(numbers []int64, widths []int) string {
	var out []byte
	for i, n := range numbers {
		full := binary.BigEndian.AppendUint64(nil, uint64(n))
		out = append(out, full[8-widths[i]:]...)
	}
	return string(out)
}

func numbersOf(s string, widths []int) []int64 {
	var out []int64
	for _, w := range widths {
		full := append(make([]byte, 8-w), s[:w]...)
		out = append(out, int64(binary.BigEndian.Uint64(full)))
		s = s[w:]
	}
	return out
}

var cmdWidths = []int{1, 1, 1, 4, 1, 3, 3, 1}
var recWidths = []int{4, 1, 1, 1, 4, 4, 3, 3}

func frame(c impl.Cmd) string {
	return bytesOf([]int64{c.Kind, c.Sym, c.Acct, c.Id, c.Side, c.Price, c.Qty, c.Mode}, cmdWidths)
}

func cmdFrom(s string) impl.Cmd {
	n := numbersOf(s, cmdWidths)
	return impl.Cmd{Kind: n[0], Sym: n[1], Acct: n[2], Id: n[3], Side: n[4], Price: n[5], Qty: n[6], Mode: n[7]}
}

func recFrame(r impl.Rec) string {
	return bytesOf([]int64{r.Stamp, r.Kind, r.Sym, r.Acct, r.Id, r.Other, r.Price, r.Qty}, recWidths)
}

func recFrom(s string) impl.Rec {
	n := numbersOf(s, recWidths)
	return impl.Rec{Stamp: n[0], Kind: n[1], Sym: n[2], Acct: n[3], Id: n[4], Other: n[5], Price: n[6], Qty: n[7]}
}

// usedBy: the fields beside Acct that each kind of command uses.
var usedBy = map[int64]string{
	impl.CkLimit: "Sym Id Side Price Qty Mode", impl.CkMarket: "Sym Id Side Qty Mode",
	impl.CkIoc: "Sym Id Side Price Qty Mode", impl.CkFok: "Sym Id Side Price Qty Mode",
	impl.CkPost: "Sym Id Side Price Qty Mode", impl.CkCancel: "Sym Id", impl.CkRepl: "Sym Id Price Qty Mode",
	impl.CkMass: "", impl.CkBlock: "", impl.CkFree: "",
}

func cmdFields() []field[impl.Cmd] {
	return []field[impl.Cmd]{
		{"Acct", func(c *impl.Cmd) *int64 { return &c.Acct }, 1, 100},
		{"Sym", func(c *impl.Cmd) *int64 { return &c.Sym }, 0, 3},
		{"Id", func(c *impl.Cmd) *int64 { return &c.Id }, 1, 1000000000},
		{"Side", func(c *impl.Cmd) *int64 { return &c.Side }, 1, 2},
		{"Price", func(c *impl.Cmd) *int64 { return &c.Price }, 1, 1000000},
		{"Qty", func(c *impl.Cmd) *int64 { return &c.Qty }, 1, 1000000},
		{"Mode", func(c *impl.Cmd) *int64 { return &c.Mode }, 1, 3},
	}
}

func uses(kind int64, name string) bool {
	return name == "Acct" || slices.Contains(strings.Fields(usedBy[kind]), name)
}

// validCmd judges a command by the document's list alone.
func validCmd(c impl.Cmd) bool {
	if _, ok := usedBy[c.Kind]; !ok {
		return false
	}
	for _, f := range cmdFields() {
		n := *f.at(&c)
		if uses(c.Kind, f.name) && (n < f.low || n > f.high) || !uses(c.Kind, f.name) && n != 0 {
			return false
		}
	}
	return true
}

// cmdOfKind returns a command with a value for each used field.
func cmdOfKind(kind int64, pick func(f field[impl.Cmd]) int64) impl.Cmd {
	c := impl.Cmd{Kind: kind}
	for _, f := range cmdFields() {
		if uses(kind, f.name) {
			*f.at(&c) = pick(f)
		}
	}
	return c
}

// sampleCmds returns valid commands of every kind, with least, greatest and other values.
func sampleCmds() []impl.Cmd {
	d := dice(7)
	var l []impl.Cmd
	for kind := int64(1); kind <= 10; kind++ {
		l = append(l, cmdOfKind(kind, func(f field[impl.Cmd]) int64 { return f.low }))
		l = append(l, cmdOfKind(kind, func(f field[impl.Cmd]) int64 { return f.high }))
		for range 20 {
			l = append(l, cmdOfKind(kind, func(f field[impl.Cmd]) int64 { return f.low + d.roll(f.high-f.low+1) }))
		}
	}
	return l
}

func wantValidCmd(t *testing.T, c impl.Cmd) {
	t.Helper()
	s := frame(c)
	if !impl.CmdOk(c) || impl.CmdBytes(c) != s {
		t.Errorf("%+v: CmdOk %v, bytes %q, want %q", c, impl.CmdOk(c), impl.CmdBytes(c), s)
	}
	if got := impl.ReadCmd(s); got != c {
		t.Errorf("ReadCmd(%q) = %+v, want %+v", s, got, c)
	}
}

func wantInvalidCmd(t *testing.T, c impl.Cmd) {
	t.Helper()
	if impl.CmdOk(c) || impl.CmdBytes(c) != "" {
		t.Errorf("%+v: CmdOk %v, bytes %q", c, impl.CmdOk(c), impl.CmdBytes(c))
	}
	if s := frame(c); cmdFrom(s) == c && impl.ReadCmd(s) != (impl.Cmd{}) {
		t.Errorf("ReadCmd(%q) = %+v, want zero", s, impl.ReadCmd(s))
	}
}

func TestConstants(t *testing.T) {
	got := []int64{
		impl.MaxPrice, impl.MaxQty, impl.MaxId, impl.MaxAcct, impl.MaxSyms, impl.MaxBook,
		impl.CkLimit, impl.CkMarket, impl.CkIoc, impl.CkFok, impl.CkPost, impl.CkCancel, impl.CkRepl, impl.CkMass, impl.CkBlock, impl.CkFree,
		impl.SdBuy, impl.SdSell, impl.SpNew, impl.SpOld, impl.SpBoth,
	}
	want := []int64{1000000, 1000000, 1000000000, 100, 4, 20, 1, 2, 3, 4, 5, 6, 7, 8, 9, 10, 1, 2, 1, 2, 3}
	if !slices.Equal(got, want) {
		t.Errorf("constants %v, want %v", got, want)
	}
}

func TestPutIntWritesEveryWidth(t *testing.T) {
	for _, x := range []struct {
		n, width int64
		want     string
	}{
		{0, 1, "\x00"}, {1, 1, "\x01"}, {255, 1, "\xff"}, {256, 2, "\x01\x00"}, {65535, 2, "\xff\xff"},
		{258, 3, "\x00\x01\x02"}, {0, 7, "\x00\x00\x00\x00\x00\x00\x00"}, {1<<56 - 1, 7, "\xff\xff\xff\xff\xff\xff\xff"},
		{0x01020304050607, 7, "\x01\x02\x03\x04\x05\x06\x07"}, {0x80, 1, "\x80"}, {0x0a0b0c0d, 4, "\x0a\x0b\x0c\x0d"},
	} {
		if got := impl.PutInt(x.n, x.width); got != x.want {
			t.Errorf("PutInt(%d, %d) = %q, want %q", x.n, x.width, got, x.want)
		}
		if got := impl.GetInt(x.want); got != x.n {
			t.Errorf("GetInt(%q) = %d, want %d", x.want, got, x.n)
		}
	}
}

func TestNumbersAreRecovered(t *testing.T) {
	d := dice(1)
	for width := int64(1); width <= 7; width++ {
		limit := int64(1) << (8 * width)
		l := []int64{0, 1, limit/2 - 1, limit / 2, limit - 1}
		for range 200 {
			l = append(l, (d.roll(1<<30)<<30|d.roll(1<<30))%limit)
		}
		for _, n := range l {
			s := impl.PutInt(n, width)
			if s != bytesOf([]int64{n}, []int{int(width)}) || impl.GetInt(s) != n {
				t.Errorf("PutInt(%d, %d) = %q, back %d", n, width, s, impl.GetInt(s))
			}
		}
	}
}

func TestPutIntRejects(t *testing.T) {
	for _, width := range []int64{0, 8, 9, 15, 64, -1, -7, 257, math.MinInt64, math.MaxInt64} {
		for _, n := range []int64{0, 1, 255, -1, math.MaxInt64} {
			if got := impl.PutInt(n, width); got != "" {
				t.Errorf("PutInt(%d, %d) = %q", n, width, got)
			}
		}
	}
	for width := int64(1); width <= 7; width++ {
		for _, n := range []int64{1 << (8 * width), 1<<(8*width) + 1, math.MaxInt64, -1, -255, math.MinInt64} {
			if got := impl.PutInt(n, width); got != "" {
				t.Errorf("PutInt(%d, %d) = %q", n, width, got)
			}
		}
	}
}

func TestGetIntRejectsOtherLengths(t *testing.T) {
	for _, n := range []int{0, 8, 9, 16, 3000} {
		for _, b := range []string{"\x00", "\x01", "\xff"} {
			if got := impl.GetInt(strings.Repeat(b, n)); got != -1 {
				t.Errorf("GetInt of %d bytes = %d", n, got)
			}
		}
	}
}

func TestValidCommandsAreRecovered(t *testing.T) {
	for _, c := range sampleCmds() {
		wantValidCmd(t, c)
		if len(impl.CmdBytes(c)) != 15 {
			t.Errorf("%+v: %d bytes", c, len(impl.CmdBytes(c)))
		}
	}
}

func TestCommandFieldLimits(t *testing.T) {
	for kind := int64(1); kind <= 10; kind++ {
		base := cmdOfKind(kind, func(f field[impl.Cmd]) int64 { return min(f.low+1, f.high) })
		for _, f := range cmdFields() {
			c := base
			if !uses(kind, f.name) {
				for _, n := range append(outside(0, 0), 1, 2, 3, f.low+1, f.high) {
					*f.at(&c) = n
					wantInvalidCmd(t, c)
				}
				continue
			}
			for _, n := range []int64{f.low, f.high} {
				*f.at(&c) = n
				wantValidCmd(t, c)
			}
			for _, n := range outside(f.low, f.high) {
				*f.at(&c) = n
				wantInvalidCmd(t, c)
			}
		}
	}
}

func TestCommandKindLimits(t *testing.T) {
	for _, c := range sampleCmds() {
		for _, kind := range outside(1, 10) {
			c.Kind = kind
			wantInvalidCmd(t, c)
		}
	}
	wantInvalidCmd(t, impl.Cmd{})
}

// Each frame in which one byte is changed is that of the command with its numbers, or of none.
func TestReadCmdOfChangedFrames(t *testing.T) {
	for _, c := range sampleCmds() {
		s := frame(c)
		for i := range len(s) {
			for b := range 256 {
				x := s[:i] + string([]byte{byte(b)}) + s[i+1:]
				want := cmdFrom(x)
				if !validCmd(want) {
					want = impl.Cmd{}
				}
				if got := impl.ReadCmd(x); got != want {
					t.Fatalf("ReadCmd(%q) = %+v, want %+v", x, got, want)
				}
			}
		}
	}
}

func TestReadCmdOfOtherLengths(t *testing.T) {
	for _, c := range sampleCmds() {
		s := frame(c)
		for i := range len(s) {
			if got := impl.ReadCmd(s[:i]); got != (impl.Cmd{}) {
				t.Errorf("ReadCmd of %d bytes = %+v", i, got)
			}
		}
		for _, x := range []string{s + "\x00", s + "x", "\x00" + s, s + s} {
			if got := impl.ReadCmd(x); got != (impl.Cmd{}) {
				t.Errorf("ReadCmd(%q) = %+v", x, got)
			}
		}
	}
}

func wantCmds(t *testing.T, what string, s string, want []impl.Cmd) {
	t.Helper()
	got := impl.CmdsOf(s)
	if !slices.Equal(got, want) {
		t.Errorf("%s: %d commands, want %d: %v", what, len(got), len(want), got)
	}
}

// framesOf returns n different frames and their commands.
func framesOf(n int) (string, []impl.Cmd) {
	s, l := "", []impl.Cmd(nil)
	for i := range n {
		c := impl.Cmd{Kind: impl.CkCancel, Sym: int64(i % 4), Acct: int64(i%100) + 1, Id: int64(i) + 1}
		s, l = s+frame(c), append(l, c)
	}
	return s, l
}

func TestCmdsOfReadsFrames(t *testing.T) {
	zero := impl.Cmd{}
	c := impl.Cmd{Kind: impl.CkLimit, Sym: 2, Acct: 3, Id: 258, Side: impl.SdSell, Price: 100, Qty: 7, Mode: impl.SpBoth}
	f := "\x01\x02\x03\x00\x00\x01\x02\x02\x00\x00\x64\x00\x00\x07\x03"
	wantCmds(t, "example", f+f[:14]+"\x09"+f+"ab", []impl.Cmd{c, zero, c, zero})
	wantCmds(t, "empty", "", nil)
	wantCmds(t, "one frame", f, []impl.Cmd{c})
	wantCmds(t, "two frames", f+f, []impl.Cmd{c, c})
	wantCmds(t, "zero bytes", strings.Repeat("\x00", 30), []impl.Cmd{zero, zero})
	wantCmds(t, "a shifted frame", "\x00"+f, []impl.Cmd{zero, zero})
	var want []impl.Cmd
	s := ""
	for _, x := range sampleCmds()[:199] {
		s, want = s+frame(x), append(want, x)
	}
	wantCmds(t, "all kinds", s, want)
}

func TestCmdsOfBytesBehindTheLastFrame(t *testing.T) {
	zero := impl.Cmd{}
	next := frame(impl.Cmd{Kind: impl.CkMass, Acct: 1})
	for _, n := range []int{0, 1, 2, 199} {
		s, l := framesOf(n)
		wantCmds(t, "no bytes behind", s, l)
		for size := 1; size < 15; size++ {
			wantCmds(t, "bytes behind", s+next[:size], append(slices.Clone(l), zero))
			wantCmds(t, "zero bytes behind", s+strings.Repeat("\x00", size), append(slices.Clone(l), zero))
		}
	}
}

func TestCmdsOfReadsAtMost200Frames(t *testing.T) {
	s, l := framesOf(200)
	wantCmds(t, "200 frames", s, l)
	wantCmds(t, "an invalid 200th frame", s[:2985]+strings.Repeat("\xff", 15), append(slices.Clone(l[:199]), impl.Cmd{}))
	for _, n := range []int{201, 202, 400} {
		more, _ := framesOf(n)
		wantCmds(t, "more frames", more, l)
	}
	for _, size := range []int{1, 7, 14, 16} {
		wantCmds(t, "bytes behind the 200th frame", s+strings.Repeat("x", size), l)
	}
}

func recFields() []field[impl.Rec] {
	return []field[impl.Rec]{
		{"Stamp", func(r *impl.Rec) *int64 { return &r.Stamp }, 0, 1000000000},
		{"Kind", func(r *impl.Rec) *int64 { return &r.Kind }, 1, 5},
		{"Sym", func(r *impl.Rec) *int64 { return &r.Sym }, 0, 255},
		{"Acct", func(r *impl.Rec) *int64 { return &r.Acct }, 0, 255},
		{"Id", func(r *impl.Rec) *int64 { return &r.Id }, 0, 1000000000},
		{"Other", func(r *impl.Rec) *int64 { return &r.Other }, 0, 1000000000},
		{"Price", func(r *impl.Rec) *int64 { return &r.Price }, 0, 1000000},
		{"Qty", func(r *impl.Rec) *int64 { return &r.Qty }, 0, 1000000},
	}
}

func validRec(r impl.Rec) bool {
	for _, f := range recFields() {
		if n := *f.at(&r); n < f.low || n > f.high {
			return false
		}
	}
	return true
}

func recWith(pick func(f field[impl.Rec]) int64) impl.Rec {
	r := impl.Rec{}
	for _, f := range recFields() {
		*f.at(&r) = pick(f)
	}
	return r
}

// sampleRecs returns n valid records, among them those of the least and of the greatest values.
func sampleRecs(n int) []impl.Rec {
	d := dice(11)
	l := []impl.Rec{
		recWith(func(f field[impl.Rec]) int64 { return f.low }),
		recWith(func(f field[impl.Rec]) int64 { return f.high }),
	}
	for len(l) < n {
		l = append(l, recWith(func(f field[impl.Rec]) int64 { return f.low + d.roll(f.high-f.low+1) }))
	}
	return l[:n]
}

func wantValidRec(t *testing.T, r impl.Rec) {
	t.Helper()
	s := recFrame(r)
	if !impl.RecOk(r) || impl.RecBytes(r) != s {
		t.Errorf("%+v: RecOk %v, bytes %q, want %q", r, impl.RecOk(r), impl.RecBytes(r), s)
	}
	if got, ok := impl.ReadRec(s); !ok || got != r {
		t.Errorf("ReadRec(%q) = %+v, %v, want %+v", s, got, ok, r)
	}
}

func wantInvalidRec(t *testing.T, r impl.Rec) {
	t.Helper()
	if impl.RecOk(r) || impl.RecBytes(r) != "" {
		t.Errorf("%+v: RecOk %v, bytes %q", r, impl.RecOk(r), impl.RecBytes(r))
	}
	if s := recFrame(r); recFrom(s) == r {
		wantNoRec(t, s)
	}
}

func wantNoRec(t *testing.T, s string) {
	t.Helper()
	if got, ok := impl.ReadRec(s); ok || got != (impl.Rec{}) {
		t.Errorf("ReadRec(%q) = %+v, %v", s, got, ok)
	}
}

func TestValidRecordsAreRecovered(t *testing.T) {
	wantValidRec(t, impl.Rec{Stamp: 1, Kind: impl.RkFill, Sym: 2, Acct: 3, Id: 4, Other: 5, Price: 6, Qty: 7})
	for _, r := range sampleRecs(200) {
		wantValidRec(t, r)
	}
}

func TestRecordFieldLimits(t *testing.T) {
	base := impl.Rec{Stamp: 9, Kind: 2, Sym: 8, Acct: 7, Id: 6, Other: 5, Price: 4, Qty: 3}
	for _, f := range recFields() {
		r := base
		for _, n := range []int64{f.low, f.high} {
			*f.at(&r) = n
			wantValidRec(t, r)
		}
		for _, n := range outside(f.low, f.high) {
			*f.at(&r) = n
			wantInvalidRec(t, r)
		}
	}
	for kind := int64(1); kind <= 5; kind++ {
		wantValidRec(t, impl.Rec{Kind: kind})
	}
	wantInvalidRec(t, impl.Rec{})
}

func TestReadRecOfChangedBytes(t *testing.T) {
	for _, r := range sampleRecs(30) {
		s := recFrame(r)
		for i := range len(s) {
			for b := range 256 {
				x := s[:i] + string([]byte{byte(b)}) + s[i+1:]
				want := recFrom(x)
				if !validRec(want) {
					wantNoRec(t, x)
				} else if got, ok := impl.ReadRec(x); !ok || got != want {
					t.Fatalf("ReadRec(%q) = %+v, %v, want %+v", x, got, ok, want)
				}
			}
		}
	}
}

func TestReadRecOfOtherLengths(t *testing.T) {
	for _, r := range sampleRecs(10) {
		s := recFrame(r)
		for i := range len(s) {
			wantNoRec(t, s[:i])
		}
		for _, x := range []string{s + "\x00", s + "x", "\x00" + s, s + s} {
			wantNoRec(t, x)
		}
	}
}

func tape(l []impl.Rec) string {
	var out strings.Builder
	for _, r := range l {
		out.WriteString(recFrame(r))
	}
	return out.String()
}

func wantTape(t *testing.T, what string, s string, want []impl.Rec, wantAt int64) {
	t.Helper()
	if got, at := impl.ReadTape(s); at != wantAt || !slices.Equal(got, want) {
		t.Errorf("%s: %d records and %d, want %d and %d", what, len(got), at, len(want), wantAt)
	}
}

func TestTapesAreRecovered(t *testing.T) {
	for _, n := range []int{0, 1, 2, 3, 200, 201, 999, 1000} {
		l := sampleRecs(n)
		s := tape(l)
		if impl.TapeBytes(l) != s {
			t.Errorf("TapeBytes of %d records: %d bytes", n, len(impl.TapeBytes(l)))
		}
		wantTape(t, "whole tape", s, l, -1)
	}
	if impl.TapeBytes(nil) != "" || impl.TapeBytes([]impl.Rec{}) != "" {
		t.Error("the empty tape has bytes")
	}
}

func TestTapesOfMoreThan1000Records(t *testing.T) {
	for _, n := range []int{1001, 1002, 2000} {
		l := sampleRecs(n)
		if got := impl.TapeBytes(l); got != "" {
			t.Errorf("TapeBytes of %d records: %d bytes", n, len(got))
		}
		wantTape(t, "too long a tape", tape(l), nil, 21000)
	}
	full := tape(sampleRecs(1000))
	wantTape(t, "1000 records and a byte", full+"x", nil, 21000)
	wantTape(t, "1000 records and an invalid one", full+strings.Repeat("\xff", 21), nil, 21000)
}

func TestTapesWithAnInvalidRecord(t *testing.T) {
	for _, n := range []int{1, 2, 5, 1000, 1001} {
		for _, at := range []int{0, n / 2, n - 1} {
			l := sampleRecs(n)
			l[at].Kind = 6
			if got := impl.TapeBytes(l); got != "" {
				t.Errorf("record %d of %d is invalid: %d bytes", at, n, len(got))
			}
			wantTape(t, "an invalid record", tape(l), nil, int64(at)*21)
			wantTape(t, "an invalid record and bytes behind", tape(l)+"abc", nil, int64(at)*21)
		}
	}
}

func TestTapesThatEndWithinARecord(t *testing.T) {
	l := sampleRecs(1000)
	for _, n := range []int{0, 1, 2, 7, 999} {
		for size := 1; size < 21; size++ {
			wantTape(t, "a part of a record", tape(l[:n+1])[:n*21+size], nil, int64(n)*21)
			wantTape(t, "zero bytes", tape(l[:n])+strings.Repeat("\x00", size), nil, int64(n)*21)
		}
	}
	wantTape(t, "a shifted tape", "\x00"+tape(l[:3]), nil, 0)
}

func TestTapeBytesChangesNothing(t *testing.T) {
	behind := impl.Rec{Kind: 5, Stamp: 77}
	for _, n := range []int{0, 3, 1000, 1001} {
		l := roomy(sampleRecs(n), behind)
		impl.TapeBytes(l)
		if !slices.Equal(l, sampleRecs(n)) || l[:cap(l)][n] != behind {
			t.Errorf("TapeBytes changed a list of %d records", n)
		}
	}
}

func TestReadListsAreNew(t *testing.T) {
	s, commands := framesOf(3)
	first := impl.CmdsOf(s)
	first[0], first[2] = impl.Cmd{}, impl.Cmd{}
	wantCmds(t, "after a change of the first result", s, commands)
	records := sampleRecs(3)
	list, _ := impl.ReadTape(tape(records))
	list[0], list[2] = impl.Rec{}, impl.Rec{}
	wantTape(t, "after a change of the first result", tape(records), records, -1)
}
