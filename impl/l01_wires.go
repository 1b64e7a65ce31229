package impl

import "strings"

const (
	MaxPrice = 1000000
	MaxQty   = 1000000
	MaxId    = 1000000000
	MaxAcct  = 100
	MaxSyms  = 4
	CkLimit  = 1
	CkMarket = 2
	CkIoc    = 3
	CkFok    = 4
	CkPost   = 5
	CkCancel = 6
	CkRepl   = 7
	CkMass   = 8
	CkBlock  = 9
	CkFree   = 10
	SdBuy    = 1
	SdSell   = 2
	SpNew    = 1
	SpOld    = 2
	SpBoth   = 3
)

type Cmd struct {
	Kind  int64
	Sym   int64
	Acct  int64
	Id    int64
	Side  int64
	Price int64
	Qty   int64
	Mode  int64
}

type Rec struct {
	Stamp int64
	Kind  int64
	Sym   int64
	Acct  int64
	Id    int64
	Other int64
	Price int64
	Qty   int64
}

const (
	maxWidth  = 7
	cmdSize   = 15
	maxFrames = 200
	recSize   = 21
	maxTape   = 1000
	maxByte   = 255
)

func PutInt(n int64, width int64) string {
	if !within(width, 1, maxWidth) || n < 0 || n>>(8*width) != 0 {
		return ""
	}
	out := make([]byte, width)
	for i := width - 1; i >= 0; i-- {
		out[i] = byte(n)
		n >>= 8
	}
	return string(out)
}

func GetInt(s string) int64 {
	if len(s) < 1 || len(s) > maxWidth {
		return -1
	}
	n := int64(0)
	for i := range len(s) {
		n = n<<8 | int64(s[i])
	}
	return n
}

func within(n int64, low int64, high int64) bool {
	return low <= n && n <= high
}

func CmdOk(c Cmd) bool {
	if !within(c.Kind, CkLimit, CkFree) {
		return false
	}
	inBook := c.Kind <= CkRepl
	hasSide := isOrder(c)
	hasQty := hasSide || c.Kind == CkRepl
	hasPrice := hasQty && c.Kind != CkMarket
	return within(c.Acct, 1, MaxAcct) &&
		fieldOk(inBook, c.Sym, 0, MaxSyms-1) &&
		fieldOk(inBook, c.Id, 1, MaxId) &&
		fieldOk(hasSide, c.Side, SdBuy, SdSell) &&
		fieldOk(hasPrice, c.Price, 1, MaxPrice) &&
		fieldOk(hasQty, c.Qty, 1, MaxQty) &&
		fieldOk(hasQty, c.Mode, SpNew, SpBoth)
}

// isOrder reports whether a command whose kind is valid is a new order.
func isOrder(c Cmd) bool {
	return c.Kind <= CkPost
}

// fieldOk checks a field that must be 0 where the kind of the command does not use it.
func fieldOk(used bool, n int64, low int64, high int64) bool {
	if !used {
		return n == 0
	}
	return within(n, low, high)
}

// A reader takes numbers from the front of a string. It fails by a panic, so
// that reading a value needs no check behind each number; readWhole turns the
// panic into false.
type reader struct {
	rest string
}

func (r *reader) number(width int) int64 {
	r.require(len(r.rest) >= width)
	n := GetInt(r.rest[:width])
	r.rest = r.rest[width:]
	return n
}

func (r *reader) require(ok bool) {
	if !ok {
		panic("not the encoding of a valid value")
	}
}

// readWhole returns the value of which s, to its last byte, is the encoding.
func readWhole[T any](s string, read func(r *reader) T) (value T, ok bool) {
	defer func() {
		if recover() != nil {
			var none T
			value, ok = none, false
		}
	}()
	r := &reader{rest: s}
	value = read(r)
	r.require(r.rest == "")
	return value, true
}

func CmdBytes(c Cmd) string {
	if !CmdOk(c) {
		return ""
	}
	return PutInt(c.Kind, 1) + PutInt(c.Sym, 1) + PutInt(c.Acct, 1) + PutInt(c.Id, 4) +
		PutInt(c.Side, 1) + PutInt(c.Price, 3) + PutInt(c.Qty, 3) + PutInt(c.Mode, 1)
}

func ReadCmd(s string) Cmd {
	c, _ := readWhole(s, takeCmd)
	return c
}

func takeCmd(r *reader) Cmd {
	c := Cmd{}
	c.Kind = r.number(1)
	c.Sym = r.number(1)
	c.Acct = r.number(1)
	c.Id = r.number(4)
	c.Side = r.number(1)
	c.Price = r.number(3)
	c.Qty = r.number(3)
	c.Mode = r.number(1)
	r.require(CmdOk(c))
	return c
}

func CmdsOf(s string) []Cmd {
	s = s[:min(len(s), maxFrames*cmdSize)]
	var list []Cmd
	for len(s) > 0 {
		size := min(len(s), cmdSize)
		list = append(list, ReadCmd(s[:size]))
		s = s[size:]
	}
	return list
}

func RecOk(r Rec) bool {
	return within(r.Stamp, 0, MaxId) &&
		within(r.Kind, RkAck, RkDone) &&
		within(r.Sym, 0, maxByte) &&
		within(r.Acct, 0, maxByte) &&
		within(r.Id, 0, MaxId) &&
		within(r.Other, 0, MaxId) &&
		within(r.Price, 0, MaxPrice) &&
		within(r.Qty, 0, MaxQty)
}

func recsOk(l []Rec) bool {
	for _, r := range l {
		if !RecOk(r) {
			return false
		}
	}
	return true
}

func RecBytes(r Rec) string {
	if !RecOk(r) {
		return ""
	}
	return PutInt(r.Stamp, 4) + PutInt(r.Kind, 1) + PutInt(r.Sym, 1) + PutInt(r.Acct, 1) +
		PutInt(r.Id, 4) + PutInt(r.Other, 4) + PutInt(r.Price, 3) + PutInt(r.Qty, 3)
}

func ReadRec(s string) (Rec, bool) {
	return readWhole(s, takeRec)
}

func takeRec(r *reader) Rec {
	rec := Rec{}
	rec.Stamp = r.number(4)
	rec.Kind = r.number(1)
	rec.Sym = r.number(1)
	rec.Acct = r.number(1)
	rec.Id = r.number(4)
	rec.Other = r.number(4)
	rec.Price = r.number(3)
	rec.Qty = r.number(3)
	r.require(RecOk(rec))
	return rec
}

func TapeBytes(l []Rec) string {
	if len(l) > maxTape {
		return ""
	}
	var out strings.Builder
	for _, r := range l {
		encoded := RecBytes(r)
		if encoded == "" {
			return ""
		}
		out.WriteString(encoded)
	}
	return out.String()
}

func ReadTape(s string) ([]Rec, int64) {
	var list []Rec
	for at := 0; at < len(s); at += recSize {
		r, ok := ReadRec(s[at:min(at+recSize, len(s))])
		if !ok || len(list) == maxTape {
			return nil, int64(at)
		}
		list = append(list, r)
	}
	return list, -1
}
