package tests

import (
	"encoding/binary"
	"fmt"
	"hash/crc32"
	"strings"

	"loop.example/g00609/impl"
)

// logFrame returns the frame of data of any length, with the standard library's sum.
func logFrame(data string) string {
	head := binary.BigEndian.AppendUint32(nil, uint32(len(data)))
	head = binary.LittleEndian.AppendUint32(head, crc32.ChecksumIEEE([]byte(data)))
	return string(head) + data
}

func entry(number string, c impl.Cmd) string {
	return logFrame(number + " " + frame(c))
}

// logOf returns a log of commands, valid or not.
func logOf(l ...impl.Cmd) string {
	var out strings.Builder
	for i, c := range l {
		out.WriteString(entry(fmt.Sprint(i), c))
	}
	return out.String()
}

// readLog returns the commands of a log that count, and how many bytes they have: it compares what the log has in the
// place of each command with what it must have there.
func readLog(log string) ([]impl.Cmd, int) {
	var l []impl.Cmd
	size := 0
	for len(l) < 200 {
		number := fmt.Sprint(len(l))
		end := size + 8 + len(number) + 1 + 15
		if end > len(log) {
			break
		}
		c := cmdFrom(log[end-15 : end])
		if !validCmd(c) || log[size:end] != entry(number, c) {
			break
		}
		l, size = append(l, c), end
	}
	return l, size
}

// withLog returns a disk that was synced with this log, and with further files.
func withLog(log string, others ...impl.File) impl.Disk {
	s := shelfOf(others)
	s["log"] = log
	return synced(s.list()...)
}

// numberedCmds returns n different valid commands.
func numberedCmds(n int) []impl.Cmd {
	var l []impl.Cmd
	for i := range int64(n) {
		l = append(l, buys(1+i%100, 1+i, 1000+i, 1+i%9))
	}
	return l
}

// A player is a model of an action: it performs steps for as long as it can.
type player struct {
	before impl.Disk
	now    impl.Disk
	power  int64
	code   int64
}

func (p *player) can() bool {
	if p.code == impl.StOk && p.power == 0 {
		p.code = impl.StPower
	}
	p.power--
	return p.code == impl.StOk
}

func (p *player) do(op impl.DOp) {
	if !p.can() {
		return
	}
	n, code := doModel(p.now, op)
	if code != impl.DkOk {
		p.now, p.code = p.before, impl.StFull
		return
	}
	p.now = n
}

func (p *player) sync() {
	if p.can() {
		p.now = synced(p.now.Live...)
	}
}

func (p *player) result(code int64) (impl.Disk, int64) {
	p.code = max(p.code, code)
	return p.now, p.code
}

// actModel performs an action on a valid disk.
func actModel(d impl.Disk, a impl.Act) (impl.Disk, int64) {
	p := &player{before: d, now: d, power: max(a.Power, -1)}
	log, exists := shelfOf(d.Live)["log"]
	switch {
	case a.Kind < 1 || a.Kind > 4:
		return p.result(impl.StForm)
	case a.Kind == impl.AcCrash:
		return p.crash(a)
	case a.Kind == impl.AcNew && exists:
		return p.result(impl.StForm)
	case a.Kind == impl.AcNew:
		p.do(adds("log", ""))
		p.sync()
		return p.result(impl.StOk)
	case !exists:
		return p.result(impl.StNone)
	case a.Kind == impl.AcAdd:
		return p.add(a, log)
	}
	return p.open(log)
}

func (p *player) crash(a impl.Act) (impl.Disk, int64) {
	for i, at := range a.Keep {
		if at < 0 || at >= int64(len(p.now.Ops)) || i > 0 && a.Keep[i-1] >= at {
			return p.result(impl.StForm)
		}
	}
	if a.Torn < 0 {
		return p.result(impl.StForm)
	}
	n, ok := crashModel(p.now, a.Keep, a.Torn)
	if !ok {
		return p.result(impl.StForm)
	}
	return actModel(n, impl.Act{Kind: impl.AcOpen, Power: a.Power})
}

func (p *player) add(a impl.Act, log string) (impl.Disk, int64) {
	l, size := readLog(log)
	switch {
	case !validCmd(a.C):
		return p.result(impl.StForm)
	case size < len(log):
		return p.result(impl.StTorn)
	case len(l) == 200:
		return p.result(impl.StFull)
	}
	p.do(adds("log", entry(fmt.Sprint(len(l)), a.C)))
	if a.Sync {
		p.sync()
	}
	return p.result(impl.StOk)
}

func (p *player) open(log string) (impl.Disk, int64) {
	_, size := readLog(log)
	if size == len(log) {
		return p.result(impl.StOk)
	}
	if _, exists := shelfOf(p.now.Live)["log.new"]; exists {
		p.do(erases("log.new"))
	}
	p.do(adds("log.new", log[:size]))
	p.sync()
	p.do(renames("log.new", "log"))
	p.sync()
	return p.result(impl.StOk)
}
