package tests

import (
	"go/ast"
	"reflect"
	"slices"
	"testing"

	"loop.example/g00609/impl"
)

// functions are all exported functions of the program.
func functions() map[string]any {
	return map[string]any{
		"PutInt": impl.PutInt, "GetInt": impl.GetInt, "CmdOk": impl.CmdOk, "CmdBytes": impl.CmdBytes, "ReadCmd": impl.ReadCmd, "CmdsOf": impl.CmdsOf,
		"RecOk": impl.RecOk, "RecBytes": impl.RecBytes, "ReadRec": impl.ReadRec, "TapeBytes": impl.TapeBytes, "ReadTape": impl.ReadTape,
		"BookOk": impl.BookOk, "Side": impl.Side, "Best": impl.Best, "Find": impl.Find, "Taken": impl.Taken, "Rested": impl.Rested, "Crossing": impl.Crossing,
		"Matched": impl.Matched, "CanFill": impl.CanFill, "Filled": impl.Filled, "Exec": impl.Exec, "CancelAll": impl.CancelAll,
		"EngineNew": impl.EngineNew, "EngineOk": impl.EngineOk, "Step": impl.Step, "Fold": impl.Fold, "FoldFrom": impl.FoldFrom,
		"SumsOf": impl.SumsOf, "Resting": impl.Resting, "Volume": impl.Volume, "Net": impl.Net,
		"FabricNew": impl.FabricNew, "Runnable": impl.Runnable, "Pick": impl.Pick, "PickAll": impl.PickAll, "Ended": impl.Ended, "Finish": impl.Finish, "TapeOf": impl.TapeOf,
		"VolumeAt": impl.VolumeAt, "AuctionPrice": impl.AuctionPrice, "Uncrossed": impl.Uncrossed,
		"TradesOf": impl.TradesOf, "CandleOf": impl.CandleOf, "CandleOk": impl.CandleOk, "Behind": impl.Behind, "Vwap": impl.Vwap,
		"Depth": impl.Depth, "LevelsOk": impl.LevelsOk, "DepthDelta": impl.DepthDelta, "DepthApplied": impl.DepthApplied, "Cost": impl.Cost,
		"DiskOk": impl.DiskOk, "Do": impl.Do, "Sync": impl.Sync, "Crash": impl.Crash, "ReadFile": impl.ReadFile, "Replace": impl.Replace,
		"FrameOf": impl.FrameOf, "TakeFrames": impl.TakeFrames, "StoreView": impl.StoreView, "StoreDo": impl.StoreDo, "StorePlay": impl.StorePlay,
		"FieldsOk": impl.FieldsOk, "FieldsText": impl.FieldsText, "ReadFields": impl.ReadFields, "FieldsOf": impl.FieldsOf, "CmdOf": impl.CmdOf,
		"Open": impl.Open, "Allowed": impl.Allowed, "Guarded": impl.Guarded, "Worst": impl.Worst, "RunScript": impl.RunScript,
	}
}

func functionNames() []string {
	var names []string
	for name := range functions() {
		names = append(names, name)
	}
	slices.Sort(names)
	return names
}

func TestFunctionsAreAll(t *testing.T) {
	all := declared(t)
	var want []string
	for _, name := range exported(all) {
		if f, ok := all[name][0].(*ast.FuncDecl); ok && f.Recv == nil {
			want = append(want, name)
		}
	}
	slices.Sort(want)
	if !slices.Equal(functionNames(), want) {
		t.Errorf("%v are not\n%v", functionNames(), want)
	}
}

// drawn returns a value of the type of x, which is often one that the functions accept.
func drawn(d *dice, x any) any {
	switch x.(type) {
	case int64:
		return oneOf(d, []int64{1, 2, 1 + d.roll(3), 1, 2, 1 + d.roll(3), 0, d.roll(9), d.roll(110), 95 + d.roll(10), d.roll(1000000001), -1, -d.roll(2000000000)})
	case string:
		return drawnText(d)
	case impl.Book:
		return oneOf(d, []impl.Book{randomBook(d, 3, 8), randomBook(d, 3, 20), {}, {Bids: run(1, 2, 5, 1)}})
	case impl.Engine:
		return oneOf(d, []impl.Engine{randomEngine(d, 3, 6), randomEngine(d, 3, 20), engineOf(), {}, withBlocked(engineOf(), 2, 1)})
	case impl.Fabric:
		return drawnFabric(d)
	case impl.Disk:
		return drawnDisk(d)
	}
	if l := drawnList(d, x); l != nil {
		return l
	}
	return drawnItem(d, x)
}

func drawnItem(d *dice, x any) any {
	switch x.(type) {
	case impl.Cmd:
		return randomWide(d, d.roll(4), 3)
	case impl.Rec:
		return oneOf(d, append(randomRecs(d, 5), impl.Rec{}))
	case impl.Order:
		return oneOf(d, []impl.Order{by(1+d.roll(3), 100+d.roll(9), 94+d.roll(12), 1+d.roll(5)), by(1+d.roll(3), 1+d.roll(50), 94+d.roll(12), 1+d.roll(20)), {}})
	case impl.Candle:
		return oneOf(d, []impl.Candle{candleModel(randomTrades(d, 1+d.roll(9))), candleModel(randomTrades(d, 1)), {}})
	case impl.DOp:
		return oneOf(d, []impl.DOp{randomOp(d, []string{"a", "b", "log"}), randomOp(d, []string{"", "z"})})
	case impl.Act:
		return drawnActs(d, 1)[0]
	case impl.Risk:
		return randomRisk(d, 3)
	}
	panic("no value of this type")
}

// drawnList returns nil for a type that is no list.
func drawnList(d *dice, x any) any {
	switch x.(type) {
	case []int64:
		return oneOf(d, [][]int64{randomOwners(d, 1+d.roll(4)), allZero(), randomSubset(d, 4), mixed(d, int(d.roll(30)))})
	case []impl.Cmd:
		return randomCmds(d, oneOf(d, []int64{0, 1, 5, 20, 60, 61, 201}), 4)
	case []impl.Rec:
		return oneOf(d, [][]impl.Rec{randomRecs(d, d.roll(30)), randomRecs(d, 5), fillsOfMany(), append(randomRecs(d, 4), impl.Rec{})})
	case []impl.Order:
		x := randomAuction(d, 20)
		return oneOf(d, [][]impl.Order{x.Buys, x.Sells, x.Buys, run(1, 61, 9, 0), {{}}})
	case []impl.Move:
		return randomPlan(d, 20, 4)
	case []impl.Trade:
		return oneOf(d, [][]impl.Trade{randomTrades(d, d.roll(30)), randomTrades(d, 3), append(randomTrades(d, 2), impl.Trade{})})
	case []impl.Level:
		l := randomLevels(d, 9)
		return oneOf(d, [][]impl.Level{l, l, mirroredLevels(l), randomUpdates(d, d.roll(9)), ladder(41, 1, 1)})
	case []impl.Field:
		return oneOf(d, [][]impl.Field{cmdFieldsModel(randomWide(d, 0, 3)), randomFields(d, d.roll(22)), fieldsOf(tagged(10, ""))})
	case []impl.Act:
		return drawnActs(d, d.roll(9))
	}
	return nil
}

// fillsOfMany returns fills of all the order numbers that random commands have, in each book.
func fillsOfMany() []impl.Rec {
	var l []impl.Rec
	for i := range int64(240) {
		r := fillOf(i%4, 100+i, 1+i/4)
		r.Id, r.Other = 1+i/4, 61+i/4
		l = append(l, r)
	}
	return l
}

func drawnText(d *dice) string {
	return oneOf(d, []string{
		"", "a", "log", "log.new", string([]byte{0, byte(d.roll(256)), byte(d.roll(256))}),
		frame(randomWide(d, 0, 3)), frame(randomWide(d, 0, 3)) + frame(randomWide(d, 0, 3)) + "x",
		recFrame(randomRecs(d, 1)[0]), tape(randomRecs(d, d.roll(5))), tape(randomRecs(d, 2)) + "short",
		textOf(randomFields(d, d.roll(9))), textOf(cmdFieldsModel(randomWide(d, 0, 3))), textOf(randomFields(d, 21)),
		logOf(numberedCmds(int(d.roll(5)))...), logOf(randomCmds(d, 4, 3)...) + "x",
		scriptOf(randomLines(d, d.roll(42))), scriptOf(randomLines(d, 5)),
	})
}

func drawnFabric(d *dice) impl.Fabric {
	f := randomFabric(d)
	switch d.roll(6) {
	case 0:
		return impl.Fabric{}
	case 1, 2, 3:
		n := networkOf(f)
		n.finish()
		return n.fabric()
	}
	return f
}

func drawnDisk(d *dice) impl.Disk {
	log := logOf(numberedCmds(int(d.roll(9)))...)
	return oneOf(d, []impl.Disk{
		randomDisk(d, d.roll(9)), randomDisk(d, 5), withLog(log), withLog(log + "x"), {},
		after(withLog(log), adds("log", "torn"), adds("log.new", "1")), disk(files(file("a", "")), nil),
	})
}

func drawnActs(d *dice, n int64) []impl.Act {
	l := make([]impl.Act, n)
	for i := range l {
		l[i] = oneOf(d, []impl.Act{randomAct(d, randomDisk(d, 2), randomWide(d, 0, 3)), addTo(buys(1, 2, 3, 4), d.roll(2) == 0, -1), newLog(-1), openLog(d.roll(6))})
	}
	return l
}

// An invocation is a function with arguments, and what it returned at first.
type invocation struct {
	name    string
	args    []reflect.Value
	results []reflect.Value
}

func drawnInvocation(d *dice, name string) invocation {
	x := invocation{name: name}
	f := reflect.TypeOf(functions()[name])
	for i := range f.NumIn() {
		x.args = append(x.args, reflect.ValueOf(drawn(d, reflect.Zero(f.In(i)).Interface())))
	}
	return x
}

func (x invocation) perform(args []reflect.Value) []reflect.Value {
	return reflect.ValueOf(functions()[x.name]).Call(args)
}

// remadeAll returns copies of values in which each list is remade.
func remadeAll(values []reflect.Value, list func(l reflect.Value) reflect.Value) []reflect.Value {
	var all []reflect.Value
	for _, v := range values {
		all = append(all, remade(v, list))
	}
	return all
}

func interfaces(values []reflect.Value) []any {
	var all []any
	for _, v := range values {
		all = append(all, v.Interface())
	}
	return all
}

func sameValues(a []reflect.Value, b []reflect.Value) bool {
	return reflect.DeepEqual(interfaces(a), interfaces(b))
}

// zeroed overwrites each list in a value, and what is behind it.
func zeroed(v reflect.Value) {
	switch v.Kind() {
	case reflect.Slice:
		for i := range v.Len() {
			zeroed(v.Index(i))
		}
		v.Slice(0, v.Cap()).Clear()
	case reflect.Struct:
		for i := range v.NumField() {
			zeroed(v.Field(i))
		}
	}
}

// wantFirst performs an invocation, sets its results, and checks that it has neither changed nor kept its arguments. What
// it returned is overwritten, which no further invocation may see.
func (x *invocation) wantFirst(t *testing.T) {
	t.Helper()
	given := remadeAll(x.args, roomyList)
	before := remadeAll(given, wholeList)
	results := x.perform(given)
	if !sameValues(remadeAll(given, wholeList), before) {
		t.Errorf("%s changed %+v", x.name, interfaces(x.args))
	}
	if overlap(slices.Concat(interfaces(results), interfaces(given))...) {
		t.Errorf("%s of %+v: two lists share memory", x.name, interfaces(x.args))
	}
	x.results = remadeAll(results, exactList)
	for _, v := range results {
		zeroed(v)
	}
}

// wantSame performs the invocation again, with equal arguments that have no room behind them.
func (x *invocation) wantSame(t *testing.T) {
	t.Helper()
	given := remadeAll(x.args, exactList)
	before := remadeAll(given, exactList)
	if again := remadeAll(x.perform(given), exactList); !sameValues(again, x.results) {
		t.Errorf("%s of %+v: first %+v, then %+v", x.name, interfaces(x.args), interfaces(x.results), interfaces(again))
	}
	if !sameValues(remadeAll(given, exactList), before) {
		t.Errorf("%s changed %+v", x.name, interfaces(x.args))
	}
}

// isNothing reports whether a value has no numbers but 0 and -1, no true, and no strings or lists but empty ones.
func isNothing(v reflect.Value) bool {
	switch v.Kind() {
	case reflect.Slice:
		return v.Len() == 0
	case reflect.Int64:
		return v.Int() == 0 || v.Int() == -1
	case reflect.Struct:
		for i := range v.NumField() {
			if !isNothing(v.Field(i)) {
				return false
			}
		}
		return true
	}
	return v.IsZero()
}

func (x *invocation) hasSomething() bool {
	return slices.ContainsFunc(x.results, func(v reflect.Value) bool { return !isNothing(v) })
}

// firstInvocations performs a function with so many arguments that it returns something in 40 cases.
func firstInvocations(t *testing.T, d *dice, name string) []*invocation {
	t.Helper()
	var all []*invocation
	something := 0
	for len(all) < 4000 && something < 40 {
		x := drawnInvocation(d, name)
		x.wantFirst(t)
		if x.hasSomething() {
			something++
		}
		all = append(all, &x)
	}
	if something < 40 {
		t.Errorf("%s has returned something only %d times", name, something)
	}
	return all
}

// Promise 16, for every exported function of all chapters. The second invocations come in another order than the first
// ones, so that anything kept from an earlier call would be seen.
func TestEqualArgumentsYieldEqualResults(t *testing.T) {
	d := dice(161)
	var all []*invocation
	for _, name := range functionNames() {
		all = append(all, firstInvocations(t, &d, name)...)
	}
	slices.Reverse(all)
	for _, x := range all {
		x.wantSame(t)
	}
}
