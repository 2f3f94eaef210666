package tests

import (
	"bytes"
	"fmt"
	"math"
	"math/rand"
	"slices"
	"sync"
	"testing"
	"time"

	"loop.example/g00414/impl"
)

// Promise 1, of chapter 8: every function answers at every argument, ends, and changes none;
// what it answers is new memory; it hangs on the arguments alone.

// wantOfTable asks all functions that ask for a fault of a table, with what has faults of its own, too.
func wantOfTable(t *testing.T, prog []impl.Inst, table impl.Table, code int64) {
	t.Helper()
	call := fmt.Sprintf("of %d instructions, %+v", len(prog), table)
	want(t, "TableFault "+call, impl.TableFault(prog, table), code)
	if code == impl.OK {
		want(t, "the code of EnterSet "+call, impl.EnterSet(prog, table, nil).Code, code)
		want(t, "the code of RunTable "+call, impl.RunTable(prog, table, nil, 0).Code, code)
		return
	}
	asked := impl.TableResult{Code: code}
	want(t, "TableTrue "+call, impl.TableTrue(prog, table), false)
	for _, set := range [][]int64{nil, {0}, {-1}, {1, 1}, make([]int64, 81)} {
		want(t, "EnterSet "+call, impl.EnterSet(prog, table, set), asked)
	}
	for _, state := range []int64{-1, 0, 1, math.MaxInt64} {
		want(t, "StepTable "+call, impl.StepTable(prog, table, state, 'a'), asked)
	}
	for _, size := range []int64{0, 1, 401} {
		for _, at := range []int64{-1, 0, size + 1} {
			want(t, "RunTable "+call, impl.RunTable(prog, table, make([]byte, size), at), asked)
		}
	}
}

func TestSizesOfTables(t *testing.T) {
	sizes := map[int64]bool{-13: false, -12: false, -1: false, 0: false, 1: true, 2: true, 6: true, 11: true, 12: true, 13: false, 14: false, 256 + 1: false, 1<<32 + 12: false}
	for _, size := range farNumbers() {
		sizes[size] = false
	}
	prog := progOf("s1,2 a>0 done")
	for size, good := range sizes {
		table, asked := impl.Table{Size: size}, impl.TableResult{Code: impl.ErrRange}
		if good {
			asked = impl.TableResult{Table: table}
		}
		want(t, fmt.Sprint("NewTable ", size), impl.NewTable(size), asked)
		for _, states := range []string{"", "0", "0 a0", "3 a0", "-1", "0 | 0"} {
			if !good {
				wantOfTable(t, prog, tableOf(size, states), impl.ErrRange)
			}
		}
		if good {
			wantOfTable(t, prog, table, impl.OK)
			table.States = []impl.SetState{}
			wantOfTable(t, prog, table, impl.OK)
			want(t, fmt.Sprint("TableTrue of Size ", size), impl.TableTrue(prog, table), true)
		} else {
			wantOfTable(t, prog, impl.Table{Size: size, States: make([]impl.SetState, 5000)}, impl.ErrRange)
		}
	}
}

func TestHowManyStatesThereAre(t *testing.T) {
	prog := slices.Repeat([]impl.Inst{{Op: impl.OpDone}}, 20)
	for size := int64(1); size <= impl.MaxStates; size++ {
		table := impl.Table{Size: size}
		for count := int64(0); count <= impl.MaxStates+2; count++ {
			code := int64(impl.OK)
			if count > size {
				code = impl.ErrMany
			}
			wantOfTable(t, prog, table, code)
			table = withState(table, impl.SetState{Set: rising(0, count), Arcs: arcsOf(2, 0)})
		}
		// However many there are, and whatever faults these have.
		wantOfTable(t, prog, impl.Table{Size: size, States: make([]impl.SetState, size+1)}, impl.ErrMany)
		wantOfTable(t, prog, impl.Table{Size: size, States: make([]impl.SetState, 5000)}, impl.ErrMany)
		wantOfTable(t, prog, impl.Table{Size: size, States: slices.Repeat([]impl.SetState{{Set: []int64{-1}, Arcs: arcsOf(300, -1)}}, int(size)+1)}, impl.ErrMany)
	}
}

// wantOfState puts a state among others that have no fault, at each place of three.
func wantOfState(t *testing.T, prog []impl.Inst, state impl.SetState, code int64) {
	t.Helper()
	for place := range 3 {
		table := tableOf(4, "0,2 a1 b2 | 1,2 b0 | 2 c2 d1")
		table.States[place] = state
		wantOfTable(t, prog, table, code)
	}
}

func TestSetsOfStates(t *testing.T) {
	prog := progOf("s1,2 a>0 done")
	for _, set := range [][]int64{nil, {}, make([]int64, 0, 9), {0}, {1}, {0, 1}, {0, 1, 2}} {
		wantOfState(t, prog, impl.SetState{Set: set}, impl.OK)
		wantOfState(t, prog, impl.SetState{Set: set, Arcs: arcsOf(3, 2)}, impl.OK)
	}
	for _, place := range append(farNumbers(), -3, -1, 3, 4, 80, 256, 1<<32, 1<<32+2) {
		for _, set := range [][]int64{{place}, {0, place}, {place, 2}, {0, 1, place}} {
			wantOfState(t, prog, impl.SetState{Set: set}, impl.ErrRange)
		}
	}
	for _, set := range [][]int64{{0, 0}, {2, 2}, {1, 0}, {0, 2, 1}, {0, 1, 1, 2}, {0, 1, 2, 3}, make([]int64, 80), rising(0, 80)} {
		wantOfState(t, prog, impl.SetState{Set: set}, impl.ErrRange)
	}
	for _, set := range [][]int64{make([]int64, 81), rising(0, 81), rising(-1, 80), make([]int64, 5000)} {
		wantOfState(t, prog, impl.SetState{Set: set}, impl.ErrMany)
	}
	// All places of as many as there may be.
	long := slices.Repeat([]impl.Inst{{Op: impl.OpDone}}, impl.MaxProg)
	wantOfState(t, long, impl.SetState{Set: rising(0, impl.MaxProg)}, impl.OK)
	wantOfState(t, long, impl.SetState{Set: rising(1, impl.MaxProg+1)}, impl.ErrRange)
	wantOfState(t, long, impl.SetState{Set: rising(0, impl.MaxProg+1)}, impl.ErrMany)
}

func TestHowManyArcsThereAre(t *testing.T) {
	prog := progOf("s1,2 a>0 done")
	for _, none := range [][]impl.Arc{nil, {}, make([]impl.Arc, 0, 9)} {
		wantOfState(t, prog, impl.SetState{Arcs: none}, impl.OK)
	}
	for _, count := range []int{1, 2, 3, 127, 128, 129, 255, 256} {
		for _, to := range []int64{0, 1, 2} {
			arcs := arcsOf(count, to)
			wantOfState(t, prog, impl.SetState{Arcs: arcs}, impl.OK)
			slices.Reverse(arcs)
			wantOfState(t, prog, impl.SetState{Arcs: arcs}, impl.OK)
		}
	}
	// More than there are bytes, whatever they have.
	for _, count := range []int{257, 258, 512, 5000} {
		wantOfState(t, prog, impl.SetState{Arcs: arcsOf(count, 0)}, impl.ErrMany)
		wantOfState(t, prog, impl.SetState{Arcs: make([]impl.Arc, count)}, impl.ErrMany)
		wantOfState(t, prog, impl.SetState{Arcs: arcsOf(count, -1)}, impl.ErrMany)
		wantOfState(t, prog, impl.SetState{Arcs: slices.Repeat([]impl.Arc{{Byte: -1, To: 3}}, count)}, impl.ErrMany)
	}
}

func TestArcsThatLeaveTheirBounds(t *testing.T) {
	prog := progOf("s1,2 a>0 done")
	for _, number := range append(farNumbers(), -256, -2, -1, 0, 1, 2, 3, 4, 'z', 127, 128, 255, 256, 257, 511, 512, 1<<32, 1<<32+2) {
		byteCode, toCode := int64(impl.OK), int64(impl.OK)
		if number < 0 || number > 255 {
			byteCode = impl.ErrRange
		}
		if number < 0 || number > 2 {
			toCode = impl.ErrRange
		}
		for _, ahead := range [][]impl.Arc{nil, {{Byte: 'x'}}, {{Byte: 'y', To: 2}, {Byte: 'x', To: 1}}} {
			for to := range int64(3) {
				arcs := append(slices.Clone(ahead), impl.Arc{Byte: number, To: to})
				wantOfState(t, prog, impl.SetState{Arcs: arcs}, byteCode)
				wantOfState(t, prog, impl.SetState{Arcs: append(arcs, impl.Arc{Byte: 'w', To: to})}, byteCode)
			}
			arcs := append(slices.Clone(ahead), impl.Arc{Byte: 'w', To: number})
			wantOfState(t, prog, impl.SetState{Arcs: arcs}, toCode)
			wantOfState(t, prog, impl.SetState{Arcs: append(arcs, impl.Arc{Byte: 'v'})}, toCode)
		}
	}
	// The last state there is, and one behind it, with room for it.
	for count := 1; count < impl.MaxStates; count++ {
		for to, code := range map[int]int64{0: impl.OK, count - 1: impl.OK, count: impl.ErrRange, impl.MaxStates - 1: impl.ErrRange} {
			table := impl.Table{Size: impl.MaxStates}
			for place := range int64(count) {
				table = withState(table, impl.SetState{Set: []int64{place}})
			}
			table.States[count/2].Arcs = []impl.Arc{{Byte: 255, To: int64(to)}}
			wantOfTable(t, slices.Repeat([]impl.Inst{{Op: impl.OpDone}}, 12), table, code)
		}
	}
}

func TestOneByteTwice(t *testing.T) {
	prog := progOf("s1,2 a>0 done")
	for _, b := range []int64{0, 1, 10, 'a', 127, 128, 254, 255} {
		twice := []impl.Arc{{Byte: b, To: 1}, {Byte: b, To: 1}}
		wantOfState(t, prog, impl.SetState{Arcs: twice}, impl.ErrState)
		twice[1].To = 2
		wantOfState(t, prog, impl.SetState{Arcs: twice}, impl.ErrState)
		wantOfState(t, prog, impl.SetState{Arcs: []impl.Arc{twice[0], {Byte: 2}, {Byte: 3}, twice[1]}}, impl.ErrState)
		arcs := arcsOf(256, 0)
		arcs[(b+1)%256].Byte = b
		wantOfState(t, prog, impl.SetState{Arcs: arcs}, impl.ErrState)
	}
	// Each state has its own.
	wantOfTable(t, prog, tableOf(3, "0 a0 b1 | 1 a0 b1 | 2 b1 a0"), impl.OK)
}

func TestTwoStatesOfOneSet(t *testing.T) {
	prog := progOf("s1,2 a>0 done")
	for _, states := range []string{
		"- | -", "0 | 0", "0,1,2 | 0,1,2", "- | 0 | -", "0 | - | -", "- | - | 0", "0 | 1 | 0", "0 | 1 | 1", "0 | 0 | 1", "0 a1 | 0 b0", "0 | 1 | 2 | 0,1 | 0,2 | 1,2 | 0", "0 | 1 | 2 | 0,1 | 0,2 | 1,2 | 1,2", "0 | 1 | 2 | 0,1 | - | 1,2 | -", "0 | 0 | 0",
	} {
		wantOfTable(t, prog, tableOf(12, states), impl.ErrState)
	}
	for _, states := range []string{"-", "- | 0", "0 | 0,1 | 0,1,2", "0,1,2 | 0,1 | 0", "0,1 | 0,2 | 1,2", "0 | 1 | 2 | 0,1 | 0,2 | 1,2 | 0,1,2 | -"} {
		wantOfTable(t, prog, tableOf(12, states), impl.OK)
	}
	for _, none := range [][]int64{{}, make([]int64, 0, 9)} {
		wantOfTable(t, prog, impl.Table{Size: 2, States: []impl.SetState{{Set: none}, {}}}, impl.ErrState)
		wantOfTable(t, prog, impl.Table{Size: 3, States: []impl.SetState{{}, {Set: []int64{0}}, {Set: none}}}, impl.ErrState)
	}
}

// faultyStates are states with a fault, by the code that comes first, among up to three.
func faultyStates() map[int64][]impl.SetState {
	return map[int64][]impl.SetState{
		impl.ErrMany: {
			{Set: make([]int64, 81)}, {Set: rising(-1, 80), Arcs: []impl.Arc{{Byte: -1}}}, {Set: make([]int64, 81), Arcs: make([]impl.Arc, 257)}, {Set: []int64{0, 1, 2}, Arcs: arcsOf(257, -1)}, {Set: []int64{0, 1, 2}, Arcs: make([]impl.Arc, 300)},
		},
		impl.ErrRange: {
			{Set: []int64{3}}, {Set: []int64{1, 0}, Arcs: make([]impl.Arc, 257)}, {Set: []int64{-1}, Arcs: make([]impl.Arc, 2)}, {Set: []int64{0, 1}, Arcs: []impl.Arc{{Byte: 256}}}, {Arcs: []impl.Arc{{To: 3}}}, {Arcs: []impl.Arc{{Byte: 1, To: -1}, {Byte: 1}, {Byte: 1}}},
			{Arcs: []impl.Arc{{Byte: 1}, {Byte: 1, To: 3}}}, {Arcs: []impl.Arc{{Byte: 1}, {Byte: 2}, {Byte: 300}, {Byte: 2}}}, {Arcs: []impl.Arc{{Byte: -1}, {Byte: -1}}}, {Arcs: []impl.Arc{{Byte: 257}, {Byte: 1}}},
		},
		impl.ErrState: {
			{Set: []int64{0, 1}, Arcs: make([]impl.Arc, 2)}, {Arcs: []impl.Arc{{Byte: 1}, {Byte: 1}, {Byte: 1, To: 3}}}, {Arcs: []impl.Arc{{Byte: 1}, {Byte: 1}, {Byte: -1}}}, {Arcs: make([]impl.Arc, 256)},
		},
	}
}

func TestWhichFaultOfATableComesFirst(t *testing.T) {
	prog := progOf("s1,2 a>0 done")
	faulty := faultyStates()
	for code, states := range faulty {
		for _, state := range states {
			wantOfState(t, prog, state, code)
			for _, others := range faulty {
				for _, other := range others {
					// State by state: whatever is behind says nothing, nor that two have one Set.
					for _, table := range [][]impl.SetState{{state, other, {}}, {state, {}, {}}, {{}, {}, state}, {state, state, other}, {{}, state, other}, {stateOf("2 a0"), stateOf("2 a0"), state}} {
						wantOfTable(t, prog, impl.Table{Size: 3, States: table}, code)
						wantOfTable(t, prog, impl.Table{Size: 2, States: table}, impl.ErrMany)
						wantOfTable(t, prog, impl.Table{Size: 0, States: table}, impl.ErrRange)
					}
				}
			}
		}
	}
	wantOfTable(t, prog, tableOf(3, "2 a0 | 2 a0 | 0 a0 a0"), impl.ErrState)
	wantOfTable(t, prog, tableOf(3, "2 a0 | 2 a0 | 0 a3"), impl.ErrRange)
	wantOfTable(t, prog, tableOf(3, "2 a0 a0 | 2 a3 | 3"), impl.ErrState)
}

func TestFaultOfAProgramComesAheadOfThatOfATable(t *testing.T) {
	tables := []impl.Table{{}, tableOf(1, ""), tableOf(1, "0"), tableOf(1, "0 | 0"), tableOf(12, "0 a0 a0"), tableOf(12, "9"), tableOf(13, "0 a9")}
	for _, table := range tables {
		wantOfTable(t, nil, table, impl.ErrMany)
		wantOfTable(t, []impl.Inst{}, table, impl.ErrMany)
		wantOfTable(t, make([]impl.Inst, 81), table, impl.ErrMany)
		for code, insts := range faultyInsts() {
			for _, in := range insts {
				wantOfTable(t, []impl.Inst{instOf("s1,2"), in, instOf("done")}, table, code)
			}
		}
	}
}

func TestSetsThatAreEnteredLeaveTheirBounds(t *testing.T) {
	prog := progOf("s1,2 a>0 done")
	wants := map[int64][][]int64{
		impl.ErrRange: {{0, 0}, {1, 0}, {-1}, {3}, {0, 1, 2, 3}, make([]int64, 80)},
		impl.ErrMany:  {make([]int64, 81), rising(0, 81), rising(-1, 80), make([]int64, 5000)},
	}
	for _, place := range append(farNumbers(), -1, 3, 4) {
		wants[impl.ErrRange] = append(wants[impl.ErrRange], []int64{place}, []int64{0, place}, []int64{place, 2})
	}
	for _, table := range []impl.Table{tableOf(1, ""), tableOf(1, "0 a0"), tableOf(2, "- | 0 a1"), tableOf(12, "0 a1 | 1,2")} {
		for code, sets := range wants {
			for _, set := range sets {
				want(t, fmt.Sprintf("EnterSet %+v, %v", table, set), impl.EnterSet(prog, table, set), impl.TableResult{Code: code})
			}
		}
		for _, none := range [][]int64{nil, {}, make([]int64, 0, 9)} {
			want(t, fmt.Sprintf("EnterSet %+v, none", table), impl.EnterSet(prog, table, none), enterTold(table, nil))
		}
	}
}

func TestStatesThatLeaveTheirBounds(t *testing.T) {
	prog := progOf("s1,2 a>0 done")
	for _, states := range []string{"", "-", "0 a0", "0 a1 | 1 a0", "0 | 1 | 2 | 0,1 | 0,2 | 1,2"} {
		table := tableOf(12, states)
		count := int64(len(table.States))
		for _, state := range append(farNumbers(), -256, -12, -1, count, count+1, 11, 12, 256, 1<<32, 1<<32+count-1) {
			for _, b := range []byte{0, 'a', 255} {
				want(t, fmt.Sprintf("StepTable %q, %d, %q", states, state, b), impl.StepTable(prog, table, state, b), impl.TableResult{Code: impl.ErrRange})
			}
		}
		for state := range count {
			want(t, fmt.Sprintf("StepTable %q, %d", states, state), impl.StepTable(prog, table, state, 'a'), leadTold(prog, table, state, 'a'))
		}
	}
}

func TestTextsOfTablesThatLeaveTheirBounds(t *testing.T) {
	prog := compiled("a*")
	for _, table := range []impl.Table{tableOf(1, ""), tableOf(2, "0,1,3 a0 | -"), tableOf(12, "0,1,2,3 | 0 a1 | 1")} {
		for _, size := range []int{401, 402, 5000} {
			for _, at := range append(farNumbers(), -1, 0, 1, 400, 401, int64(size), int64(size)+1) {
				want(t, fmt.Sprintf("RunTable %+v, %d bytes, %d", table, size, at), impl.RunTable(prog, table, bytes.Repeat([]byte("a"), size), at), impl.TableResult{Code: impl.ErrMany})
			}
		}
		for _, size := range []int{0, 1, 2, 63, 64, 399, 400} {
			text := bytes.Repeat([]byte("a"), size)
			for _, at := range append(farNumbers(), -400, -2, -1, int64(size)+1, int64(size)+2, 401, 1000) {
				want(t, fmt.Sprintf("RunTable %+v, %d bytes, %d", table, size, at), impl.RunTable(prog, table, text, at), impl.TableResult{Code: impl.ErrRange})
			}
			for _, at := range []int64{0, int64(size) / 2, int64(size)} {
				want(t, fmt.Sprintf("RunTable %+v, %d bytes, %d", table, size, at), impl.RunTable(prog, table, text, at), goneTold(prog, table, string(text), at))
			}
		}
		for _, none := range [][]byte{nil, {}, make([]byte, 0, 9)} {
			want(t, fmt.Sprintf("RunTable %+v, nothing", table), impl.RunTable(prog, table, none, 0), goneTold(prog, table, "", 0))
		}
	}
}

func TestEachCallOfATableEndsSoon(t *testing.T) {
	random := rand.New(rand.NewSource(591414))
	texts := [][]byte{nil, bytes.Repeat([]byte("a"), 400), bytes.Repeat([]byte("ab"), 200), bytes.Repeat([]byte("\n"), 400)}
	for _, prog := range append(roundProgs(), somePrograms(80)...) {
		full := randomTable(random, prog)
		for place := range full.States {
			full.States[place].Arcs = arcsOf(256, int64(random.Intn(len(full.States))))
		}
		begin := time.Now()
		for _, table := range []impl.Table{tableOf(1, ""), tableOf(2, ""), tableOf(12, ""), full} {
			impl.TableTrue(prog, table)
			for _, text := range texts {
				table = impl.RunTable(prog, table, text, 0).Table
				want(t, "the code of RunTable, by the table that is left", impl.RunTable(prog, table, text, int64(len(text))).Code, int64(impl.OK))
			}
		}
		if took := time.Since(begin); took > 4*time.Second {
			t.Errorf("%+v took %v", prog, took)
		}
	}
}

// tableCase is what the functions of the chapter are asked of.
type tableCase struct {
	prog  []impl.Inst
	table impl.Table
	set   []int64
	text  []byte
}

// tableCases have faults now and then.
func tableCases() []tableCase {
	random := rand.New(rand.NewSource(691414))
	var cases []tableCase
	for i, prog := range somePrograms(200) {
		c := tableCase{prog, randomTable(random, prog), randomSet(random, len(prog)), []byte(narrowText(random, random.Intn(9)))}
		if i%2 == 0 {
			c.table = trueTable(random, prog, int64(1+random.Intn(impl.MaxStates)))
		}
		if i%3 == 0 && len(c.table.States) > 0 {
			c.set = slices.Clone(c.table.States[random.Intn(len(c.table.States))].Set)
		}
		switch i % 20 {
		case 0:
			c.set = append(c.set, -1)
		case 1:
			c.text = make([]byte, 401)
		case 2:
			c.table.Size = 0
		case 3:
			c.table.States = append(c.table.States, impl.SetState{Set: []int64{-1}, Arcs: arcsOf(3, 900)})
		}
		cases = append(cases, c)
	}
	prog := compiled("a*b")
	for _, states := range []string{"", "0,1,3 a1 b2 | 0,1,2,3 | 4", "0,1,3 | 0,1,2,3 a1", "- a0 b0", "4 c0"} {
		for size := int64(1); size <= 5; size++ {
			cases = append(cases, tableCase{prog, tableOf(size, states), []int64{4}, []byte("aabb")}, tableCase{prog, tableOf(size, states), nil, nil})
		}
	}
	return cases
}

// answers asks all functions of the chapter that answer a table.
func (c tableCase) answers() []impl.TableResult {
	answers := []impl.TableResult{impl.NewTable(c.table.Size), impl.EnterSet(c.prog, c.table, c.set), impl.EnterSet(c.prog, c.table, nil)}
	for place := int64(-1); place <= int64(len(c.table.States)); place++ {
		answers = append(answers, impl.StepTable(c.prog, c.table, place, 'a'), impl.StepTable(c.prog, c.table, place, 200))
	}
	for _, at := range []int64{-1, 0, int64(len(c.text)) / 2, int64(len(c.text)), int64(len(c.text)) + 1} {
		answers = append(answers, impl.RunTable(c.prog, c.table, c.text, at))
	}
	return answers
}

// tableLists are all lists of tables and sets, each kind for itself.
type tableLists struct {
	states [][]impl.SetState
	sets   [][]int64
	arcs   [][]impl.Arc
}

func (l *tableLists) add(table impl.Table) {
	l.states = append(l.states, table.States)
	for _, state := range table.States {
		l.sets = append(l.sets, state.Set)
		l.arcs = append(l.arcs, state.Arcs)
	}
}

// roomyTable is a table with room behind each of its lists, and all lists with what stands in that room.
func roomyTable(table impl.Table) (impl.Table, tableLists) {
	var wholes tableLists
	states := slices.Clone(table.States)
	for place, state := range states {
		set, wholeSet := roomy(state.Set, 170)
		arcs, wholeArcs := roomy(state.Arcs, impl.Arc{Byte: 170, To: 170})
		states[place] = impl.SetState{Set: set, Arcs: arcs}
		wholes.sets, wholes.arcs = append(wholes.sets, wholeSet), append(wholes.arcs, wholeArcs)
	}
	part, whole := roomy(states, impl.SetState{Set: []int64{170}, Arcs: []impl.Arc{{Byte: 170}}})
	wholes.states = [][]impl.SetState{whole}
	return impl.Table{Size: table.Size, States: part}, wholes
}

// clonedLists are lists of their own; what is in them is not.
func clonedLists[T any](lists [][]T) [][]T {
	cloned := make([][]T, len(lists))
	for i, list := range lists {
		cloned[i] = slices.Clone(list)
	}
	return cloned
}

func TestWhatTablesAreAskedOfStaysAsItIs(t *testing.T) {
	for _, c := range tableCases() {
		asked := c
		var wholeProg []impl.Inst
		var wholeSet []int64
		var wholeText []byte
		table, wholes := roomyTable(c.table)
		asked.table = table
		asked.prog, wholeProg = roomy(c.prog, impl.Inst{Op: 170})
		asked.set, wholeSet = roomy(c.set, 170)
		asked.text, wholeText = roomy(c.text, 170)
		prog, set, text := slices.Clone(wholeProg), slices.Clone(wholeSet), slices.Clone(wholeText)
		states, sets, arcs := clonedLists(wholes.states), clonedLists(wholes.sets), clonedLists(wholes.arcs)
		asked.answers()
		impl.TableFault(asked.prog, asked.table)
		impl.TableTrue(asked.prog, asked.table)
		if !slices.Equal(wholeProg, prog) || !slices.Equal(wholeSet, set) || !slices.Equal(wholeText, text) {
			t.Fatalf("%+v was changed to %+v", c, asked)
		}
		if !same(wholes.states, states) || !same(wholes.sets, sets) || !same(wholes.arcs, arcs) {
			t.Fatalf("%+v was changed to %+v", c.table, wholes)
		}
	}
}

// wantApart writes into each list, the room behind its end too, and looks at all others.
func wantApart[T any](t *testing.T, lists [][]T, mark func(list int) T, alike func(a T, b T) bool) {
	t.Helper()
	kept := clonedLists(lists)
	for j, list := range lists {
		overwrite(list, mark(j))
		kept[j] = slices.Clone(list)
		for k := range lists {
			if !slices.EqualFunc(lists[k], kept[k], alike) {
				t.Fatalf("lists %d and %d share memory: %v, %v", j, k, list, lists[k])
			}
		}
	}
}

func TestAnswersOfTablesShareNoMemory(t *testing.T) {
	for _, c := range tableCases() {
		var lists tableLists
		var set []int64
		c.table, lists = roomyTable(c.table)
		c.set, set = roomy(c.set, 170)
		lists.sets = append(lists.sets, set)
		for _, answer := range c.answers() {
			lists.add(answer.Table)
		}
		wantApart(t, lists.sets, func(list int) int64 { return int64(1000 + list) }, func(a int64, b int64) bool { return a == b })
		wantApart(t, lists.arcs, func(list int) impl.Arc { return impl.Arc{Byte: int64(1000 + list)} }, func(a impl.Arc, b impl.Arc) bool { return a == b })
		// The states come last: what is in them has been written over by then.
		wantApart(t, lists.states, func(list int) impl.SetState { return impl.SetState{Set: []int64{int64(1000 + list)}} }, func(a impl.SetState, b impl.SetState) bool {
			return slices.Equal(a.Set, b.Set) && slices.Equal(a.Arcs, b.Arcs)
		})
	}
}

func TestAnswersOfTablesHangOnTheArgumentsAlone(t *testing.T) {
	cases := tableCases()
	all := func(i int) string {
		c := cases[i]
		return fmt.Sprint(impl.TableFault(c.prog, c.table), impl.TableTrue(c.prog, c.table), c.answers())
	}
	first := make([]string, len(cases))
	for i := range cases {
		first[i] = all(i)
	}
	var group sync.WaitGroup
	for range 4 {
		group.Go(func() {
			for i := range slices.Backward(cases) {
				if again := all(i); again != first[i] {
					t.Errorf("%+v was answered in two ways:\n%s\n%s", cases[i], first[i], again)
				}
			}
		})
	}
	group.Wait()
}
