package tests

import (
	"fmt"
	"math/rand"
	"slices"
	"strings"
	"testing"

	"loop.example/g00414/impl"
)

// Promise 9: by a table one goes as far as without one, however little room it has; a set that was entered is where it was told,
// and a step leads to the set to which its byte leads.

func placeTold(table impl.Table, set []int64) int64 {
	return int64(slices.IndexFunc(table.States, func(state impl.SetState) bool { return slices.Equal(state.Set, set) }))
}

// enterTold is EnterSet of a set without a fault.
func enterTold(table impl.Table, set []int64) impl.TableResult {
	if place := placeTold(table, set); place >= 0 {
		return impl.TableResult{Value: place, Table: table}
	}
	if int64(len(table.States)) == table.Size {
		table.States = nil
	}
	return impl.TableResult{Value: int64(len(table.States)), Table: withState(table, impl.SetState{Set: set})}
}

// nextTold is the set to which a byte leads.
func nextTold(prog []impl.Inst, set []int64, b byte) []int64 {
	return closeTold(prog, stepTold(prog, set, b), false, false)
}

// leadTold is StepTable from a state that is there.
func leadTold(prog []impl.Inst, table impl.Table, state int64, b byte) impl.TableResult {
	from := table.States[state]
	for _, arc := range from.Arcs {
		if arc.Byte == int64(b) {
			return impl.TableResult{Value: arc.To, Table: table}
		}
	}
	next := nextTold(prog, from.Set, b)
	answer := enterTold(table, next)
	if placeTold(table, next) >= 0 || int64(len(table.States)) < table.Size {
		from.Arcs = append(slices.Clone(from.Arcs), impl.Arc{Byte: int64(b), To: answer.Value})
		answer.Table.States = slices.Clone(answer.Table.States)
		answer.Table.States[state] = from
	}
	return answer
}

// goneTold is RunTable of what has no fault.
func goneTold(prog []impl.Inst, table impl.Table, text string, at int64) impl.TableResult {
	last, size := int64(-1), int64(len(text))
	answer := enterTold(table, closeTold(prog, []int64{0}, at == 0, false))
	for {
		set := answer.Table.States[answer.Value].Set
		asked := set
		if at == size {
			asked = closeTold(prog, set, at == 0, true)
		}
		if slices.ContainsFunc(asked, func(place int64) bool { return prog[place].Op == impl.OpDone }) {
			last = at
		}
		if at == size || len(set) == 0 {
			return impl.TableResult{Value: last, Table: answer.Table}
		}
		answer = leadTold(prog, answer.Table, answer.Value, text[at])
		at++
	}
}

// trueTold is TableTrue of a table without a fault.
func trueTold(prog []impl.Inst, table impl.Table) bool {
	for _, state := range table.States {
		for _, arc := range state.Arcs {
			if !slices.Equal(table.States[arc.To].Set, nextTold(prog, state.Set, byte(arc.Byte))) {
				return false
			}
		}
	}
	return true
}

func TestNewTablesHaveNoStates(t *testing.T) {
	for size := int64(1); size <= impl.MaxStates; size++ {
		want(t, fmt.Sprint("NewTable ", size), impl.NewTable(size), impl.TableResult{Table: impl.Table{Size: size}})
	}
}

func TestSetsAreEntered(t *testing.T) {
	prog := compiled("a*b")
	for _, c := range []struct {
		size       int64
		table, set string
		place      int64
		left       string
	}{
		// It is there: the table is as it is, with room and without.
		{1, "0", "", 0, "-"}, {1, "0 a0", "0", 0, "0 a0"}, {2, "0 a1 | 4 b0", "0", 0, "0 a1 | 4 b0"}, {2, "0 a1 | 4 b0", "4", 1, "0 a1 | 4 b0"}, {3, "0 a1 | 4 b0", "4", 1, "0 a1 | 4 b0"}, {3, "0 | 4 | - c2", "", 2, "0 | 4 | - c2"}, {1, "- c0", "", 0, "- c0"},
		// It is not there, and there is room: arcs stay.
		{1, "", "0,1,3", 0, "0,1,3"}, {1, "", "", 0, "-"}, {12, "", "0,1,2,3,4", 0, "0,1,2,3,4"}, {2, "0 a0 b0", "4", 1, "0 a0 b0 | 4"}, {2, "0 a0 b0", "", 1, "0 a0 b0 | -"}, {3, "0 a1 | 4 b0", "1", 2, "0 a1 | 4 b0 | 1"}, {12, "4 | 3 | 2 | 1", "0", 4, "4 | 3 | 2 | 1 | 0"},
		// It is not there, and there is no room: nothing else is left.
		{1, "0 a0", "4", 0, "4"}, {1, "- a0", "0", 0, "0"}, {2, "0 a1 | 4 b0", "1", 0, "1"}, {2, "0 a1 | 4 b0", "", 0, "-"}, {3, "0 a1 b2 | 4 b0 | 1", "0,1,2,3,4", 0, "0,1,2,3,4"},
		{12, "0 a11 | 1 | 2 | 3 | 4 | 0,1 | 0,2 | 0,3 | 0,4 | 1,2 | 1,3 | 1,4 a0", "-", 0, "-"}, {12, "0 a11 | 1 | 2 | 3 | 4 | 0,1 | 0,2 | 0,3 | 0,4 | 1,2 | 1,3 | 1,4 a0", "1,4", 11, "0 a11 | 1 | 2 | 3 | 4 | 0,1 | 0,2 | 0,3 | 0,4 | 1,2 | 1,3 | 1,4 a0"},
		// Sets that are alike but for a place.
		{4, "0,1 | 0,1,2", "0", 2, "0,1 | 0,1,2 | 0"}, {4, "0,1 | 0,1,2", "1,2", 2, "0,1 | 0,1,2 | 1,2"}, {4, "0,1 | 0,1,2", "0,1,2,3", 2, "0,1 | 0,1,2 | 0,1,2,3"}, {4, "0,1 | 0,1,2", "0,2", 2, "0,1 | 0,1,2 | 0,2"}, {2, "0,1 | 0,1,2", "0,1,3", 0, "0,1,3"},
	} {
		set := placesOf(strings.Trim(c.set, "-"))
		call := fmt.Sprintf("EnterSet, Size %d, %s: %v", c.size, c.table, set)
		want(t, call, impl.EnterSet(prog, tableOf(c.size, c.table), set), impl.TableResult{Value: c.place, Table: tableOf(c.size, c.left)})
	}
}

func TestAsManySetsAsThereIsRoomForAndOneMore(t *testing.T) {
	prog := slices.Repeat([]impl.Inst{{Op: impl.OpDone}}, 30)
	for size := int64(1); size <= impl.MaxStates; size++ {
		table := impl.NewTable(size).Table
		for i := range int64(26) {
			answer := impl.EnterSet(prog, table, []int64{i})
			asked := impl.Table{Size: size}
			for j := i - i%size; j <= i; j++ {
				asked = withState(asked, impl.SetState{Set: []int64{j}})
			}
			want(t, fmt.Sprintf("EnterSet %d, Size %d", i, size), answer, impl.TableResult{Value: i % size, Table: asked})
			// Those that were entered ahead are where it was told.
			for place, state := range asked.States {
				again := impl.EnterSet(prog, answer.Table, state.Set)
				want(t, fmt.Sprintf("EnterSet %v again, Size %d", state.Set, size), again, impl.TableResult{Value: int64(place), Table: asked})
			}
			table = answer.Table
		}
	}
}

func TestStepsByTables(t *testing.T) {
	for _, c := range []struct {
		pattern string
		size    int64
		table   string
		state   int64
		b       byte
		place   int64
		left    string
	}{
		// With an arc: where it leads, even where it should not, and to itself.
		{"a*b", 3, "0,1,3 a1 b2 | 0,1,2,3 a1 | 4", 0, 'a', 1, "0,1,3 a1 b2 | 0,1,2,3 a1 | 4"}, {"a*b", 3, "0,1,3 a1 b2 | 0,1,2,3 a1 | 4", 0, 'b', 2, "0,1,3 a1 b2 | 0,1,2,3 a1 | 4"}, {"a*b", 3, "0,1,3 a1 b2 | 0,1,2,3 a1 | 4", 1, 'a', 1, "0,1,3 a1 b2 | 0,1,2,3 a1 | 4"},
		{"a*b", 2, "0,1,3 a0 b0 c0 | 4", 0, 'b', 0, "0,1,3 a0 b0 c0 | 4"}, {"a*b", 2, "0,1,3 a0 b0 c1 | 4", 0, 'c', 1, "0,1,3 a0 b0 c1 | 4"}, {"a*b", 1, "4 \xff0", 0, 255, 0, "4 \xff0"}, {"a*b", 1, "4 \x000", 0, 0, 0, "4 \x000"},
		// Without one, where the next set is there: ahead, behind, itself; there is room or none.
		{"a*b", 3, "0,1,3 a1 | 0,1,2,3 | 4", 1, 'b', 2, "0,1,3 a1 | 0,1,2,3 b2 | 4"}, {"a*b", 3, "4 | 0,1,2,3 c0 | 0,1,3 a1", 1, 'b', 0, "4 | 0,1,2,3 c0 b0 | 0,1,3 a1"}, {"a*b", 4, "4 | 0,1,2,3", 1, 'b', 0, "4 | 0,1,2,3 b0"}, {"a*b", 1, "0,1,2,3 b0", 0, 'a', 0, "0,1,2,3 b0 a0"}, {"a*b", 2, "4 | 0,1,2,3", 1, 'a', 1, "4 | 0,1,2,3 a1"}, {"a*b", 2, "0,1,3 a1 | 0,1,2,3", 1, 'a', 1, "0,1,3 a1 | 0,1,2,3 a1"},
		// Without one, where it is new and there is room.
		{"a*b", 2, "0,1,3", 0, 'a', 1, "0,1,3 a1 | 0,1,2,3"}, {"a*b", 3, "4 a1 | 0,1,3 a0", 1, 'b', 0, "4 a1 | 0,1,3 a0 b0"}, {"a*b", 4, "4 a1 | 0,1,3 b0 | 2 a0", 1, 'a', 3, "4 a1 | 0,1,3 b0 a3 | 2 a0 | 0,1,2,3"}, {"a*b", 12, "0,1,3", 0, 'b', 1, "0,1,3 b1 | 4"},
		// Without one, where it is new and there is no room: no arc is left.
		{"a*b", 1, "0,1,3 c0", 0, 'a', 0, "0,1,2,3"}, {"a*b", 1, "0,1,3 a0", 0, 'b', 0, "4"}, {"a*b", 2, "0,1,3 a1 | 0,1,2,3 a1", 1, 'b', 0, "4"}, {"a*b", 3, "2 a1 | 0,1,3 b2 | 4 c0", 1, 'a', 0, "0,1,2,3"}, {"a*b", 2, "4 | 0,1,2,3", 0, 'a', 0, "-"},
		// To the empty set and from it; sets that are not closed.
		{"a*b", 3, "4 a0 | 0", 0, 'b', 2, "4 a0 b2 | 0 | -"}, {"a*b", 3, "0,1,3 | -", 0, 'c', 1, "0,1,3 c1 | -"}, {"a*b", 1, "-", 0, 'a', 0, "- a0"}, {"a*b", 1, "- a0", 0, 'b', 0, "- a0 b0"}, {"a*b", 3, "0 | 1", 0, 'a', 2, "0 a2 | 1 | -"}, {"a*b", 3, "0 | 1", 1, 'a', 2, "0 | 1 a2 | 0,1,2,3"}, {"a*b", 2, "0,1,2,3,4 | 4", 0, 'b', 1, "0,1,2,3,4 b1 | 4"},
		// What is closed behind a byte is neither at the beginning nor at the end.
		{"a^", 3, "0", 0, 'a', 1, "0 a1 | 1"}, {"a$", 3, "0", 0, 'a', 1, "0 a1 | 1"}, {"(^|a)*b$", 3, "0,1,2,3,4,5,6", 0, 'a', 1, "0,1,2,3,4,5,6 a1 | 0,1,2,4,5,6"}, {"(^|a)*b$", 3, "0,1,2,3,4,5,6", 0, 'b', 1, "0,1,2,3,4,5,6 b1 | 7"},
		// Bytes at their bounds.
		{".*", 2, "0,1,3", 0, 0, 1, "0,1,3 \x001 | 0,1,2,3"}, {".*", 2, "0,1,3", 0, 255, 1, "0,1,3 \xff1 | 0,1,2,3"}, {".*", 2, "0,1,3", 0, '\n', 1, "0,1,3 \n1 | -"}, {".*", 2, "0,1,2,3 \x001 | -", 0, 255, 0, "0,1,2,3 \x001 \xff0 | -"},
	} {
		call := fmt.Sprintf("StepTable %q, Size %d, %q: %d, %q", c.pattern, c.size, c.table, c.state, c.b)
		want(t, call, impl.StepTable(compiled(c.pattern), tableOf(c.size, c.table), c.state, c.b), impl.TableResult{Value: c.place, Table: tableOf(c.size, c.left)})
	}
}

func TestRunsByTables(t *testing.T) {
	for _, c := range []struct {
		pattern string
		size    int64
		table   string
		text    string
		at, to  int64
		left    string
	}{
		// From a table without states: at 0, in the midst, at the end, at an empty text.
		{"a*b", 4, "", "aab", 0, 3, "0,1,3 a1 | 0,1,2,3 a1 b2 | 4"}, {"a*b", 4, "", "aab", 1, 3, "0,1,3 a1 | 0,1,2,3 b2 | 4"}, {"a*b", 4, "", "aab", 2, 3, "0,1,3 b1 | 4"}, {"a*b", 4, "", "aab", 3, -1, "0,1,3"}, {"a*b", 4, "", "", 0, -1, "0,1,3"}, {"a*", 4, "", "", 0, 0, "0,1,3"}, {"a*", 4, "", "aa", 2, 2, "0,1,3"}, {"", 1, "", "", 0, 0, "0,1"},
		// It ends at an empty set, ahead of the end of the text.
		{"a*b", 4, "", "aabbaa", 0, 3, "0,1,3 a1 | 0,1,2,3 a1 b2 | 4 b3 | -"}, {"a*b", 4, "", "aca", 0, -1, "0,1,3 a1 | 0,1,2,3 c2 | -"}, {"a*b", 4, "", "ca", 0, -1, "0,1,3 c1 | -"}, {"a*b", 4, "", "c", 0, -1, "0,1,3 c1 | -"}, {"a*b", 4, "", "b\na", 0, 1, "0,1,3 b1 | 4 \n2 | -"},
		// States are gone in the midst.
		{"a*b", 3, "", "aabb", 0, 3, "-"}, {"a*b", 2, "", "aab", 0, 3, "4"}, {"a*b", 1, "", "aab", 0, 3, "4"}, {"a*b", 1, "", "aaa", 0, -1, "0,1,2,3 a0"}, {"a*b", 2, "", "aabb", 0, 3, "4 b1 | -"}, {"a*b", 1, "", "aabb", 0, 3, "-"}, {"a*", 1, "", "aab", 0, 2, "-"}, {"(ab)*", 2, "", "ababa", 0, 4, "0,1,3,4 a1 | 2 b0"}, {"(ab)*", 3, "", "ababa", 0, 4, "0,1,4 a1 | 2 b2 | 0,1,3,4 a1"}, {"(ab)*", 1, "", "abab", 0, 4, "0,1,3,4"},
		// From a table that has states and arcs already, which may be gone for the first set.
		{"a*b", 3, "4 | 0,1,2,3 | 0,1,3", "aab", 0, 3, "4 | 0,1,2,3 a1 b0 | 0,1,3 a1"}, {"a*b", 4, "0,1,3 a1 | 0,1,2,3 a1 b2 | 4", "ab", 0, 2, "0,1,3 a1 | 0,1,2,3 a1 b2 | 4"}, {"a*b", 4, "4 c1 | -", "b", 0, 1, "4 c1 | - | 0,1,3 b0"}, {"a*b", 2, "4 c1 | -", "b", 0, 1, "0,1,3 b1 | 4"}, {"a*b", 1, "4 c0", "", 0, -1, "0,1,3"}, {"a*b", 1, "0,1,3", "", 0, -1, "0,1,3"}, {"a*b", 2, "0,1,3 a0 | 1", "b", 0, 1, "4"},
		// Arcs lead elsewhere than they should.
		{"a*b", 2, "0,1,3 c1 | 4 c1", "cc", 0, 2, "0,1,3 c1 | 4 c1"}, {"a*b", 2, "0,1,3 b0 | 4", "bb", 0, -1, "0,1,3 b0 | 4"}, {"a*b", 2, "0,1,3 b1 | -", "bb", 0, -1, "0,1,3 b1 | -"}, {"a*b", 3, "0,1,3 a1 | 4 a2 | -", "aab", 0, 1, "0,1,3 a1 | 4 a2 | -"}, {"a*b", 3, "0,1,3 b1 | 2", "bb", 0, -1, "0,1,3 b1 | 2 b2 | -"}, {"a*b", 2, "0,1,3 b1 | 2", "bb", 0, -1, "-"}, {"a$", 2, "0 a0", "aaa", 0, -1, "0 a0"}, {"a$", 2, "0 a1 | 1 a1", "aaa", 0, 3, "0 a1 | 1 a1"},
		// The beginning.
		{"^a", 4, "", "aa", 0, 1, "0,1 a1 | 2 a2 | -"}, {"^a", 4, "0,1 a1 | 2 a2 | -", "aa", 1, -1, "0,1 a1 | 2 a2 | - | 0 a2"}, {"^a", 4, "", "aa", 2, -1, "0"}, {"^", 2, "", "a", 0, 0, "0,1 a1 | -"}, {"^", 2, "0,1", "a", 1, -1, "0,1 | 0"}, {"a^", 4, "", "aa", 0, -1, "0 a1 | 1 a2 | -"}, {"(^a)*", 4, "", "aa", 0, 1, "0,1,2,4 a1 | 0,1,3,4 a2 | -"}, {"(^|a)*b$", 4, "", "aab", 0, 3, "0,1,2,3,4,5,6 a1 | 0,1,2,4,5,6 a1 b2 | 7"}, {"(^|a)*b$", 4, "", "aab", 1, 3, "0,1,2,4,6 a1 | 0,1,2,4,5,6 b2 | 7"},
		// An end that only the end of the text allows; both at an empty text.
		{"a$", 4, "", "a", 0, 1, "0 a1 | 1"}, {"a$", 4, "0 a1 | 1", "aa", 0, -1, "0 a1 | 1 a2 | -"}, {"a$", 4, "0 a1 | 1 a2 | -", "aa", 1, 2, "0 a1 | 1 a2 | -"}, {"a$", 1, "", "a", 0, 1, "1"}, {"$", 1, "", "", 0, 0, "0"}, {"$", 1, "", "a", 1, 1, "0"}, {"$", 2, "", "a", 0, -1, "0 a1 | -"}, {"^$", 1, "", "", 0, 0, "0,1"}, {"^$", 1, "", "a", 1, -1, "0"}, {"^$", 3, "", "a", 0, -1, "0,1 a1 | -"}, {"$^", 1, "", "", 0, 0, "0"}, {"$^", 1, "", "a", 1, -1, "0"},
		{"(a$)*", 4, "", "aa", 0, 0, "0,1,4 a1 | 2 a2 | -"}, {"(a$)*", 4, "", "aa", 1, 2, "0,1,4 a1 | 2"}, {"(a|$)*b", 4, "", "aa", 0, -1, "0,1,2,4,6 a1 | 0,1,2,3,4,5,6 a1"}, {"(a|$)+", 4, "", "aa", 0, 2, "0,1,3 a1 | 0,1,2,3,4,5 a1"},
	} {
		prog := compiled(c.pattern)
		asked := impl.TableResult{Value: c.to, Table: tableOf(c.size, c.left)}
		call := fmt.Sprintf("RunTable %q, Size %d, %q: %q, %d", c.pattern, c.size, c.table, c.text, c.at)
		want(t, call, impl.RunTable(prog, tableOf(c.size, c.table), []byte(c.text), c.at), asked)
		want(t, "told otherwise, "+call, goneTold(prog, tableOf(c.size, c.table), c.text, c.at), asked)
	}
}

func TestTablesThatAreTrueOrNot(t *testing.T) {
	for _, c := range []struct {
		pattern, table string
		isTrue         bool
	}{
		// Without arcs, whatever the sets are.
		{"a*b", "", true}, {"a*b", "-", true}, {"a*b", "0,1,3 | 0 | - | 2,4 | 0,1,2,3,4", true},
		// Each arc leads where it should: also to itself, to the empty set, from it, and from sets that are not closed.
		{"a*b", "0,1,3 a1 b2 | 0,1,2,3 a1 b2 | 4 a3 b3 c3 | - a3 \xff3", true}, {"a*b", "- \x000", true}, {"a*b", "0 a1 | -", true}, {"a*b", "1 a1 | 0,1,2,3 b2 | 4", true}, {"a*b", "0,1,2,3,4 a1 b2 | 0,1,2,3 | 4", true}, {"a$", "0 a1 | 1", true}, {"a^", "0 a1 | 1", true},
		{".*", "0,1,3 \x001 \xff1 \x7f1 \n2 | 0,1,2,3 \t1 \n2 | -", true},
		// One does not: the first one or the last one, of the first state or the last one.
		{"a*b", "0,1,3 a0", false}, {"a*b", "0,1,3 a1 b1 | 0,1,2,3 a1 b2 | 4", false}, {"a*b", "0,1,3 a2 b2 | 0,1,2,3 a1 b2 | 4", false}, {"a*b", "0,1,3 a1 b2 | 0,1,2,3 a1 b2 | 4 b2", false}, {"a*b", "0,1,3 a1 b2 | 0,1,2,3 a1 b2 | 4 b3 a0 | -", false}, {"a*b", "- a1 | 0", false}, {"a*b", "- a0 b0 c0 d1 | 0", false},
		// What one comes to is not closed, or closed too much; a byte that the node has not.
		{"a*b", "0,1,3 a1 | 2", false}, {"a*b", "0 a1 | 0,1,2,3", false}, {"a$", "0 a1 | 1,2", false}, {"a^", "0 a1 | 1,2", false}, {".*", "0,1,3 \n1 | 0,1,2,3 \t1", false}, {".*", "0,1,3 \x001 | - \xff1", false}, {"a*b", "0,1,3 A1 | 0,1,2,3", false}, {"a*b", "0,1,3 a1 | 0,1,2,3,4", false}, {"a*b", "0,1,3 a1 | 1,2,3", false},
	} {
		prog := compiled(c.pattern)
		table := tableOf(impl.MaxStates, c.table)
		for size := int64(max(1, len(table.States))); size <= impl.MaxStates; size++ {
			table.Size = size
			want(t, fmt.Sprintf("TableFault %q, Size %d, %q", c.pattern, size, c.table), impl.TableFault(prog, table), int64(impl.OK))
			want(t, fmt.Sprintf("TableTrue %q, Size %d, %q", c.pattern, size, c.table), impl.TableTrue(prog, table), c.isTrue)
		}
	}
}

// wantSteps asks of a table without a fault all that the chapter tells of it.
func wantSteps(t *testing.T, random *rand.Rand, prog []impl.Inst, table impl.Table) {
	t.Helper()
	call := fmt.Sprintf("of %+v, %+v", prog, table)
	want(t, "TableTrue "+call, impl.TableTrue(prog, table), trueTold(prog, table))
	sets := [][]int64{nil, {0}, rising(0, int64(len(prog))), randomSet(random, len(prog))}
	for place, state := range table.States {
		sets = append(sets, state.Set)
		bytes := []byte{'a', 0, '\n', 255, byte(random.Intn(256))}
		for _, arc := range state.Arcs[:min(len(state.Arcs), 3)] {
			bytes = append(bytes, byte(arc.Byte))
		}
		for _, b := range bytes {
			want(t, fmt.Sprintf("StepTable %s, %d, %q", call, place, b), impl.StepTable(prog, table, int64(place), b), leadTold(prog, table, int64(place), b))
		}
	}
	for _, set := range sets {
		got := impl.EnterSet(prog, table, set)
		want(t, fmt.Sprintf("EnterSet %s, %v", call, set), got, enterTold(table, set))
		want(t, fmt.Sprintf("EnterSet %s, %v, once more", call, set), impl.EnterSet(prog, got.Table, set), got)
	}
}

func TestStepsByDrawnTables(t *testing.T) {
	random := rand.New(rand.NewSource(91414))
	for _, prog := range somePrograms(400) {
		wantSteps(t, random, prog, randomTable(random, prog))
		wantSteps(t, random, prog, trueTable(random, prog, int64(1+random.Intn(impl.MaxStates))))
	}
}

func TestWhateverIsEnteredAndSteppedIsTrue(t *testing.T) {
	random := rand.New(rand.NewSource(191414))
	for _, tree := range someTrees(200) {
		prog := impl.CompilePattern(tree).Prog
		table := impl.NewTable(int64(1 + random.Intn(impl.MaxStates))).Table
		for range 60 {
			var got impl.TableResult
			asked := randomSet(random, len(prog))
			if len(table.States) > 0 && random.Intn(4) > 0 {
				from, b := random.Intn(len(table.States)), "abc \n\xff"[random.Intn(6)]
				asked = nextTold(prog, table.States[from].Set, b)
				got = impl.StepTable(prog, table, int64(from), b)
			} else {
				got = impl.EnterSet(prog, table, asked)
			}
			if table = got.Table; got.Code != impl.OK || !slices.Equal(table.States[got.Value].Set, asked) {
				t.Fatalf("%+v has not %v where it is told", got, asked)
			}
			if int64(len(table.States)) > table.Size || impl.TableFault(prog, table) != impl.OK || !impl.TableTrue(prog, table) {
				t.Fatalf("%+v has too many states, a fault, or is not true", table)
			}
		}
	}
}

// wantAsFar goes from each place of a text on by one table of each Size, and asks whether it goes as far as without one.
func wantAsFar(t *testing.T, random *rand.Rand, prog []impl.Inst, text string) {
	t.Helper()
	places := random.Perm(len(text) + 1)
	for size := int64(1); size <= impl.MaxStates; size++ {
		table := trueTable(random, prog, size)
		for _, at := range places {
			got, asked := impl.RunTable(prog, table, []byte(text), int64(at)), impl.RunProg(prog, []byte(text), int64(at))
			if asked.Code == impl.ErrNone {
				asked.Value = -1
			}
			if got.Code != impl.OK || got.Value != asked.Value {
				t.Errorf("RunTable %+v, %+v, %q, %d = %v, RunProg %v", prog, table, text, at, got, asked)
			}
			if table = got.Table; int64(len(table.States)) > size || table.Size != size || !impl.TableTrue(prog, table) {
				t.Errorf("RunTable %+v, %q, %d leaves %+v", prog, text, at, table)
			}
		}
	}
}

func TestTablesGoAsFarAsPrograms(t *testing.T) {
	random := rand.New(rand.NewSource(291414))
	for shown := range shownEnds() {
		wantAsFar(t, random, compiled(shown[0]), shown[1])
	}
	for i := range 400 {
		wantAsFar(t, random, impl.CompilePattern(narrowTree(random, 1+i%impl.MaxNodes)).Prog, narrowText(random, random.Intn(12)))
	}
	for _, prog := range somePrograms(400) {
		wantAsFar(t, random, prog, narrowText(random, random.Intn(10)))
	}
	for range 400 {
		wantAsFar(t, random, randomProg(random, 1+random.Intn(7)), narrowText(random, random.Intn(8)))
	}
}

func TestTablesGoAsFarAsTextsMayBeLong(t *testing.T) {
	random := rand.New(rand.NewSource(391414))
	progs := somePrograms(40)
	for _, nodes := range greatTrees() {
		progs = append(progs, impl.CompilePattern(nodes).Prog)
	}
	for _, prog := range progs {
		for _, text := range []string{strings.Repeat("a", 400), strings.Repeat("ab", 200), narrowText(random, 400)} {
			for size := int64(1); size <= impl.MaxStates; size++ {
				table := impl.NewTable(size).Table
				for _, at := range []int64{0, 1, 399, 400} {
					got := impl.RunTable(prog, table, []byte(text), at)
					want(t, fmt.Sprintf("RunTable %+v, %+v, %q, %d", prog, table, text, at), got, goneTold(prog, table, text, at))
					table = got.Table
				}
			}
		}
	}
	for size := int64(1); size <= impl.MaxStates; size++ {
		want(t, fmt.Sprint("RunTable to the end of 400 bytes, Size ", size), impl.RunTable(compiled("(ab)*$"), impl.NewTable(size).Table, []byte(strings.Repeat("ab", 200)), 0).Value, int64(400))
	}
}

func TestRunsByDrawnTables(t *testing.T) {
	random := rand.New(rand.NewSource(491414))
	for i, prog := range append(somePrograms(1200), slices.Repeat([][]impl.Inst{compiled("(a|b)*a(a|b)"), compiled("^a*|b$"), compiled("(^|a|$)*b")}, 400)...) {
		table, size := randomTable(random, prog), random.Intn(9)
		if i%40 == 0 {
			size = 390 + random.Intn(11)
		}
		text := narrowText(random, size)
		for _, at := range []int64{0, int64(random.Intn(size + 1)), int64(size)} {
			want(t, fmt.Sprintf("RunTable %+v, %+v, %q, %d", prog, table, text, at), impl.RunTable(prog, table, []byte(text), at), goneTold(prog, table, text, at))
		}
	}
}
