package tests

import (
	"math"
	"slices"
	"testing"

	"loop.example/lamson/impl"
)

// mayStand is what the document says of the numbers of windows.
func mayStand(n int) bool {
	return n >= 0 && n < 32
}

// wantFlowOk is what the document says of flows, worked out apart from the program.
func wantFlowOk(f impl.Flow) bool {
	return mayStand(f.Send) && mayStand(f.Room)
}

// wantFlowSend is what the document says of what is sent. Here, and in those below, sums are made just of numbers that may stand, so that none wraps round.
func wantFlowSend(f impl.Flow, n int) (impl.Flow, bool) {
	if !wantFlowOk(f) || !mayStand(n) || n > f.Send {
		return impl.Flow{}, false
	}
	return impl.Flow{Send: f.Send - n, Room: f.Room}, true
}

// wantFlowMore is what the document says of more that may be sent.
func wantFlowMore(f impl.Flow, n int) (impl.Flow, bool) {
	if !wantFlowOk(f) || !mayStand(n) || n == 0 || f.Send+n >= 32 {
		return impl.Flow{}, false
	}
	return impl.Flow{Send: f.Send + n, Room: f.Room}, true
}

// wantFlowGot is what the document says of what came.
func wantFlowGot(f impl.Flow, n int) (impl.Flow, bool) {
	if !wantFlowOk(f) || !mayStand(n) || n > f.Room {
		return impl.Flow{}, false
	}
	return impl.Flow{Send: f.Send, Room: f.Room - n}, true
}

// wantFlowGive is what the document says of room that is made.
func wantFlowGive(f impl.Flow, all int) (impl.Flow, int) {
	if !wantFlowOk(f) || !mayStand(all) {
		return impl.Flow{}, 0
	}
	if f.Room < all {
		return impl.Flow{Send: f.Send, Room: all}, all - f.Room
	}
	return f, 0
}

// nearNums is all numbers that may stand in a window, and two more on both sides.
func nearNums() []int {
	nums := []int{}
	for n := -2; n <= impl.FlowTop+2; n++ {
		nums = append(nums, n)
	}
	return nums
}

// farNums is the least numbers that there are, the greatest, those of which a sum with one in a window wraps round, and those that fewer bits would tell as one in a window.
func farNums() []int {
	nums := []int{-1 << 32, -1<<32 + 5, -1 << 31, -65536, -65531, -256, -248, -225, -129, -128, -64, -34, -33, -32, -31, -30, -16, -8, -3, 34, 48, 62, 63, 64, 127, 128, 255, 256, 261, 264, 287, 65536, 65541, 1<<31 - 1, 1 << 31, 1 << 32, 1<<32 + 1, 1<<32 + 8, 1<<32 + 31, 1 << 62, 1<<62 + 8}
	for n := range impl.FlowTop + 3 {
		nums = append(nums, math.MinInt+n, math.MaxInt-n)
	}
	return nums
}

// eachFlow goes through flows with both numbers from a list, ok or not.
func eachFlow(nums []int, do func(f impl.Flow)) {
	for _, send := range nums {
		for _, room := range nums {
			do(impl.Flow{Send: send, Room: room})
		}
	}
}

// okFlows is all flows that are ok.
func okFlows() []impl.Flow {
	flows := []impl.Flow{}
	eachFlow(nearNums(), func(f impl.Flow) {
		if wantFlowOk(f) {
			flows = append(flows, f)
		}
	})
	return flows
}

// noFlows is flows that are not ok, by one of their numbers, or by both.
func noFlows() []impl.Flow {
	flows := []impl.Flow{}
	eachFlow([]int{0, 1, 8, 16, 30, 31, -1, -2, -31, -32, 32, 33, 64, 256, 1 << 32, math.MinInt, math.MinInt + 1, math.MinInt + 31, math.MaxInt - 31, math.MaxInt}, func(f impl.Flow) {
		if !wantFlowOk(f) {
			flows = append(flows, f)
		}
	})
	return flows
}

// flowCall is a function of a window that says whether it was done, and what the document says of it.
type flowCall struct {
	name string
	do   func(impl.Flow, int) (impl.Flow, bool)
	want func(impl.Flow, int) (impl.Flow, bool)
}

// flowCalls is all such functions.
func flowCalls() []flowCall {
	return []flowCall{
		{"FlowSend", impl.FlowSend, wantFlowSend},
		{"FlowMore", impl.FlowMore, wantFlowMore},
		{"FlowGot", impl.FlowGot, wantFlowGot},
	}
}

// mustFlow fails unless a call answers this flow, and true.
func mustFlow(t *testing.T, call flowCall, f impl.Flow, n int, want impl.Flow) {
	t.Helper()
	if got, ok := call.do(f, n); got != want || !ok {
		t.Fatalf("%s(%+v, %d) is %+v, %v, not %+v, true", call.name, f, n, got, ok, want)
	}
}

// mustNotFlow fails unless a call answers nothing, and false.
func mustNotFlow(t *testing.T, call flowCall, f impl.Flow, n int) {
	t.Helper()
	if got, ok := call.do(f, n); got != (impl.Flow{}) || ok {
		t.Fatalf("%s(%+v, %d) is %+v, %v, not nothing, false", call.name, f, n, got, ok)
	}
}

// mustGive fails unless FlowGive answers this flow, and so much.
func mustGive(t *testing.T, f impl.Flow, all int, want impl.Flow, more int) {
	t.Helper()
	if got, n := impl.FlowGive(f, all); got != want || n != more {
		t.Fatalf("FlowGive(%+v, %d) is %+v, %d, not %+v, %d", f, all, got, n, want, more)
	}
}

// mustFlowAs fails unless all calls answer of a flow and a number as the document says. How many of them were done it answers.
func mustFlowAs(t *testing.T, f impl.Flow, n int) int {
	t.Helper()
	done := 0
	for _, call := range flowCalls() {
		want, ok := call.want(f, n)
		if !ok {
			mustNotFlow(t, call, f, n)
			continue
		}
		mustFlow(t, call, f, n, want)
		done++
	}
	want, more := wantFlowGive(f, n)
	mustGive(t, f, n, want, more)
	if more > 0 {
		done++
	}
	return done
}

// knownFlows is what becomes of windows, written out by hand; of a false, and of what is not ok, nothing.
var knownFlows = []struct {
	f     impl.Flow
	n     int
	sent  impl.Flow
	more  impl.Flow
	got   impl.Flow
	given impl.Flow
	lack  int
	is    [3]bool
}{
	{f: impl.Flow{Send: 8, Room: 8}, n: 5, sent: impl.Flow{Send: 3, Room: 8}, more: impl.Flow{Send: 13, Room: 8}, got: impl.Flow{Send: 8, Room: 3}, given: impl.Flow{Send: 8, Room: 8}, is: [3]bool{true, true, true}},
	{f: impl.Flow{Send: 3, Room: 8}, n: 4, more: impl.Flow{Send: 7, Room: 8}, got: impl.Flow{Send: 3, Room: 4}, given: impl.Flow{Send: 3, Room: 8}, is: [3]bool{false, true, true}},
	{f: impl.Flow{Send: 3, Room: 2}, n: 8, more: impl.Flow{Send: 11, Room: 2}, given: impl.Flow{Send: 3, Room: 8}, lack: 6, is: [3]bool{false, true, false}},
	{f: impl.Flow{Send: 16, Room: 16}, n: 16, sent: impl.Flow{Room: 16}, got: impl.Flow{Send: 16}, given: impl.Flow{Send: 16, Room: 16}, is: [3]bool{true, false, true}},
	{f: impl.Flow{Send: 16, Room: 16}, n: 15, sent: impl.Flow{Send: 1, Room: 16}, more: impl.Flow{Send: 31, Room: 16}, got: impl.Flow{Send: 16, Room: 1}, given: impl.Flow{Send: 16, Room: 16}, is: [3]bool{true, true, true}},
	{f: impl.Flow{}, n: 31, more: impl.Flow{Send: 31}, given: impl.Flow{Room: 31}, lack: 31, is: [3]bool{false, true, false}},
	{f: impl.Flow{Send: 31, Room: 31}, n: 31, sent: impl.Flow{Room: 31}, got: impl.Flow{Send: 31}, given: impl.Flow{Send: 31, Room: 31}, is: [3]bool{true, false, true}},
	{f: impl.Flow{Send: 7, Room: 9}, n: 0, sent: impl.Flow{Send: 7, Room: 9}, got: impl.Flow{Send: 7, Room: 9}, given: impl.Flow{Send: 7, Room: 9}, is: [3]bool{true, false, true}},
	{f: impl.Flow{}, n: 0, is: [3]bool{true, false, true}},
	{f: impl.Flow{Send: 7, Room: 9}, n: -1},
	{f: impl.Flow{Send: 7, Room: 9}, n: 32},
	{f: impl.Flow{Send: 32, Room: 9}, n: 1},
	{f: impl.Flow{Send: 7, Room: 32}, n: 1},
	{f: impl.Flow{Send: -1, Room: 9}, n: 1},
	{f: impl.Flow{Send: 7, Room: -1}, n: 1},
}

func TestFlowKnown(t *testing.T) {
	for _, c := range knownFlows {
		wants := []impl.Flow{c.sent, c.more, c.got}
		for at, call := range flowCalls() {
			if got, ok := call.do(c.f, c.n); got != wants[at] || ok != c.is[at] {
				t.Errorf("%s(%+v, %d) is %+v, %v, not %+v, %v", call.name, c.f, c.n, got, ok, wants[at], c.is[at])
			}
		}
		mustGive(t, c.f, c.n, c.given, c.lack)
	}
	if impl.FlowAll != 16 || impl.FlowOne != 8 || impl.FlowTop != 31 {
		t.Error("a number is another one")
	}
}

// The flows of the tests are all that are ok, and others; the numbers far off are none that may stand.
func TestFlowEdgesAreThere(t *testing.T) {
	if n := len(okFlows()); n != 32*32 {
		t.Error(n)
	}
	// 20 numbers, of which 6 may stand.
	if n := len(noFlows()); n != 20*20-6*6 {
		t.Error(n)
	}
	if nums := farNums(); slices.ContainsFunc(nums, mayStand) || !slices.Contains(nums, math.MinInt) || !slices.Contains(nums, math.MaxInt) {
		t.Error(nums)
	}
}

// Promises 53 to 57, all of them: all flows and numbers near, also such as are not ok.
func TestFlowNear(t *testing.T) {
	done := 0
	eachFlow(nearNums(), func(f impl.Flow) {
		for _, n := range nearNums() {
			done += mustFlowAs(t, f, n)
		}
	})
	// Of 32 numbers so many pairs are one and no greater one, or one and a lesser one; the other number of the flow is any.
	noGreater, less := 32*33/2, 32*31/2
	if want := 32 * (noGreater + less + noGreater + less); done != want {
		t.Errorf("%d are done, not %d", done, want)
	}
}

// Promises 53 to 57: no number is taken for another one, and no sum wraps round, be it the greatest or the least that there is.
func TestFlowFar(t *testing.T) {
	all := append(nearNums(), farNums()...)
	eachFlow(all, func(f impl.Flow) {
		if got := impl.FlowOk(f); got != wantFlowOk(f) {
			t.Fatalf("FlowOk(%+v) is %v", f, got)
		}
		for _, n := range farNums() {
			if done := mustFlowAs(t, f, n); done != 0 {
				t.Fatalf("%+v does something with %d", f, n)
			}
		}
	})
	eachFlow(farNums(), func(f impl.Flow) {
		for _, n := range all {
			if done := mustFlowAs(t, f, n); done != 0 {
				t.Fatalf("%+v does something with %d", f, n)
			}
		}
	})
}

// Promise 53.
func TestFlowSend(t *testing.T) {
	send := flowCalls()[0]
	for _, f := range okFlows() {
		for n := range f.Send + 1 {
			got, ok := impl.FlowSend(f, n)
			if !ok || got.Send+n != f.Send || got.Room != f.Room || !impl.FlowOk(got) {
				t.Fatalf("FlowSend(%+v, %d) is %+v, %v", f, n, got, ok)
			}
		}
		for _, n := range []int{-1, -2, -f.Send, -f.Send - 1, f.Send + 1, f.Send + 2, f.Send - impl.FlowTop - 1, math.MinInt, math.MaxInt, math.MinInt + f.Send, math.MaxInt - f.Send} {
			if n < 0 || n > f.Send {
				mustNotFlow(t, send, f, n)
			}
		}
	}
}

// Promise 53: in two, and at once.
func TestFlowSendInTwo(t *testing.T) {
	send := flowCalls()[0]
	for _, f := range okFlows() {
		for first := range impl.FlowTop + 1 {
			for second := range impl.FlowTop + 1 {
				mustDoAtOnce(t, send, f, first, second)
			}
		}
	}
}

// mustDoAtOnce fails unless a call of two numbers, one behind the other, is that of both together.
func mustDoAtOnce(t *testing.T, call flowCall, f impl.Flow, first, second int) {
	t.Helper()
	inTwo, ok := call.do(f, first)
	if ok {
		inTwo, ok = call.do(inTwo, second)
	}
	atOnce, done := call.do(f, first+second)
	if inTwo != atOnce || ok != done {
		t.Fatalf("%s of %+v is %+v, %v of %d and %d, but %+v, %v at once", call.name, f, inTwo, ok, first, second, atOnce, done)
	}
}

// Promise 54.
func TestFlowMore(t *testing.T) {
	send, more := flowCalls()[0], flowCalls()[1]
	for _, f := range okFlows() {
		for n := 1; f.Send+n <= impl.FlowTop; n++ {
			got, ok := impl.FlowMore(f, n)
			if !ok || got.Send != f.Send+n || got.Room != f.Room || !impl.FlowOk(got) {
				t.Fatalf("FlowMore(%+v, %d) is %+v, %v", f, n, got, ok)
			}
			mustFlow(t, send, got, n, f)
		}
		left := impl.FlowTop - f.Send
		for _, n := range []int{0, -1, -f.Send, -f.Send - 1, left + 1, left + 2, impl.FlowTop + 1, math.MinInt, math.MinInt + 1, math.MaxInt, math.MaxInt - f.Send, math.MaxInt - f.Send + 1, math.MinInt + f.Send} {
			if n <= 0 || n > left {
				mustNotFlow(t, more, f, n)
			}
		}
	}
}

// Promise 54: more behind what was sent is the flow, too; in two as at once.
func TestFlowMoreInTwo(t *testing.T) {
	more := flowCalls()[1]
	for _, f := range okFlows() {
		for n := 1; n <= f.Send; n++ {
			sent, _ := impl.FlowSend(f, n)
			mustFlow(t, more, sent, n, f)
		}
		for first := 1; first <= impl.FlowTop; first++ {
			for second := 1; second <= impl.FlowTop; second++ {
				mustDoAtOnce(t, more, f, first, second)
			}
		}
	}
}

// Promise 55.
func TestFlowGot(t *testing.T) {
	got := flowCalls()[2]
	for _, f := range okFlows() {
		for n := range f.Room + 1 {
			behind, ok := impl.FlowGot(f, n)
			if !ok || behind.Room+n != f.Room || behind.Send != f.Send || !impl.FlowOk(behind) {
				t.Fatalf("FlowGot(%+v, %d) is %+v, %v", f, n, behind, ok)
			}
			mustGive(t, behind, f.Room, f, n)
		}
		for _, n := range []int{-1, -2, -f.Room, -f.Room - 1, f.Room + 1, f.Room + 2, f.Room - impl.FlowTop - 1, math.MinInt, math.MaxInt, math.MinInt + f.Room, math.MaxInt - f.Room} {
			if n < 0 || n > f.Room {
				mustNotFlow(t, got, f, n)
			}
		}
	}
}

// Promise 55: what came in two is told as what came at once.
func TestFlowGotInTwo(t *testing.T) {
	got := flowCalls()[2]
	for _, f := range okFlows() {
		for first := range impl.FlowTop + 1 {
			for second := range impl.FlowTop + 1 {
				mustDoAtOnce(t, got, f, first, second)
				if first+second > f.Room {
					continue
				}
				behind, _ := impl.FlowGot(f, first)
				behind, _ = impl.FlowGot(behind, second)
				mustGive(t, behind, f.Room, f, first+second)
			}
		}
	}
}

// Promise 56.
func TestFlowGive(t *testing.T) {
	for _, f := range okFlows() {
		for all := range impl.FlowTop + 1 {
			got, more := impl.FlowGive(f, all)
			if more < 0 || f.Room+more != got.Room || got.Room < all || more > 0 && got.Room != all || got.Send != f.Send || !impl.FlowOk(got) {
				t.Fatalf("FlowGive(%+v, %d) is %+v, %d", f, all, got, more)
			}
			mustGive(t, got, all, got, 0)
			for less := range all {
				mustGive(t, got, less, got, 0)
			}
		}
		mustGive(t, f, 0, f, 0)
		mustGive(t, f, f.Room, f, 0)
		mustGive(t, f, impl.FlowTop, impl.Flow{Send: f.Send, Room: impl.FlowTop}, impl.FlowTop-f.Room)
		for _, all := range farNums() {
			mustGive(t, f, all, impl.Flow{}, 0)
		}
		for _, all := range []int{-2, -1, impl.FlowTop + 1, impl.FlowTop + 2} {
			mustGive(t, f, all, impl.Flow{}, 0)
		}
	}
}

// Promise 57: just the numbers from 0 to FlowTop, in any pair.
func TestFlowOk(t *testing.T) {
	count := 0
	for send := -300; send <= 300; send++ {
		for room := -300; room <= 300; room++ {
			f := impl.Flow{Send: send, Room: room}
			want := send >= 0 && send <= impl.FlowTop && room >= 0 && room <= impl.FlowTop
			if got := impl.FlowOk(f); got != want {
				t.Fatalf("FlowOk(%+v) is %v", f, got)
			}
			if want {
				count++
			}
		}
	}
	if count != 32*32 {
		t.Error(count)
	}
	for _, f := range noFlows() {
		if impl.FlowOk(f) {
			t.Errorf("%+v is ok", f)
		}
	}
}

// Promise 57: of a flow that is not ok nothing is done, whatever the number, not even nothing.
func TestFlowNotOk(t *testing.T) {
	nums := append(nearNums(), farNums()...)
	for _, f := range noFlows() {
		for _, n := range append(nums, f.Send, f.Room, -f.Send, -f.Room) {
			for _, call := range flowCalls() {
				mustNotFlow(t, call, f, n)
			}
			mustGive(t, f, n, impl.Flow{}, 0)
		}
	}
}

// Promise 58.
func TestFlowSendAndGot(t *testing.T) {
	send, got := flowCalls()[0], flowCalls()[2]
	for _, f := range okFlows() {
		for _, n := range nearNums() {
			for _, m := range nearNums() {
				one, oneOk := bothFlows(f, send, n, got, m)
				other, otherOk := bothFlows(f, got, m, send, n)
				if one != other || oneOk != otherOk {
					t.Fatalf("%+v of which %d are sent, and %d came, is %+v, %v or %+v, %v", f, n, m, one, oneOk, other, otherOk)
				}
				want := n >= 0 && n <= f.Send && m >= 0 && m <= f.Room
				if oneOk != want || want && one != (impl.Flow{Send: f.Send - n, Room: f.Room - m}) {
					t.Fatalf("%+v of which %d are sent, and %d came, is %+v, %v", f, n, m, one, oneOk)
				}
			}
		}
	}
}

// bothFlows is a flow behind two calls, one behind the other; nothing and false, if one of them is.
func bothFlows(f impl.Flow, first flowCall, n int, second flowCall, m int) (impl.Flow, bool) {
	behind, ok := first.do(f, n)
	if !ok {
		return impl.Flow{}, false
	}
	return second.do(behind, m)
}

// Promises 53 to 56, together: two windows, one of which sends what the other one gets. There is room for all that comes, what is told of more is never too much, and nothing of the window is lost.
func TestFlowThroughAPipe(t *testing.T) {
	for _, all := range []int{1, impl.FlowOne, impl.FlowAll, impl.FlowTop} {
		says, hears := impl.Flow{Send: all, Room: all}, impl.Flow{Send: all, Room: all}
		away, back, moved := 0, 0, 0
		for _, c := range []byte(stirred(5000, uint32(all))) {
			n := int(c) / 4 % (all + 2)
			switch c % 4 {
			case 0:
				if behind, ok := impl.FlowSend(says, n); ok {
					says, away = behind, away+n
				}
			case 1:
				if behind, ok := impl.FlowGot(hears, min(n, away)); ok {
					hears, away, moved = behind, away-min(n, away), moved+min(n, away)
				} else {
					t.Fatalf("no room for %d in %+v", min(n, away), hears)
				}
			case 2:
				behind, more := impl.FlowGive(hears, all)
				hears, back = behind, back+more
			case 3:
				if behind, ok := impl.FlowMore(says, back); ok {
					says, back = behind, 0
				} else if back > 0 {
					t.Fatalf("%d more is too much for %+v", back, says)
				}
			}
			if says.Send+away+all-hears.Room+back != all || says.Room != all || hears.Send != all {
				t.Fatalf("%+v, %d, %+v, %d are not %d together", says, away, hears, back, all)
			}
		}
		if moved < 100 {
			t.Errorf("just %d went through %d", moved, all)
		}
	}
}
