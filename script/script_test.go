package script_test

import (
	"fmt"
	"slices"
	"strconv"
	"strings"
	"testing"

	"slabyard/api"
	"slabyard/script"
)

// Answers of errors.
const (
	isText  = "slabyard: text"
	isBound = "slabyard: bound"
	isNone  = "slabyard: none"
	isFull  = "slabyard: full"
	isHeld  = "slabyard: held"
	isWait  = "slabyard: wait"
	isStale = "slabyard: stale"
	isMany  = "slabyard: many"
)

func run(t *testing.T, lines []string) []string {
	t.Helper()
	l, err := script.Run(lines)
	if err != nil || len(l) != len(lines) {
		t.Fatal(lines, l, err)
	}
	return l
}

// holds a script, told as a line and its answer in turn, from a new beginning on.
func holds(t *testing.T, pairs ...string) {
	t.Helper()
	var lines, wants []string
	for pair := range slices.Chunk(pairs, 2) {
		lines, wants = append(lines, pair[0]), append(wants, pair[1])
	}
	for i, got := range run(t, lines) {
		if got != wants[i] {
			t.Errorf("line %d %q: %q, want %q", i, lines[i], got, wants[i])
		}
	}
}

// names of all commands, each with a line of it that is one.
func names() map[string]string {
	return map[string]string{
		"nodes": "nodes 8 4", "make": "make 0 abc", "clone": "clone 1 0 1", "split": "split 1 1", "join": "join 1 2", "write": "write 0 1 0 z",
		"pull": "pull 0 1 1", "free": "free 0 1", "read": "read 1", "len": "len 1", "parts": "parts 1", "list": "list", "free-pages": "free-pages 0",
		"take": "take 0 0", "give": "give 0 0:64", "reclaim": "reclaim 0", "audit": "audit", "run": "run 8 0",
	}
}

func TestMostLines(t *testing.T) { // P120: 100 lines, and not one more; none of them is looked at then
	for _, n := range []int{0, 1, 99, 100} {
		lines := slices.Repeat([]string{"list"}, n)
		if l := run(t, lines); slices.ContainsFunc(l, func(a string) bool { return a != isNone }) {
			t.Error(n, l)
		}
	}
	for _, n := range []int{101, 102, 5000} {
		for _, line := range []string{"", "list", "nodes 1", "what"} {
			if l, err := script.Run(slices.Repeat([]string{line}, n)); err != api.ErrBound || len(l) != 0 {
				t.Error(n, line, l, err)
			}
		}
	}
}

func TestNoLines(t *testing.T) { // P1, P3: nothing is answered
	for _, lines := range [][]string{nil, {}, make([]string, 0, 7)} {
		if l, err := script.Run(lines); len(l) != 0 || err != nil {
			t.Error(l, err)
		}
	}
}

func TestLinesAreOnlyRead(t *testing.T) { // P2, P3, P4: nor is what lies behind their end; each script begins anew, its answers are new
	lines := []string{"nodes 4", "make 0 abc", "read 1", "list", "free 0 1", "make 1 d"}
	before := slices.Clone(lines)
	a := run(t, lines[:4])
	lines[5] = "nodes 9 9"
	b := run(t, lines[:4])
	lines[5] = before[5]
	if !slices.Equal(lines, before) || !slices.Equal(a, []string{"ok", "1", "abc", "1"}) || !slices.Equal(a, b) {
		t.Error(lines, a, b)
	}
	b[0], b[2] = "x", "y"
	if !slices.Equal(a, []string{"ok", "1", "abc", "1"}) || !slices.Equal(run(t, lines[:4]), a) {
		t.Error(a)
	}
	holds(t, "list", isNone) // nothing is left of the scripts ahead
}

func TestNodes(t *testing.T) { // P120: of each node so many pages: the play has one of node 0
	holds(t, "nodes 1", "ok", "free-pages 0", "0", "free-pages 1", isBound)
	holds(t, "nodes 8 4", "ok", "free-pages 0", "7", "free-pages 1", "4", "free-pages 2", isBound, "list", "nothing", "audit", "ok")
	holds(t, "nodes 256 1 2 256", "ok", "free-pages 0", "255", "free-pages 1", "1", "free-pages 2", "2", "free-pages 3", "256",
		"free-pages 4", isBound)
	holds(t, "nodes 4", "ok", "take 1 0", "0:64", "take 2 0", isBound) // two workers
}

func TestNodesAnew(t *testing.T) { // P120: a new play, of which nothing is known of the one ahead
	holds(t, "nodes 4 4", "ok", "make 0 abc", "1", "make 0 d", "2", "take 0 0", "0:64", "take 1 1", "1:0", "nodes 3", "ok",
		"list", "nothing", "read 1", isStale, "free-pages 0", "2", "free-pages 1", isBound, "run 9", "4", "give 0 0:64", isStale,
		"make 1 e", "1", "list", "1", "audit", "ok")
}

func TestNodesErrors(t *testing.T) { // P120, P121: play.New's; the play that there was goes on
	for _, line := range []string{"nodes 0", "nodes 257", "nodes 99999", "nodes 8 0", "nodes 8 4 257", "nodes 1 1 1 0", "nodes 1 1 1 1 1",
		"nodes 0 0 0 0 0",
		"nodes" + strings.Repeat(" 1", 300000), "nodes" + strings.Repeat(" 99999", 300000)} {
		holds(t, line, isBound, "list", isNone, "nodes 8 4", "ok", "make 0 abc", "1", "take 1 1", "1:0", line, isBound, "list", "1",
			"read 1", "abc", "free-pages 0", "7", "free-pages 1", "3", "run 9 9", "0 4")
	}
}

func TestNear(t *testing.T) { // P120: each node is the nearest to itself, then come the others by number
	holds(t, "nodes 4 4 4 4", "ok", // an object a page; one page of each stays, for who is urgent
		"take 0 2", "2:0", "take 0 2", "2:64", "take 0 2", "2:128", "take 0 2", "0:64", "take 0 2", "0:128",
		"take 0 2", "1:0", "take 0 2", "1:64", "take 0 2", "1:128", "take 0 2", "3:0", "take 0 2", "3:64", "take 0 2", "3:128",
		"free-pages 0", "1", "free-pages 1", "1", "free-pages 2", "1", "free-pages 3", "1",
		"take 0 2", "2:192", "take 0 2", "0:192", "take 0 2", "1:192", "take 0 2", "3:192", "take 0 2", isFull, "take 1 0", isFull, "audit", "ok")
	holds(t, "nodes 1 4 4 4", "ok", "take 0 1", "1:0", "take 0 1", "1:64", "take 0 1", "1:128", "take 0 1", "2:0", "take 0 3", "3:0",
		"take 0 0", "2:64")
}

func TestMarks(t *testing.T) { // P120: Min 1, Low 2, High 3
	holds(t, "nodes 8 3", "ok", "take 0 1", "1:128", "take 0 1", "1:0", "take 0 1", "0:64", // Min: behind it at least one
		"reclaim 1", "0", "give 0 0:64", "ok", "free-pages 0", "6", // 0 is not Low: it stays in the magazine
		"give 0 1:0", "ok", "free-pages 1", "2", "take 0 0", "0:64") // 1 was Low: two pages lacked, and the magazine is drained
	holds(t, "nodes 8 4", "ok", "take 0 1", "1:0", "take 0 1", "1:64", "free-pages 1", "2",
		"give 0 1:64", "ok", "free-pages 1", "2", // two are not Low
		"reclaim 1", "1", "free-pages 1", "3", "reclaim 1", "0") // but one lacks
	holds(t, "nodes 8 5", "ok", "take 0 1", "1:256", "take 0 1", "1:0", "take 0 1", "1:64", "take 0 1", "1:128", // Low
		"free-pages 1", "1", "give 0 1:64", "ok", "free-pages 1", "2", "give 0 1:128", "ok", "free-pages 1", "2", "give 0 1:0", "ok",
		"free-pages 1", "2", "reclaim 1", "1", "free-pages 1", "3")
}

func TestMake(t *testing.T) { // P120: a buffer of this text, by this worker, at node 0; its number
	holds(t, "nodes 8 4", "ok", "make 0 a", "1", "read 1", "a", "make 1 0", "2", "read 2", "0",
		"make 0 abcdefghijklmnopqrstuvwxyz0123456789", "3", "read 3", "abcdefghijklmnopqrstuvwxyz0123456789", "make 1 list", "4",
		"read 4", "list", "make 1 00", "5", "read 5", "00", "make 1 99999999", "6", "read 6", "99999999", "list", "1 2 3 4 5 6", "free-pages 0", "5",
		"free-pages 1", "4")
	holds(t, "nodes 4 4", "ok", "make 1 abc", "1", "free 1 1", "ok", "run 11", "0", "make 1 d", "2", "run 27", "0", "make 0 e", "3", "list", "2 3")
}

func TestMakeByWhom(t *testing.T) { // P120: the worker's own magazine is looked into, and no other one's
	// What 1 gave back lies in its magazine, so that worker 0 takes of a page that is new.
	holds(t, "nodes 8", "ok", "make 0 a", "1", "make 0 a", "2", "free-pages 0", "7", "free 1 1", "ok", "make 0 b", "3", "free-pages 0", "6")
	holds(t, "nodes 8", "ok", "make 0 a", "1", "make 0 a", "2", "free-pages 0", "7", "free 1 1", "ok", "make 1 b", "3", "free-pages 0", "7")
	holds(t, "nodes 8", "ok", "make 0 a", "1", "make 0 a", "2", "free-pages 0", "7", "free 0 1", "ok", "make 0 b", "3", "free-pages 0", "7")
	// Of a clone the bytes are written into a new block, likewise.
	holds(t, "nodes 8", "ok", "make 0 a", "1", "make 0 a", "2", "clone 1 0 1", "3", "free 1 2", "ok", "write 0 1 0 b", "ok", "free-pages 0", "6")
	holds(t, "nodes 8", "ok", "make 0 a", "1", "make 0 a", "2", "clone 1 0 1", "3", "free 1 2", "ok", "write 1 1 0 b", "ok", "free-pages 0", "7")
	// What is pulled off lies there, too.
	holds(t, "nodes 8", "ok", "make 0 a", "1", "make 0 a", "2", "pull 1 1 1", "ok", "make 0 b", "3", "free-pages 0", "6")
	holds(t, "nodes 8", "ok", "make 0 a", "1", "make 0 a", "2", "pull 0 1 1", "ok", "make 0 b", "3", "free-pages 0", "7")
}

func TestMakeErrors(t *testing.T) { // P121: the yard's; no number is used up
	a := func(n int) string { return "make 0 " + strings.Repeat("a", n) }
	holds(t, "nodes 16", "ok", a(192), "1", a(193), isMany, a(600), isMany, a(601), isBound, a(200000), isBound, "make 2 a", isBound,
		"make 99999 a", isBound, "parts 1", "12", "len 1", "192", "make 1 b", "2")
	holds(t, "nodes 1", "ok", "make 0 a", "1", "make 0 a", "2", "make 0 a", "3", "make 0 a", "4", "make 0 a", isWait, "free 0 2", "ok",
		"make 0 b", "5")
	var forty []string
	for n := range api.MaxBuffers {
		forty = append(forty, "make 0 a", strconv.Itoa(n+1))
	}
	holds(t, append(append([]string{"nodes 32", "ok"}, forty...), "make 0 a", isFull, "clone 1 0 0", isFull, "split 1 0", isFull,
		"free 0 7", "ok", "split 1 0", "41")...)
}

func TestRead(t *testing.T) { // P120: all its bytes, or that there are none
	holds(t, "nodes 8", "ok", "make 0 abcdefghijklmnopqrstuv", "1", "read 1", "abcdefghijklmnopqrstuv", "clone 1 3 0", "2",
		"read 2", "nothing", "pull 0 1 21", "ok", "read 1", "v", "pull 0 1 1", "ok", "read 1", "nothing", "run 0", "0", "read 3", "nothing",
		"make 0 nothing", "4", "read 4", "nothing", "len 4", "7", "read 0", isStale, "read 5", isStale, "read 99999", isStale)
}

func TestLenAndParts(t *testing.T) { // P120: how many bytes, and parts of 16 bytes at most
	a := func(n int) string { return "make 1 " + strings.Repeat("a", n) }
	holds(t, "nodes 16", "ok", a(1), "1", a(16), "2", a(17), "3", a(100), "4", "run 0", "0", "len 1", "1", "parts 1", "1", "len 2", "16",
		"parts 2", "1", "len 3", "17", "parts 3", "2", "len 4", "100", "parts 4", "7", "len 5", "0", "parts 5", "0", "len 0", isStale,
		"parts 0", isStale, "len 6", isStale, "parts 6", isStale)
}

func TestClone(t *testing.T) { // P120: buffer, at, n
	holds(t, "nodes 8", "ok", "make 0 abcdefghijklmnopqrstuvwxyz", "1", "clone 1 2 20", "2", "read 2", "cdefghijklmnopqrstuv",
		"parts 2", "2", "clone 2 19 1", "3", "read 3", "v", "clone 1 0 26", "4", "clone 1 26 0", "5", "read 5", "nothing",
		"clone 1 0 0", "6", "clone 1 26 1", isBound, "clone 1 27 0", isBound, "clone 1 0 27", isBound, "clone 1 99999 99999", isBound,
		"clone 7 0 0", isStale, "clone 0 0 0", isStale, "list", "1 2 3 4 5 6", "free-pages 0", "7")
	many := []string{"nodes 8", "ok", "make 0 ab", "1"}
	for n := range api.MaxHolders - 1 {
		many = append(many, "clone 1 0 2", strconv.Itoa(n+2))
	}
	holds(t, append(many, "clone 1 0 2", isMany, "clone 16 1 1", isMany, "split 1 1", isMany, "split 1 2", "17", "read 17", "nothing",
		"read 1", "ab")...)
}

func TestSplit(t *testing.T) { // P120: the number of what is from there on
	holds(t, "nodes 8", "ok", "make 0 abcdefghijklmnopqrstuvwxyz", "1", "split 1 20", "2", "read 1", "abcdefghijklmnopqrst",
		"read 2", "uvwxyz", "split 1 0", "3", "read 1", "nothing", "read 3", "abcdefghijklmnopqrst", "split 2 6", "4", "read 4", "nothing",
		"split 2 7", isBound, "split 1 1", isBound, "split 5 0", isStale, "list", "1 2 3 4")
}

func TestJoin(t *testing.T) { // P120: the second one goes behind the first one
	holds(t, "nodes 16", "ok", "make 0 abc", "1", "make 0 def", "2", "join 2 1", "ok", "read 2", "defabc", "list", "2", "read 1", isStale,
		"join 2 1", isStale, "join 1 2", isStale, "join 2 2", isHeld, "join 3 3", isStale, "make 0 "+strings.Repeat("a", 176), "3",
		"parts 3", "11", "join 2 3", isMany, "join 3 2", isMany, "read 2", "defabc", "list", "2 3")
}

func TestJoinOfTooMany(t *testing.T) { // P121: parts are as many as a buffer may have ahead of its bytes
	holds(t, "nodes 32", "ok", "make 0 "+strings.Repeat("a", 192), "1", "make 0 "+strings.Repeat("b", 192), "2", "join 1 2", isMany,
		"len 1", "192", "list", "1 2")
}

func TestWrite(t *testing.T) { // P120: worker, buffer, at; in a clone nothing is seen of it
	holds(t, "nodes 8", "ok", "make 0 abcdefghijklmnopqrstuvwxyz", "1", "clone 1 10 10", "2", "write 1 2 0 00", "ok",
		"read 2", "00mnopqrst", "read 1", "abcdefghijklmnopqrstuvwxyz", "write 0 1 24 99", "ok", "read 1", "abcdefghijklmnopqrstuvwx99",
		"write 0 1 14 qqqqq", "ok", "read 1", "abcdefghijklmnqqqqqtuvwx99", "read 2", "00mnopqrst", "write 0 1 25 99", isBound,
		"write 0 1 26 z", isBound, "write 0 1 99999 z", isBound, "write 0 3 0 z", isStale, "write 0 0 0 z", isStale, "clone 1 0 26", "3",
		"write 2 1 0 z", isBound, "write 9 3 0 z", isBound, "read 1", "abcdefghijklmnqqqqqtuvwx99", "read 3", "abcdefghijklmnqqqqqtuvwx99")
	holds(t, "nodes 1", "ok", "make 0 a", "1", "make 0 b", "2", "make 0 c", "3", "make 0 d", "4", "clone 1 0 1", "5",
		"write 0 1 0 z", isWait, "write 0 2 0 z", "ok", "read 1", "a", "read 2", "z", "read 5", "a")
}

func TestWriteAtNode0(t *testing.T) { // P120: no line names the node of bytes: it is 0
	holds(t, "nodes 8 8", "ok", "make 0 abcdefghijklmnopqrstuvwxyz", "1", "make 1 abcdefghijklmnopqrstuvwxyz", "2", "clone 2 0 26", "3",
		"write 1 3 0 abcdefghijklmnopqrstuvwxyz", "ok", "free-pages 0", "6", "free-pages 1", "8")
}

func TestPull(t *testing.T) { // P120: worker, buffer, n
	holds(t, "nodes 8", "ok", "make 0 abcdefghijklmnopqrstuvwxyz", "1", "pull 1 1 3", "ok", "read 1", "defghijklmnopqrstuvwxyz",
		"pull 0 1 0", "ok", "parts 1", "2", "pull 0 1 13", "ok", "parts 1", "1", "read 1", "qrstuvwxyz", "pull 0 1 11", isBound,
		"pull 2 1 0", isBound, "pull 0 2 0", isStale, "pull 2 2 99", isStale, "pull 0 1 10", "ok", "read 1", "nothing", "list", "1")
}

func TestFree(t *testing.T) { // P120: worker, buffer
	holds(t, "nodes 8", "ok", "make 0 a", "1", "make 0 b", "2", "free 2 1", isBound, "free 3 7", isStale, "free 0 0", isStale,
		"list", "1 2", "free 1 1", "ok", "list", "2", "free 0 1", isStale, "read 1", isStale, "free 0 2", "ok", "list", "nothing",
		"make 0 c", "3", "list", "3")
}

func TestList(t *testing.T) { // P120: rising, with a blank between
	many := []string{"nodes 8", "ok", "list", "nothing"}
	want := "1"
	for n := range 12 {
		many = append(many, "run 0", "0", "list", want)
		want += " " + strconv.Itoa(n+2)
	}
	holds(t, append(many, "free 0 1", "ok", "free 0 5", "ok", "list", "2 3 4 6 7 8 9 10 11 12")...)
}

func TestTake(t *testing.T) { // P120: worker, node: an object of 40 bytes, by its node and place
	holds(t, "nodes 8 4", "ok", "take 0 1", "1:0", "free-pages 1", "3", "take 1 0", "0:64", "free-pages 0", "6", "take 2 0", isBound,
		"take 0 2", isBound, "take 2 9", isBound, "take 1 0", "0:128", "audit", "ok", "take 0 0", "0:192")
	holds(t, "nodes 2", "ok", "take 0 0", "0:64", "take 1 0", isFull, "take 0 1", isBound, "give 1 0:64", "ok", "take 1 0", "0:64")
	holds(t, "nodes 256 256", "ok", "run"+strings.Repeat(" 24", 255), strings.Repeat("0 ", 254)+"0", "take 0 1", "0:64", "take 1 1", "0:128")
}

func TestTakeAsksBack(t *testing.T) { // P120: it is the house's: where pages lack they are asked back, and the last one is had
	holds(t, "nodes 4", "ok", "take 0 0", "0:64", "take 0 0", "0:128", "free-pages 0", "1", "take 0 0", "0:192", "free-pages 0", "0",
		"take 0 0", isFull)
	holds(t, "nodes 4", "ok", "take 0 0", "0:64", "give 1 0:64", "ok", "make 0 "+strings.Repeat("a", 48), "1", "free-pages 0", "1", // 0:64 lies in worker 1's magazine
		"take 0 0", "0:64", "free-pages 0", "1", "audit", "ok")
}

func TestGive(t *testing.T) { // P120: worker, object: it lies in the worker's magazine then
	holds(t, "nodes 8 4", "ok", "take 0 1", "1:0", "give 0 1:0", "ok", "give 0 1:0", isStale, "give 2 1:0", isBound, "take 1 1", "1:64",
		"take 0 0", "1:0", "give 1 1:0", "ok", "take 0 0", "0:64", "take 1 0", "1:0", "audit", "ok")
	holds(t, "nodes 8 4", "ok", "take 0 1", "1:0", "give 0 0:0", isStale, "give 0 0:16", isStale, "give 0 1:1", isStale,
		"give 0 1:64", isStale, "give 0 0:64", isStale, "give 0 4:0", isStale, "give 0 99999:99999", isStale, "give 2 9:9", isBound,
		"give 1 1:0", "ok")
}

func TestGiveAsksBack(t *testing.T) { // P120: it is the house's: where its node is Low pages are asked back
	holds(t, "nodes 4", "ok", "take 0 0", "0:64", "take 0 0", "0:128", "free-pages 0", "1", "give 0 0:128", "ok", "free-pages 0", "2",
		"give 0 0:64", "ok", "free-pages 0", "2")
}

func TestLoose(t *testing.T) { // P120: what is taken is loose, in order, and not any more once it is given
	holds(t, "nodes 8 4", "ok", "take 0 1", "1:0", "run 9", "0", "give 0 1:0", isStale, "run 9", "4")
	holds(t, "nodes 8 4", "ok", "take 0 1", "1:0", "give 0 1:0", "ok", "run 9", "4")
	holds(t, "nodes 8 4", "ok", "run 8", "0", "give 1 0:64", "ok", "run 9", "4")
	holds(t, "nodes 8", "ok", "take 0 0", "0:64", "run 8", "0", "take 0 0", "0:192", "run 25", "0", "give 0 0:128", isStale,
		"give 0 0:64", "ok", "run 9", "0", "give 0 0:192", isStale, "run 9", "4")
	holds(t, "nodes 8", "ok", "take 0 0", "0:64", "take 0 0", "0:128", "take 0 0", "0:192", "give 0 0:128", "ok", "run 25", "0",
		"give 0 0:192", isStale, "give 0 0:64", "ok")
	holds(t, "nodes 8", "ok", "take 0 0", "0:64", "give 2 0:64", isBound, "give 0 0:65", isStale, "run 9 9", "0 4") // what is refused stays loose
	holds(t, "nodes 2", "ok", "take 0 0", "0:64", "take 0 0", isFull, "run 9 9", "0 4")                             // nor is anything that was not had
}

func TestReclaim(t *testing.T) { // P120: of the node: how many pages came
	holds(t, "nodes 8 5", "ok", "take 0 1", "1:256", "take 0 1", "1:0", "take 0 1", "1:64", "give 0 1:0", "ok", "give 1 1:64", "ok",
		"free-pages 1", "2", "reclaim 0", "0", "reclaim 1", "1", "free-pages 1", "3", "reclaim 1", "0", "reclaim 2", isBound,
		"reclaim 99999", isBound, "audit", "ok")
	holds(t, "nodes 5", "ok", "take 0 0", "0:0", "take 0 0", "0:64", "give 0 0:0", "ok", "give 0 0:64", "ok", "free-pages 0", "2",
		"reclaim 0", "1", "reclaim 0", "0")
}

func TestRun(t *testing.T) { // P120: Run's answers
	holds(t, "nodes 8 4", "ok", "run 7 7 7", "4 4 4", "run 208", "0", "read 1", "b13b13b13", "run 1 35 37", "0 0 0", "list", "1 2 3",
		"read 3", "3bwww13", "read 1", "b1", "run 20 4", "0 6", "read 1", "b1b13b13b13", "run 99999 99999", "0 0",
		"run 0 1 2 3 4 5 6 7 8 9 10 11 12 13 14 15", "0 0 0 0 6 0 0 0 0 0 0 0 0 0 0 0", "audit", "ok")
}

func TestRunOfMany(t *testing.T) { // P120, P101: 2000 numbers are answered; those behind them are not
	for _, x := range []struct{ n, want int }{{1, 1}, {1999, 1999}, {2000, 2000}, {2001, 2000}, {30000, 2000}} {
		holds(t, "nodes 8", "ok", "run"+strings.Repeat(" 12", x.n)+" 16", strings.Repeat("0 ", min(x.n+1, 2000)-1)+"0",
			"list", map[bool]string{true: "1", false: "nothing"}[x.n < 2000])
	}
}

func TestNoneYet(t *testing.T) { // P121: ahead of all but what of the line is text; what is asked changes nothing
	for name, line := range names() {
		if name == "nodes" {
			continue
		}
		holds(t, line, isNone, line+"!", isText, "nodes 257", isBound, line, isNone, "nodes 8", "ok", "list", "nothing",
			"free-pages 0", "7", "run 9", "4")
	}
	for _, line := range []string{
		"make 9 a", "make 0 " + strings.Repeat("a", 700), "clone 0 99999 99999", "split 0 99999", "join 0 0", "write 9 0 99999 a", "pull 9 0 99999",
		"free 9 0", "read 0", "len 0", "parts 0", "free-pages 99999", "take 9 9", "give 9 9:9", "reclaim 99999", "run 99999",
	} {
		holds(t, line, isNone, "nodes 0", isBound, line, isNone)
	}
}

// strange words: none of them is a number, nor a text.
func strange() []string {
	return []string{"", "-1", "-0", "+1", "1.", "1,", "1\t", "\t1", "1\n", "1\r", "1_0", "1:", ":1", ":", "N", "A", "a-b", "a_b", "\x00", "\x7f",
		"\u00e9", "\u0663", "\uff11", "\u00a0", "\xff", "1\xff", "..", "{", "`", "/", "@", "[", "1;"}
}

func TestStrangeWords(t *testing.T) { // P120, P121: in the place of each word of each command
	for name, line := range names() {
		words := strings.Split(line, " ")
		for i := range words {
			for _, word := range strange() {
				l := slices.Clone(words)
				l[i] = word
				bad := strings.Join(l, " ")
				if name == "nodes" || name == "run" {
					holds(t, bad, isText, bad+" 1", isText)
				}
				holds(t, bad, isText, "nodes 4", "ok", bad, isText, "list", "nothing")
			}
		}
	}
}

func TestNumbers(t *testing.T) { // P120: digits, at most five, without needless zeros
	for name, line := range names() {
		words := strings.Split(line, " ")
		for i, word := range words[1:] {
			if !strings.ContainsAny(word, "0123456789") {
				continue
			}
			for _, bad := range []string{"00", "01", "007", "00000", "09999", "100000", "999999", "000001", "9999999999",
				"18446744073709551616", strings.Repeat("9", 400), "a", "1a", "a1", "1e1", "0x1", "0b1", "0o7"} {
				l := slices.Clone(words)
				l[i+1] = bad
				node, at, two := strings.Cut(word, ":")
				if two {
					l[i+1] = node + ":" + bad
					holds(t, "nodes 4", "ok", strings.Join(l, " "), isText)
					l[i+1] = bad + ":" + at
				}
				holds(t, "nodes 4", "ok", strings.Join(l, " "), isText, "list", "nothing")
			}
			for _, good := range []string{"0", "9", "10", "99", "100", "999", "1000", "9999", "10000", "99999"} {
				l := slices.Clone(words)
				l[i+1] = good
				if strings.Contains(word, ":") {
					l[i+1] = good + ":" + good
				}
				if got := run(t, []string{"nodes 4", strings.Join(l, " ")})[1]; got == isText {
					t.Error(name, l)
				}
			}
		}
	}
}

func TestText(t *testing.T) { // P120: small letters and digits, some; nothing else, whatever the byte is
	for b := range 256 {
		for _, text := range []string{string([]byte{byte(b)}), "a" + string([]byte{byte(b)}), string([]byte{byte(b), 'z'}),
			"0" + string([]byte{byte(b), '9'})} {
			want := isText
			if b >= 'a' && b <= 'z' || b >= '0' && b <= '9' {
				want = "1"
			}
			holds(t, "nodes 4", "ok", "make 0 "+text, want)
			if want == "1" {
				holds(t, "nodes 4", "ok", "make 0 "+text, "1", "read 1", text, "write 0 1 0 "+text, "ok", "read 1", text)
			}
		}
	}
	for _, r := range "\u00aa\u00b2\u00df\u00e9\u03b1\u0660\u0966\u2460\uff10\uff41\U0001d7ce\ufffd" {
		holds(t, "nodes 4", "ok", "make 0 "+string(r), isText, "make 0 a"+string(r), isText)
	}
}

func TestHowManyWords(t *testing.T) { // P120, P121: just so many, with one blank between
	for name, line := range names() {
		words := strings.Split(line, " ")
		bad := []string{" " + line, line + " ", "  " + line, line + "  ", strings.ToUpper(name) + line[len(name):], line[1:],
			"x" + line, name + "s" + line[len(name):], name + ":" + line[len(name):],
			line + "\n", line + "\t", "\n" + line, line + "\x00", name + " ", name + " " + line}
		for i := 1; i < len(words); i++ {
			front, back := strings.Join(words[:i], " "), strings.Join(words[i:], " ")
			bad = append(bad, front+"  "+back, front+"\t"+back, front+back)
		}
		if name != "nodes" && name != "run" {
			for i := range words[1:] {
				bad = append(bad, strings.Join(slices.Delete(slices.Clone(words), i+1, i+2), " "))
			}
			bad = append(bad, line+" 1", line+" a", line+" 0:64")
		}
		if len(words) > 1 {
			bad = append(bad, name)
		}
		for _, b := range bad {
			if b == "nodes 84" || b == "run 80" { // two numbers put together are a number
				continue
			}
			holds(t, b, isText, "nodes 8", "ok", b, isText, "list", "nothing", "free-pages 0", "7", "run 9", "4")
		}
	}
}

func TestNoLine(t *testing.T) { // P121: what is none of the commands
	for _, line := range []string{
		"", " ", "  ", "what", "1", "ok", "nothing", "node 8", "free-page 0", "free_pages 0", "freepages 0", "free pages 0", "free-pages", "nodes\t8",
		"nodes,8", "LIST", "List", "list list", "list audit", "list 1",
		"audit 0", "run", "run 1 a", "run 1  2", "run a", "run 1:2", "run 1 100000", "nodes", "nodes ", "nodes 1 ", "nodes 1:2", "nodes 1 a",
		"nodes a 1", "give 0 1", "give 0 1 2", "give 0 1:", "give 0 :1", "give 0 :",
		"give 0 1:2:3", "give 0 1:2:", "give 0 :1:2", "give 0 ::", "give 0:1 2", "give 0:1", "give 0 1 :2", "give 0 01:2", "give 0 1:02", "take 0:1", "take 0", "make a 0 ",
		"make 0 a b", "make a", "make 0", "make a a", "write 0 1 2", "write 0 1 a a", "write 0 1 2 ",
		"write 0 1 2 a b", "clone 1 0", "clone 1 0 a", "pull 0 1", "free 1", "\xff", "l\x00ist", "\ufefflist", "list\u00a0",
	} {
		holds(t, line, isText, "nodes 8", "ok", line, isText, "list", "nothing")
	}
}

func TestMadeIsRead(t *testing.T) { // P122: of each length that there may be
	const letters = "0abcdefghijklm1nopqrstuvwxyz23456789"
	for n := 1; n <= 192; n++ {
		text := strings.Repeat(letters, 6)[n%7:][:n]
		made, parts := "make "+strconv.Itoa(n%2)+" "+text, strconv.Itoa((n+15)/16)
		holds(t, "nodes 16 3", "ok", made, "1", "read 1", text, "len 1", strconv.Itoa(n), "parts 1", parts, made, "2",
			"write 0 1 0 "+strings.Repeat("z", n), "ok", "read 2", text, "free 0 1", "ok", made, "3", "read 3", text,
			"clone 3 0 "+strconv.Itoa(n), "4", "free 1 3", "ok", "read 4", text, "audit", "ok")
	}
}

func TestWhatEndsAlways(t *testing.T) { // P1: long lines, and many of them
	for _, line := range []string{strings.Repeat(" ", 100000), strings.Repeat("a", 100000), strings.Repeat("a ", 50000),
		"list" + strings.Repeat(" ", 100000), "make 0 " + strings.Repeat("a", 1000000) + "A",
		"give 0 " + strings.Repeat(":", 100000), "run " + strings.Repeat("9", 100000), "nodes" + strings.Repeat(" 1", 100000) + " a"} {
		holds(t, line, isText, "nodes 8", "ok", line, isText)
	}
	var numbers []string
	for n := range api.MaxSteps {
		numbers = append(numbers, strconv.Itoa(n*977%100000))
	}
	lines := slices.Repeat([]string{"run " + strings.Join(numbers, " ")}, api.MaxLines)
	lines[0] = "nodes 256 256 256 256"
	a, b := run(t, lines), run(t, lines)
	if !slices.Equal(a, b) { // P2
		t.Error("not the same")
	}
	for i, answer := range a[1:] {
		if n := len(strings.Fields(answer)); n != api.MaxSteps || strings.TrimSpace(answer) != answer {
			t.Error(fmt.Sprint("line ", i+1, ": ", n, " answers"))
		}
	}
}
