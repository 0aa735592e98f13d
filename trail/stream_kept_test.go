package trail

import (
	"runtime"
	"slices"
	"strconv"
	"strings"
	"sync"
	"testing"
	"unsafe"

	"trail/api"
)

// P1, of streams: what one hangs on, and what it keeps.

func TestStreamAnswersNewLists(t *testing.T) {
	const text = `[[1,2],[{"a":3}],4,[5,[6]],7,[8]]`
	for _, query := range []string{"$..*", "$[*][-1]", "$..[?@]", "$[*,0]"} {
		q := compiled(t, query)
		for size := 1; size <= len(text); size++ {
			lists := toldBy(q, text, size)
			want := toldBy(q, text, size)
			for i := range lists {
				if !slices.Equal(lists[i], want[i]) {
					t.Fatalf("P1: %s by %d: list %d is %v, want %v", query, size, i, lists[i], want[i])
				}
				writeFull(lists[i])
			}
		}
	}
}

// toldBy has the lists that a stream tells of a text in pieces of a size.
func toldBy(q *Query, text string, size int) [][]api.Match {
	s := q.Stream()
	var lists [][]api.Match
	for piece := range slices.Chunk([]byte(text), size) {
		told, _, _ := s.Feed(string(piece))
		lists = append(lists, told)
	}
	return lists
}

// TestStreamWrittenInto: each list is written full as soon as it has come out.
func TestStreamWrittenInto(t *testing.T) {
	const text = `[[1,2],[{"a":3}],4,[5,[6]],7,[8]]`
	for _, query := range []string{"$..*", "$[*][-1]", "$..[?@]", "$[*,0]"} {
		q := compiled(t, query)
		want := streamed(t, q, text)
		s := q.Stream()
		var all []api.Match
		for at := range len(text) {
			told, _, _ := s.Feed(text[at : at+1])
			all = append(all, told...)
			writeFull(told)
		}
		if len(want) == 0 || !slices.Equal(all, want) {
			t.Errorf("P1: %s: %v, want %v", query, all, want)
		}
	}
}

// writeFull writes into a list and into its spare room.
func writeFull(told []api.Match) {
	spare := told[:cap(told)]
	for i := range spare {
		spare[i] = api.Match{Node: api.Node{Path: "written", From: -1, To: -1}, Times: -1}
	}
}

func TestStreamsSideBySide(t *testing.T) {
	texts := []string{"[[1,2],[3]]", `{"a":[[4]],"b":[5,6]}`, "[[1,2", "[x", "7"}
	for _, query := range []string{"$.*", "$..*", "$.*[-1]", "$..[?@<4]"} {
		q := compiled(t, query)
		var streams []*Stream
		for range texts {
			streams = append(streams, q.Stream())
		}
		got := make([][]api.Match, len(texts))
		for at := range 30 {
			for i, text := range texts {
				if at < len(text) {
					told, _, _ := streams[i].Feed(text[at : at+1])
					got[i] = append(got[i], told...)
					writeFull(told)
				}
			}
		}
		for i, text := range texts {
			told, errno, at := streams[i].Close()
			alone, want, _, _ := fed(q, text)
			toldAlone, errnoAlone, atAlone := alone.Close()
			if !slices.Equal(append(got[i], told...), append(want, toldAlone...)) || errno != errnoAlone || at != atAlone {
				t.Errorf("P1: %s of %q: %v, %v, %d at %d, alone %v, %v, %d at %d", query, text, got[i], told, errno, at, want, toldAlone, errnoAlone, atAlone)
			}
		}
	}
}

func TestStreamsAtTheSameTime(t *testing.T) {
	q := compiled(t, "$..a[?@<2,-1]")
	const text = `{"a":[0,1,2],"b":{"a":[{"a":[1]}]}}`
	want := streamed(t, q, text)
	got := make([][]api.Match, 8)
	var all sync.WaitGroup
	for i := range got {
		all.Go(func() {
			for range 50 {
				got[i] = streamed(t, q, text[:i+1], text[i+1:])
			}
		})
	}
	all.Wait()
	for _, told := range got {
		if len(want) == 0 || !slices.Equal(told, want) {
			t.Errorf("P1: %v, want %v", told, want)
		}
	}
}

func TestStreamLeavesNoGoroutine(t *testing.T) {
	before := runtime.NumGoroutine()
	for _, text := range []string{"[1,[2,3]]", "[1", "[1,x", "[[[[[[[[["} {
		for range 100 {
			s, _, _, _ := fed(compiled(t, "$..[?@]"), text[:1], text[1:])
			if n := runtime.NumGoroutine(); n > before {
				t.Fatalf("P1: %d goroutines behind Feed of %q, %d before", n, text, before)
			}
			s.Close()
		}
	}
	if n := runtime.NumGoroutine(); n > before {
		t.Errorf("P1: %d goroutines behind Close, %d before", n, before)
	}
}

// TestStreamKeepsNoPiece: each piece stands in memory that is written over behind the call.
func TestStreamKeepsNoPiece(t *testing.T) {
	const text = `{"some name":[1,"abc",{"other":"abc"}],"x":[true,"abd","abc"]}`
	for _, query := range []string{"$..*", "$.*[?@=='abc'||@.other=='abc']", "$..[-1]"} {
		q := compiled(t, query)
		want := streamed(t, q, text)
		for size := 1; size <= len(text); size++ {
			s := q.Stream()
			var all []api.Match
			for piece := range slices.Chunk([]byte(text), size) {
				told, _, _ := s.Feed(unsafe.String(&piece[0], len(piece)))
				all = append(all, told...)
				copy(piece, strings.Repeat("?", len(piece)))
			}
			if len(want) == 0 || !slices.Equal(all, want) {
				t.Fatalf("P1: %s by %d: %v, want %v", query, size, all, want)
			}
		}
	}
}

func heldBytes() int {
	runtime.GC()
	var m runtime.MemStats
	runtime.ReadMemStats(&m)
	return int(m.HeapAlloc)
}

// TestStreamKeepsLittle: of what is closed nothing is kept, but for what a holder that is open needs.
func TestStreamKeepsLittle(t *testing.T) {
	const many, bound = 2000, 200000
	for _, c := range []struct{ query, begin, piece string }{
		{"$[*]", "[0", strings.Repeat(",1", 100)},
		{"$..a", "[0", strings.Repeat(`,{"a":[1,2]}`, 20)},
		{"$[*][-1]", "[0", strings.Repeat(",[1,2,[3]]", 20)},
		{"$.a[?@]", `{"b":[0`, strings.Repeat(",[1,2,[3]]", 20)},
		{"$..a[-1]", "{\"b\":0", strings.Repeat(`,"a":[1,2]`, 20)},
		{"$", `"`, strings.Repeat("x", 200)},
		{"$[?@=='x']", `["`, strings.Repeat("x", 200)},
	} {
		s := compiled(t, c.query).Stream()
		expectFed(t, s, c.begin, "", api.OK, 0)
		before := heldBytes()
		for range many {
			if _, errno, at := s.Feed(c.piece); errno != api.OK {
				t.Fatalf("P5: %s: %d at %d", c.query, errno, at)
			}
		}
		if grown := heldBytes() - before; grown > bound {
			t.Errorf("P1: %s: %d bytes are kept", c.query, grown)
		}
		runtime.KeepAlive(s)
	}
}

// TestStreamLetsGo: behind the end, or an error, nothing of the text is kept.
func TestStreamLetsGo(t *testing.T) {
	const many, bound = 100000, 200000
	for _, end := range []string{"]", "x"} {
		s := compiled(t, "$[-1]").Stream()
		before := heldBytes()
		s.Feed("[0")
		for range many / 100 {
			s.Feed(strings.Repeat(",1", 100))
		}
		if grown := heldBytes() - before; grown < bound {
			t.Fatalf("the text is too short to tell: %d bytes", grown)
		}
		s.Feed(end)
		if grown := heldBytes() - before; grown > bound {
			t.Errorf("P1: behind %q: %d bytes are kept", end, grown)
		}
		runtime.KeepAlive(s)
	}
}

func TestStreamOfLongTexts(t *testing.T) {
	const many = 200000
	list := "[" + strings.Repeat("1,", many-1) + "1]"
	last := api.Match{Node: api.Node{Path: "$[" + strconv.Itoa(many-1) + "]", From: 2*many - 1, To: 2 * many}, Times: 1}
	for _, query := range []string{"$[*]", "$[?@]"} {
		told := streamed(t, compiled(t, query), list[:many], list[many:])
		if len(told) != many || told[many-1] != last {
			t.Errorf("P5: %s: %d matches", query, len(told))
		}
	}
	if told := streamed(t, compiled(t, "$[-1]"), list); !slices.Equal(told, []api.Match{last}) {
		t.Errorf("P5: $[-1]: %v", told)
	}
	s := compiled(t, "$").Stream()
	expectFed(t, s, strings.Repeat(" ", many)+`"`+strings.Repeat("e", many), "", api.OK, 0)
	expectFed(t, s, `"`, "$ 200000-400002 x1", api.OK, 0)
	expectFed(t, s, strings.Repeat("\n", many)+"[", "", api.ErrForm, 600002)
	expectEnded(t, s, "", api.ErrForm, 600002)
}
