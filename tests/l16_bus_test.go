package tests

import (
	"bytes"
	"go/ast"
	"go/parser"
	"go/token"
	"math"
	"math/rand"
	"runtime"
	"slices"
	"sync"
	"testing"
	"time"

	"loop.example/g00063/impl"
)

var (
	linkBounds = bounded{"Link", 1, 255}
	seqBounds  = bounded{"Seq", 0, 255}
	nextBounds = bounded{"Next", -1, 255}
	skewBounds = bounded{"Skew", 1, 100}
)

func word16(link, seq int, data ...byte) impl.Word16 {
	return impl.Word16{Link: link, Seq: seq, Data: data}
}

func receiver(link, next, skew int) impl.Receiver {
	return impl.Receiver{Link: link, Next: next, Skew: skew}
}

// pay has so many bytes, none of them like the one ahead.
func pay(many int) []byte {
	data := make([]byte, many)
	for i := range data {
		data[i] = byte(200 + 37*i)
	}
	return data
}

func sameWord(a, b impl.Word16) bool {
	return a.Link == b.Link && a.Seq == b.Seq && bytes.Equal(a.Data, b.Data)
}

func sameWords(a, b []impl.Word16) bool { return slices.EqualFunc(a, b, sameWord) }

func isZeroWord(w impl.Word16) bool { return sameWord(w, impl.Word16{}) }

func wordIsSo(w impl.Word16) bool {
	return linkBounds.has(w.Link) && seqBounds.has(w.Seq) && len(w.Data) < 33
}

func receiverIsSo(r impl.Receiver) bool {
	return linkBounds.has(r.Link) && nextBounds.has(r.Next) && skewBounds.has(r.Skew)
}

// sumByWords lets the sum grow in whole numbers and takes its lowest eight bits.
func sumByWords(ahead []byte) byte {
	sum := 0
	for _, b := range ahead {
		sum = (sum*3 + int(b)) & 0xFF
	}
	return byte(sum)
}

func summed(ahead ...byte) []byte { return append(slices.Clone(ahead), sumByWords(ahead)) }

func putByWords(w impl.Word16) ([]byte, bool) {
	if !wordIsSo(w) {
		return nil, false
	}
	return summed(append([]byte{byte(w.Link), byte(w.Seq), byte(len(w.Data))}, w.Data...)...), true
}

// getByWords asks in the order of the document, one by one.
func getByWords(frame []byte) (impl.Word16, int) {
	if len(frame) < 4 {
		return impl.Word16{}, impl.GetShort
	}
	many := int(frame[2])
	if many > 32 {
		return impl.Word16{}, impl.GetLong
	}
	if len(frame) < many+4 {
		return impl.Word16{}, impl.GetShort
	}
	if len(frame) > many+4 {
		return impl.Word16{}, impl.GetLong
	}
	if frame[0] == 0 {
		return impl.Word16{}, impl.GetLink
	}
	if sumByWords(frame[:many+3]) != frame[many+3] {
		return impl.Word16{}, impl.GetSum
	}
	return word16(int(frame[0]), int(frame[1]), frame[3:many+3]...), impl.GetWell
}

func seqBehind(seq int) int {
	if seq == 255 {
		return 0
	}
	return seq + 1
}

// acceptByWords goes from Next on, sequence by sequence, until it is at the word's.
func acceptByWords(r impl.Receiver, w impl.Word16) (impl.Receiver, bool, int) {
	if !receiverIsSo(r) || !wordIsSo(w) || w.Link != r.Link {
		return r, false, 0
	}
	missed := 0
	if r.Next != -1 {
		for seq := r.Next; seq != w.Seq; seq = seqBehind(seq) {
			missed++
		}
	}
	if missed > r.Skew-1 {
		return r, false, 0
	}
	return receiver(r.Link, seqBehind(w.Seq), r.Skew), true, missed
}

// bothByWords goes by the places that both networks have.
func bothByWords(r impl.Receiver, a, b [][]byte) ([]impl.Word16, int, impl.Receiver) {
	if len(a) > 200 || len(b) > 200 {
		return nil, 0, r
	}
	var frames [][]byte
	for i := range 200 {
		if i < len(a) {
			frames = append(frames, a[i])
		}
		if i < len(b) {
			frames = append(frames, b[i])
		}
	}
	var words []impl.Word16
	sum := 0
	for _, f := range frames {
		w, code := getByWords(f)
		next, took, missed := acceptByWords(r, w)
		if code == impl.GetWell && took {
			words, sum, r = append(words, w), sum+missed, next
		}
	}
	return words, sum, r
}

func planIsSo(plan []int) bool {
	return len(plan) > 0 && len(plan) < 41 && allIn(plan, 0, 255)
}

// gapByWords lays the plan three times in a row, and looks from each slot of the
// middle one for the next.
func gapByWords(plan []int, link int) (int, bool) {
	if !planIsSo(plan) || link == 0 || !slices.Contains(plan, link) {
		return 0, false
	}
	rows := slices.Repeat(plan, 3)
	greatest := 0
	for i := len(plan); i < 2*len(plan); i++ {
		if rows[i] == link {
			greatest = max(greatest, 1+slices.Index(rows[i+1:], link))
		}
	}
	return greatest, true
}

func putOf(t *testing.T, w impl.Word16) []byte {
	t.Helper()
	frame, ok := impl.Put16(w)
	if !ok {
		t.Fatal("refused:", w)
	}
	return frame
}

// reads also holds that a fault leaves nothing beside it.
func reads(t *testing.T, name string, frame []byte, want int) {
	t.Helper()
	w, code := impl.Get16(frame)
	if code != want {
		t.Errorf("%s: %v: %d, not %d", name, frame, code, want)
	}
	if code != impl.GetWell && !isZeroWord(w) {
		t.Errorf("%s: %v: %v beside %d", name, frame, w, code)
	}
}

func TestLimitsOfBuses(t *testing.T) {
	codes := []int{impl.GetWell, impl.GetShort, impl.GetLong, impl.GetLink, impl.GetSum}
	if impl.MaxPay != 32 || impl.MaxBus != 200 || !slices.Equal(codes, []int{0, 1, 2, 3, 4}) {
		t.Error(impl.MaxPay, impl.MaxBus, codes)
	}
}

func TestWordOkAndPutAtBounds(t *testing.T) {
	holds := func(w impl.Word16, want bool) {
		t.Helper()
		if impl.WordOk(w) != want {
			t.Errorf("%v: %v", w, !want)
		}
		frame, ok := impl.Put16(w)
		if ok != want || !want && len(frame) != 0 {
			t.Errorf("%v: put %v %v", w, frame, ok)
		}
		if wantFrame, _ := putByWords(w); !bytes.Equal(frame, wantFrame) {
			t.Errorf("%v: put %v, not %v", w, frame, wantFrame)
		}
	}
	for _, link := range []int{1, 2, 254, 255} {
		holds(word16(link, 7, 9), true)
	}
	for _, seq := range []int{0, 1, 254, 255} {
		holds(word16(7, seq, 9), true)
	}
	for _, many := range []int{0, 1, 31, 32} {
		holds(word16(7, 9, pay(many)...), true)
	}
	for _, many := range []int{33, 34, 255, 256, 257, 1000} {
		holds(word16(7, 9, pay(many)...), false)
	}
	for _, n := range append(linkBounds.beyond(), -255, 257, 512) {
		holds(word16(n, 9), false)
		holds(word16(n, 9, pay(32)...), false)
	}
	for _, n := range append(seqBounds.beyond(), -256, 257, 511) {
		holds(word16(7, n), false)
		holds(word16(7, n, pay(32)...), false)
	}
	holds(impl.Word16{}, false)
	holds(impl.Word16{Link: 1}, true)
	holds(impl.Word16{Link: 1, Data: []byte{}}, true)
}

func TestPutByHand(t *testing.T) {
	cases := []struct {
		word impl.Word16
		want []byte
	}{
		{word16(1, 0), []byte{1, 0, 0, 9}},
		{word16(1, 2), []byte{1, 2, 0, 15}},
		{word16(1, 2, 3), []byte{1, 2, 1, 3, 51}},
		// 255, then 765 and 255 are 1020, which is 252, and three times that is 756, which is 244.
		{word16(255, 255), []byte{255, 255, 0, 244}},
		// 28, then 84 and 1 are 85, and three times that is just 255; and 1 more just 0.
		{word16(28, 1), []byte{28, 1, 0, 255}},
		{word16(28, 1, 0), []byte{28, 1, 1, 0, 0}},
		{word16(28, 1, 1), []byte{28, 1, 1, 1, 1}},
		// 255, 252, then 758 is 246, 993 is 225, 930 is 162.
		{word16(255, 255, 255, 255), []byte{255, 255, 2, 255, 255, 162}},
		// 200, then 700 is 188, 567 is 55, then 165, 495 is 239, 717 is 205.
		{word16(200, 100, 0, 0, 0), []byte{200, 100, 3, 0, 0, 0, 205}},
	}
	for _, c := range cases {
		if got, ok := impl.Put16(c.word); !ok || !bytes.Equal(got, c.want) {
			t.Errorf("%v: %v %v, not %v", c.word, got, ok, c.want)
		}
	}
}

func TestGetByHand(t *testing.T) {
	whole := func(link, seq byte, many int) []byte {
		return summed(append([]byte{link, seq, byte(many)}, pay(many)...)...)
	}
	other := func(frame []byte) []byte {
		frame[len(frame)-1]++
		return frame
	}
	withMany := func(many byte, behind int) []byte { return append([]byte{5, 6, many}, pay(behind)...) }
	cases := []struct {
		name  string
		frame []byte
		want  int
	}{
		{"nothing", nil, impl.GetShort},
		{"no byte", []byte{}, impl.GetShort},
		{"one byte", []byte{1}, impl.GetShort},
		{"two bytes", []byte{1, 2}, impl.GetShort},
		{"three bytes", []byte{1, 2, 0}, impl.GetShort},
		{"three bytes, many too great", []byte{1, 2, 33}, impl.GetShort},
		{"three bytes, the link 0", []byte{0, 2, 0}, impl.GetShort},
		{"three bytes of another sum", []byte{1, 2, 9}, impl.GetShort},
		{"four bytes", []byte{1, 2, 0, 15}, impl.GetWell},
		{"four bytes that ask for more", []byte{1, 2, 1, 16}, impl.GetShort},
		{"four bytes that ask for the most", []byte{1, 2, 32, 0}, impl.GetShort},
		{"four bytes that ask for one beyond", []byte{1, 2, 33, 0}, impl.GetLong},
		{"four bytes that ask for 255", []byte{1, 2, 255, 0}, impl.GetLong},
		{"the most", whole(5, 6, 32), impl.GetWell},
		{"the most, one fewer", whole(5, 6, 32)[:35], impl.GetShort},
		{"the most, one more", append(whole(5, 6, 32), 0), impl.GetLong},
		{"one beyond, all there", whole(5, 6, 33), impl.GetLong},
		{"one beyond, one fewer", whole(5, 6, 33)[:36], impl.GetLong},
		{"one beyond, one more", append(whole(5, 6, 33), 0), impl.GetLong},
		{"252 and more than a byte counts", whole(5, 6, 252), impl.GetLong},
		{"one fewer", whole(5, 6, 4)[:7], impl.GetShort},
		{"one more", append(whole(5, 6, 4), 0), impl.GetLong},
		{"one more behind the shortest", []byte{1, 2, 0, 15, 45}, impl.GetLong},
		{"the link 0", whole(0, 6, 4), impl.GetLink},
		{"the link 0 in four bytes", []byte{0, 0, 0, 0}, impl.GetLink},
		{"another sum", other(whole(5, 6, 4)), impl.GetSum},
		{"another sum in four bytes", []byte{1, 2, 0, 14}, impl.GetSum},
		{"another sum, the most", other(whole(5, 6, 32)), impl.GetSum},
		{"asks for too many, and the link 0", whole(0, 6, 33), impl.GetLong},
		{"asks for too many, and another sum", other(whole(5, 6, 33)), impl.GetLong},
		{"asks for too many, fewer there, and the link 0", []byte{0, 6, 33, 0}, impl.GetLong},
		{"too short, and the link 0", whole(0, 6, 4)[:7], impl.GetShort},
		{"too short, and another sum", withMany(5, 5), impl.GetShort},
		{"too long, and the link 0", append(whole(0, 6, 4), 1), impl.GetLong},
		{"too long, and another sum", withMany(5, 7), impl.GetLong},
		{"the link 0, and another sum", other(whole(0, 6, 4)), impl.GetLink},
		{"the sequence 0", whole(1, 0, 1), impl.GetWell},
		{"the greatest link and sequence", whole(255, 255, 1), impl.GetWell},
		{"a million bytes", slices.Repeat([]byte{32}, 1000000), impl.GetLong},
	}
	for _, c := range cases {
		reads(t, c.name, c.frame, c.want)
	}
}

// Promise 16: words come back from frames.
func TestWordsComeBackFromFrames(t *testing.T) {
	comesBack := func(w impl.Word16) {
		t.Helper()
		if got, code := impl.Get16(putOf(t, w)); code != impl.GetWell || !sameWord(got, w) {
			t.Fatal(w, got, code)
		}
	}
	for link := 1; link <= 255; link++ {
		for seq := range 256 {
			comesBack(word16(link, seq, pay((link+seq)%33)...))
		}
	}
	for many := range 33 {
		comesBack(word16(9, 200, pay(many)...))
		comesBack(word16(255, 0, make([]byte, many)...))
		comesBack(word16(1, 255, slices.Repeat([]byte{255}, many)...))
	}
}

// Promise 16: a frame with one byte changed is never read.
func TestAFrameWithOneByteChangedIsNeverRead(t *testing.T) {
	neverRead := func(frame []byte) {
		t.Helper()
		for place := range frame {
			changed := slices.Clone(frame)
			for range 255 {
				changed[place]++
				if w, code := impl.Get16(changed); code == impl.GetWell || !isZeroWord(w) {
					t.Fatal(frame, "read as", changed, w, code)
				}
			}
		}
	}
	r := rand.New(rand.NewSource(161))
	for many := range 33 {
		neverRead(putOf(t, word16(1, 0, make([]byte, many)...)))
		neverRead(putOf(t, word16(255, 255, slices.Repeat([]byte{255}, many)...)))
		for range 6 {
			neverRead(putOf(t, wordFrom(r, many)))
		}
	}
}

func TestAFrameCutOrGrownIsNeverRead(t *testing.T) {
	for many := range 33 {
		frame := putOf(t, word16(1+many, many, pay(many)...))
		for length := range frame {
			reads(t, "cut", frame[:length], impl.GetShort)
		}
		for _, more := range []int{1, 2, 40, 252, 256} {
			reads(t, "grown", append(slices.Clone(frame), make([]byte, more)...), impl.GetLong)
		}
	}
}

func wordFrom(r *rand.Rand, many int) impl.Word16 {
	data := make([]byte, many)
	r.Read(data)
	return word16(1+r.Intn(255), r.Intn(256), data...)
}

// frameFrom draws frames that are read, nearly read, and nowhere near it.
func frameFrom(r *rand.Rand) []byte {
	frame, _ := putByWords(wordFrom(r, r.Intn(34)%33))
	switch r.Intn(8) {
	case 0:
		frame[r.Intn(len(frame))] = byte(r.Intn(256))
	case 1:
		frame = frame[:r.Intn(len(frame)+1)]
	case 2:
		frame = append(frame, pay(1+r.Intn(3))...)
	case 3:
		frame[0] = 0
	case 4:
		frame[2] = byte(31 + r.Intn(4))
	case 5:
		frame = summed(frame[:max(0, len(frame)-1-r.Intn(2))]...)
	}
	return frame
}

func TestFramesAreAsTheWordsSay(t *testing.T) {
	r := rand.New(rand.NewSource(162))
	codes := map[int]int{}
	for range 60000 {
		frame := frameFrom(r)
		got, code := impl.Get16(frame)
		if want, wantCode := getByWords(frame); code != wantCode || !sameWord(got, want) {
			t.Fatal(frame, got, code, want, wantCode)
		}
		codes[code]++
		if code == impl.GetWell && !bytes.Equal(putOf(t, got), frame) {
			t.Fatal("what is read is not put as itself:", frame, got)
		}
	}
	for code := range 5 {
		if codes[code] < 1000 {
			t.Error("too few of a code were tried:", codes)
		}
	}
}

func numberOfReceiver(r *impl.Receiver, name string) *int {
	return map[string]*int{"Link": &r.Link, "Next": &r.Next, "Skew": &r.Skew}[name]
}

var ofReceiver = []bounded{linkBounds, nextBounds, skewBounds}

func TestReceiverOkAtBounds(t *testing.T) {
	if impl.ReceiverOk(impl.Receiver{}) || !impl.ReceiverOk(receiver(1, -1, 1)) || !impl.ReceiverOk(receiver(255, 255, 100)) {
		t.Error("the zero value, the least and the greatest")
	}
	for _, b := range ofReceiver {
		for _, n := range b.edges() {
			r := receiver(7, 8, 9)
			*numberOfReceiver(&r, b.name) = n
			if !impl.ReceiverOk(r) {
				t.Errorf("%s %d is refused", b.name, n)
			}
		}
		for _, n := range append(b.beyond(), -2, 256, 512) {
			r := receiver(7, 8, 9)
			*numberOfReceiver(&r, b.name) = n
			if impl.ReceiverOk(r) {
				t.Errorf("%s %d is taken", b.name, n)
			}
			refusesWord(t, r, word16(r.Link, 8))
			refusesWord(t, r, word16(7, 8))
		}
	}
}

func refusesWord(t *testing.T, r impl.Receiver, w impl.Word16) {
	t.Helper()
	if q, took, missed := impl.Accept(r, w); q != r || took || missed != 0 {
		t.Errorf("%v of %v: %v %v %d", r, w, q, took, missed)
	}
}

func TestAcceptByHand(t *testing.T) {
	cases := []struct {
		name            string
		next, skew, seq int
		took            bool
		want, missed    int
	}{
		{"the first, 0", -1, 1, 0, true, 1, 0},
		{"the first, 7", -1, 1, 7, true, 8, 0},
		{"the first, 254", -1, 100, 254, true, 255, 0},
		{"the first, 255", -1, 100, 255, true, 0, 0},
		{"due", 7, 1, 7, true, 8, 0},
		{"due, 255", 255, 1, 255, true, 0, 0},
		{"due behind 255", 0, 1, 0, true, 1, 0},
		{"one ahead with a Skew of 1", 7, 1, 8, false, 7, 0},
		{"one ahead with a Skew of 2", 7, 2, 8, true, 9, 1},
		{"one below Skew", 7, 100, 106, true, 107, 99},
		{"by Skew", 7, 100, 107, false, 7, 0},
		{"one above Skew", 7, 100, 108, false, 7, 0},
		{"just had", 7, 100, 6, false, 7, 0},
		{"had long ago", 107, 100, 7, false, 107, 0},
		{"half around", 0, 100, 128, false, 0, 0},
		{"around the end", 255, 3, 1, true, 2, 2},
		{"around the end, by Skew", 255, 3, 2, false, 255, 0},
		{"around the end, to 0", 250, 7, 0, true, 1, 6},
		{"around the end, to 0 by Skew", 250, 6, 0, false, 250, 0},
		{"ahead, up to 255", 250, 6, 255, true, 0, 5},
		{"just had, ahead of 0", 0, 100, 255, false, 0, 0},
		{"farthest around the end", 200, 100, 43, true, 44, 99},
		{"farthest around the end, one more", 200, 100, 44, false, 200, 0},
	}
	for _, c := range cases {
		r := receiver(9, c.next, c.skew)
		q, took, missed := impl.Accept(r, word16(9, c.seq, 1, 2))
		if q != receiver(9, c.want, c.skew) || took != c.took || missed != c.missed {
			t.Errorf("%s: %v %v %d", c.name, q, took, missed)
		}
		refusesWord(t, r, word16(8, c.seq, 1, 2))
		refusesWord(t, r, word16(10, c.seq, 1, 2))
		refusesWord(t, r, word16(9, c.seq, pay(33)...))
	}
}

func TestAcceptRefusesWrongWords(t *testing.T) {
	for _, next := range []int{-1, 0, 7, 255} {
		for _, n := range append(linkBounds.beyond(), 6, 8) {
			refusesWord(t, receiver(7, next, 100), word16(n, max(next, 0)))
		}
		for _, n := range append(seqBounds.beyond(), max(next, 0)+256, max(next, 0)-256) {
			refusesWord(t, receiver(7, next, 100), word16(7, n))
		}
		refusesWord(t, receiver(7, next, 100), word16(7, max(next, 0), pay(33)...))
	}
	refusesWord(t, receiver(0, -1, 1), word16(0, 0))
	refusesWord(t, receiver(256, -1, 1), word16(256, 0))
	refusesWord(t, impl.Receiver{}, impl.Word16{})
}

func TestAcceptOfEverySequence(t *testing.T) {
	for next := -1; next < 256; next++ {
		for seq := range 256 {
			for _, skew := range []int{1, 2, 50, 99, 100} {
				r, w := receiver(3, next, skew), word16(3, seq)
				q, took, missed := impl.Accept(r, w)
				if q2, took2, missed2 := acceptByWords(r, w); q != q2 || took != took2 || missed != missed2 {
					t.Fatal(r, seq, q, took, missed, q2, took2, missed2)
				}
				if took && !impl.ReceiverOk(q) {
					t.Fatal("the receiver behind it is not so:", q)
				}
			}
		}
	}
}

// framesOf has a frame of each sequence, of one link, with the sequence as its data.
func framesOf(link int, seqs ...int) [][]byte {
	var frames [][]byte
	for _, seq := range seqs {
		frame, _ := putByWords(word16(link, seq, byte(seq)))
		frames = append(frames, frame)
	}
	return frames
}

func seqsOf(words []impl.Word16) []int {
	var seqs []int
	for _, w := range words {
		seqs = append(seqs, w.Seq)
	}
	return seqs
}

func upTo(from, many int) []int {
	var seqs []int
	for i := range many {
		seqs = append(seqs, (from+i)%256)
	}
	return seqs
}

func TestBothByHand(t *testing.T) {
	spoilt := func(seq int) [][]byte {
		frames := framesOf(1, seq)
		frames[0][4]++
		return frames
	}
	join := func(lists ...[][]byte) [][]byte { return slices.Concat(lists...) }
	zero := []byte{0, 0, 0, 0}
	cases := []struct {
		name             string
		next, skew       int
		a, b             [][]byte
		want             []int
		missed, wantNext int
	}{
		{"no frame", 3, 9, nil, nil, nil, 0, 3},
		{"no frame, none due yet", -1, 9, [][]byte{}, nil, nil, 0, -1},
		{"a alone", -1, 9, framesOf(1, 4, 5, 6), nil, []int{4, 5, 6}, 0, 7},
		{"b alone", -1, 9, nil, framesOf(1, 4, 5, 6), []int{4, 5, 6}, 0, 7},
		{"both the same", -1, 9, framesOf(1, 4, 5, 6), framesOf(1, 4, 5, 6), []int{4, 5, 6}, 0, 7},
		{"a's first is ahead of b's first", -1, 9, framesOf(1, 4), framesOf(1, 5), []int{4, 5}, 0, 6},
		{"what b has earlier comes too late", -1, 9, framesOf(1, 5), framesOf(1, 4), []int{5}, 0, 6},
		{"b's first is ahead of a's second", -1, 9, framesOf(1, 4, 6), framesOf(1, 5, 7), []int{4, 5, 6, 7}, 0, 8},
		{"a longer", -1, 9, framesOf(1, 4, 6, 7, 8), framesOf(1, 5), []int{4, 5, 6, 7, 8}, 0, 9},
		{"b longer", -1, 9, framesOf(1, 4), framesOf(1, 5, 6, 7), []int{4, 5, 6, 7}, 0, 8},
		{"one lacks over a", 3, 9, framesOf(1, 3, 5), framesOf(1, 3, 4, 5), []int{3, 5}, 1, 6},
		{"one lacks over a, spoilt", 3, 9, join(framesOf(1, 3), spoilt(4), framesOf(1, 5)), framesOf(1, 3, 4, 5), []int{3, 4, 5}, 0, 6},
		{"one lacks over b, spoilt", 3, 9, framesOf(1, 3, 4, 5), join(framesOf(1, 3), spoilt(4), framesOf(1, 5)), []int{3, 4, 5}, 0, 6},
		{"one lacks over both", 3, 9, framesOf(1, 3, 5), framesOf(1, 3, 5), []int{3, 5}, 1, 6},
		{"several lack", 3, 9, framesOf(1, 5, 8), framesOf(1, 5, 9, 12), []int{5, 8, 9, 12}, 6, 13},
		{"beyond Skew", 3, 2, framesOf(1, 5, 3), framesOf(1, 5, 5), []int{3, 5}, 1, 6},
		{"around the end", 254, 9, framesOf(1, 254, 255, 0, 1), framesOf(1, 254, 0, 2), []int{254, 255, 0, 2}, 1, 3},
		{"other links among them", 3, 9, join(framesOf(2, 3), framesOf(1, 3), framesOf(3, 4)), framesOf(1, 3, 4), []int{3, 4}, 0, 5},
		{"the first one is of another link", -1, 9, join(framesOf(2, 80), framesOf(1, 3)), nil, []int{3}, 0, 4},
		{"the first one is not read", -1, 9, join(spoilt(80), framesOf(1, 3)), [][]byte{nil, {1}, {}}, []int{3}, 0, 4},
		{"none is read", 3, 9, [][]byte{nil, zero, {1, 3, 33, 0}}, [][]byte{{}, {1, 3, 1, 9, 9, 9}}, nil, 0, 3},
	}
	for _, c := range cases {
		words, missed, q := impl.Both16(receiver(1, c.next, c.skew), c.a, c.b)
		if !slices.Equal(seqsOf(words), c.want) || missed != c.missed || q != receiver(1, c.wantNext, c.skew) {
			t.Errorf("%s: %v %d %v", c.name, words, missed, q)
		}
		for _, w := range words {
			if !sameWord(w, word16(1, w.Seq, byte(w.Seq))) {
				t.Errorf("%s: %v", c.name, w)
			}
		}
	}
}

func TestBothOfTheMostFrames(t *testing.T) {
	r := receiver(1, 100, 9)
	most, more := framesOf(1, upTo(100, 200)...), framesOf(1, upTo(100, 201)...)
	for _, c := range [][2][][]byte{{most, most}, {most, nil}, {nil, most}, {most, most[:1]}, {most[:1], most}} {
		words, missed, q := impl.Both16(r, c[0], c[1])
		if !slices.Equal(seqsOf(words), upTo(100, 200)) || missed != 0 || q != receiver(1, 44, 9) {
			t.Error(len(c[0]), len(c[1]), len(words), missed, q)
		}
	}
	unread := make([][]byte, 201)
	for _, c := range [][2][][]byte{{more, nil}, {nil, more}, {more, most}, {most, more}, {more, more}, {unread, most}, {most, unread}} {
		words, missed, q := impl.Both16(r, c[0], c[1])
		if len(words) != 0 || missed != 0 || q != r {
			t.Error(len(c[0]), len(c[1]), len(words), missed, q)
		}
	}
	var evens, odds []int
	for i := range 200 {
		evens, odds = append(evens, 2*i%256), append(odds, (2*i+1)%256)
	}
	words, missed, q := impl.Both16(receiver(1, -1, 1), framesOf(1, evens...), framesOf(1, odds...))
	if !slices.Equal(seqsOf(words), upTo(0, 400)) || missed != 0 || q != receiver(1, 144, 1) {
		t.Error("400 words:", len(words), missed, q)
	}
}

func TestBothOfAWrongReceiver(t *testing.T) {
	for _, b := range ofReceiver {
		for _, n := range b.beyond() {
			r := receiver(7, 8, 9)
			*numberOfReceiver(&r, b.name) = n
			for _, frames := range [][][]byte{nil, framesOf(7, 8, 9, 10), make([][]byte, 201)} {
				if words, missed, q := impl.Both16(r, frames, framesOf(7, 8)); len(words) != 0 || missed != 0 || q != r {
					t.Error(r, words, missed, q)
				}
			}
		}
	}
}

// overNetworks draws what two networks carry of words of one link, each of which may be
// lost, spoilt or late on either, with words of another link among them.
func overNetworks(r *rand.Rand, many int) ([][]byte, [][]byte) {
	var nets [2][][]byte
	first := r.Intn(256)
	for i := range many {
		for n := range nets {
			frame := framesOf(1, (first+i)%256)[0]
			switch r.Intn(12) {
			case 0:
				continue
			case 1:
				frame[r.Intn(len(frame))] ^= 1 << r.Intn(8)
			case 2:
				nets[n] = append(nets[n], framesOf(2, r.Intn(256))[0])
			case 3:
				nets[n] = append(nets[n], framesOf(1, (first+max(0, i-r.Intn(4)))%256)[0])
			}
			nets[n] = append(nets[n], frame)
		}
	}
	return nets[0], nets[1]
}

func TestBothIsAsTheWordsSay(t *testing.T) {
	r := rand.New(rand.NewSource(163))
	refused, missedSome := 0, 0
	for range 3000 {
		many := []int{0, 3, 20, 150, 190}[r.Intn(5)]
		a, b := overNetworks(r, many)
		rec := receiver(1, r.Intn(257)-1, 1+r.Intn(100))
		if r.Intn(20) == 0 {
			one := ofReceiver[r.Intn(3)]
			*numberOfReceiver(&rec, one.name) = one.beyond()[r.Intn(8)]
		}
		words, missed, q := impl.Both16(rec, a, b)
		want, wantMissed, wantQ := bothByWords(rec, a, b)
		if !sameWords(words, want) || missed != wantMissed || q != wantQ {
			t.Fatal(rec, a, b, words, missed, q, want, wantMissed, wantQ)
		}
		if len(a) > 200 || len(b) > 200 {
			refused++
		}
		if missed > 0 {
			missedSome++
		}
	}
	if refused < 20 || missedSome < 300 {
		t.Error("too few of a kind were tried:", refused, missedSome)
	}
}

// Promise 16: what comes over two networks is taken once and in order.
func TestWhatComesOverBothIsTakenOnceAndInOrder(t *testing.T) {
	r := rand.New(rand.NewSource(164))
	for range 2000 {
		many := r.Intn(120)
		a, b := overNetworks(r, many)
		rec := receiver(1, -1, 1+r.Intn(100))
		words, missed, q := impl.Both16(rec, a, b)
		if len(words) == 0 {
			continue
		}
		// Fewer than 256 sequences were sent: none of them may be there twice.
		gaps, seen := 0, map[int]bool{}
		for i, w := range words {
			if seen[w.Seq] || w.Link != 1 || !bytes.Equal(w.Data, []byte{byte(w.Seq)}) {
				t.Fatal("taken twice, or not as it was sent:", w)
			}
			seen[w.Seq] = true
			if i > 0 {
				gap := (w.Seq - words[i-1].Seq + 255) % 256
				if gap >= rec.Skew {
					t.Fatal("not in order:", seqsOf(words))
				}
				gaps += gap
			}
		}
		if gaps != missed || q.Next != seqBehind(words[len(words)-1].Seq) {
			t.Fatal("missed:", gaps, missed, q)
		}
	}
}

func TestWhatOneNetworkLosesComesOverTheOther(t *testing.T) {
	r := rand.New(rand.NewSource(165))
	for range 500 {
		first, many := r.Intn(256), 1+r.Intn(200)
		seqs := upTo(first, many)
		a, b := framesOf(1, seqs...), framesOf(1, seqs...)
		for i := range many {
			lost := [][]byte{a[i], b[i]}[r.Intn(2)]
			lost[r.Intn(len(lost))] ^= byte(1 + r.Intn(255))
		}
		words, missed, q := impl.Both16(receiver(1, first, 1), a, b)
		if !slices.Equal(seqsOf(words), seqs) || missed != 0 || q.Next != (first+many)%256 {
			t.Fatal(first, many, seqsOf(words), missed, q)
		}
	}
}

func TestSlotByHand(t *testing.T) {
	forty := listOf(rand.New(rand.NewSource(166)), 40, 0, 255)
	cases := []struct {
		name       string
		plan       []int
		tick, want int
		ok         bool
	}{
		{"none", nil, 0, 0, false},
		{"no slot", []int{}, 5, 0, false},
		{"one slot", []int{9}, 0, 9, true},
		{"one slot, later", []int{9}, 100000000, 9, true},
		{"nobody's", []int{0}, 3, 0, true},
		{"the first", []int{1, 2, 3}, 0, 1, true},
		{"the last", []int{1, 2, 3}, 2, 3, true},
		{"over and over", []int{1, 2, 3}, 3, 1, true},
		{"the last tick", []int{1, 2, 3}, 100000000, 2, true},
		{"one beyond the last tick", []int{1, 2, 3}, 100000001, 0, false},
		{"ahead of the first tick", []int{1, 2, 3}, -1, 0, false},
		{"the least number", []int{1, 2, 3}, math.MinInt, 0, false},
		{"the greatest number", []int{1, 2, 3}, math.MaxInt, 0, false},
		{"forty, the last", forty, 39, forty[39], true},
		{"forty, again", forty, 40, forty[0], true},
		{"forty, the last tick", forty, 100000000, forty[0], true},
		{"forty-one", append(slices.Clone(forty), 1), 0, 0, false},
		{"links at their bounds", []int{0, 255}, 1, 255, true},
		{"a link below", []int{7, -1}, 0, 0, false},
		{"a link above", []int{256, 7}, 1, 0, false},
	}
	for _, c := range cases {
		if link, ok := impl.Slot16(c.plan, c.tick); link != c.want || ok != c.ok {
			t.Errorf("%s: %d %v", c.name, link, ok)
		}
	}
	for tick := range 400 {
		if link, ok := impl.Slot16(forty[:37], tick); link != slices.Repeat(forty[:37], 11)[tick] || !ok {
			t.Error(tick, link, ok)
		}
	}
}

func TestGapByHand(t *testing.T) {
	rare := slices.Repeat([]int{3}, 40)
	rare[17] = 5
	cases := []struct {
		name       string
		plan       []int
		link, want int
		ok         bool
	}{
		{"one slot of one", []int{7}, 7, 1, true},
		{"one slot, the first", []int{7, 0, 0, 1}, 7, 4, true},
		{"one slot, the last", []int{1, 0, 0, 7}, 7, 4, true},
		{"all slots", []int{7, 7, 7, 7}, 7, 1, true},
		{"two side by side", []int{7, 7, 1, 1, 1}, 7, 4, true},
		{"in the middle", []int{7, 1, 1, 1, 7}, 7, 4, true},
		{"around the end", []int{1, 7, 1, 7, 1, 1}, 7, 4, true},
		{"around the end, of another", []int{1, 2, 1, 1, 2}, 2, 3, true},
		{"as great everywhere", []int{1, 7, 1, 7}, 7, 2, true},
		{"one slot of forty", rare, 5, 40, true},
		{"all but one of forty", rare, 3, 2, true},
		{"the least link", []int{1, 2}, 1, 2, true},
		{"the greatest link", []int{255, 2}, 255, 2, true},
		{"forty-one", append(slices.Clone(rare), 3), 5, 0, false},
		{"no slots", nil, 5, 0, false},
		{"no slots, nobody", []int{}, 0, 0, false},
		{"nobody", []int{0, 1, 0}, 0, 0, false},
		{"a link without a slot", []int{1, 2, 3}, 4, 0, false},
		{"a link below, with a slot", []int{1, -1, 3}, -1, 0, false},
		{"a link above, with a slot", []int{1, 256, 3}, 256, 0, false},
		{"a wrong link among them", []int{1, 256, 3}, 1, 0, false},
		{"a wrong link at the end", []int{1, 3, -1}, 1, 0, false},
		{"the least number", []int{1, 2}, math.MinInt, 0, false},
		{"the greatest number", []int{1, 2}, math.MaxInt, 0, false},
	}
	for _, c := range cases {
		if gap, ok := impl.Gap16(c.plan, c.link); gap != c.want || ok != c.ok {
			t.Errorf("%s: %d %v", c.name, gap, ok)
		}
	}
}

func TestGapIsAsTheWordsSay(t *testing.T) {
	holds := func(plan []int, link int) {
		t.Helper()
		gap, ok := impl.Gap16(plan, link)
		if want, ok2 := gapByWords(plan, link); gap != want || ok != ok2 {
			t.Fatal(plan, link, gap, ok, want, ok2)
		}
	}
	for bits := range 1 << 11 {
		for many := range 12 {
			plan := make([]int, many)
			for i := range plan {
				plan[i] = bits >> i & 1
			}
			holds(plan, 1)
		}
	}
	r := rand.New(rand.NewSource(167))
	for range 20000 {
		plan := listOf(r, r.Intn(43), 0, 1+r.Intn(8))
		if len(plan) > 0 && r.Intn(20) == 0 {
			plan[r.Intn(len(plan))] = []int{-1, 256, math.MinInt, math.MaxInt}[r.Intn(4)]
		}
		holds(plan, r.Intn(10)-1)
	}
}

func TestBusesAtTheEdgesOfNumbers(t *testing.T) {
	for _, a := range farNumbers {
		for _, b := range append([]int{0, 1}, farNumbers...) {
			w := word16(a, b)
			frame, ok := impl.Put16(w)
			if impl.WordOk(w) || ok || len(frame) != 0 {
				t.Error(w, frame, ok)
			}
			refusesWord(t, receiver(a, b, a), w)
			refusesWord(t, receiver(1, 2, 3), w)
			refusesWord(t, receiver(1, a, b), word16(1, 2))
			refusesWord(t, receiver(1, b, a), word16(1, b))
			if link, ok := impl.Slot16([]int{a, b}, 1); link != 0 || ok {
				t.Error(a, b, link, ok)
			}
			if gap, ok := impl.Gap16([]int{b, a}, a); gap != 0 || ok {
				t.Error(a, b, gap, ok)
			}
		}
	}
}

// roomyBytes has other bytes behind its end.
func roomyBytes(list []byte) []byte {
	return append(slices.Clone(list), 177, 177, 177, 177)[:len(list)]
}

// markBytes marks every byte of an answer, with its spare room, by another number.
func markBytes(list []byte, mark byte) {
	for i := range list[:cap(list)] {
		list[:cap(list)][i] = mark
	}
}

func TestFramesAndWordsShareNothing(t *testing.T) {
	r := rand.New(rand.NewSource(168))
	for range 2000 {
		w := wordFrom(r, r.Intn(34))
		w.Data = roomyBytes(w.Data)
		room := w.Data[:cap(w.Data)]
		before := slices.Clone(room)
		frame, ok := impl.Put16(w)
		if ok {
			markBytes(frame, 99)
		}
		if again, _ := impl.Put16(w); ok && (!bytes.Equal(room, before) || !bytes.Equal(again, mustPut(w))) {
			t.Fatal("Put16 shares or writes:", w)
		}
		sent := roomyBytes(frameFrom(r))
		whole := slices.Clone(sent[:cap(sent)])
		got, _ := impl.Get16(sent)
		markBytes(got.Data, 99)
		if !bytes.Equal(sent[:cap(sent)], whole) {
			t.Fatal("Get16 shares or writes:", sent)
		}
		impl.Accept(receiver(w.Link, w.Seq, 3), w)
		impl.WordOk(w)
		if !bytes.Equal(room, before) {
			t.Fatal("written into a word:", w)
		}
	}
}

func mustPut(w impl.Word16) []byte {
	frame, _ := putByWords(w)
	return frame
}

func roomyFrames(frames [][]byte) [][]byte {
	wide := make([][]byte, 0, len(frames)+3)
	for _, f := range frames {
		wide = append(wide, roomyBytes(f))
	}
	return append(wide, []byte{1, 2, 0, 15}, nil, []byte{1, 2, 0, 15})[:len(frames)]
}

// allBytes has every byte that a list of frames reaches, with what lies behind.
func allBytes(frames [][]byte) []byte {
	var all []byte
	for _, f := range frames[:cap(frames)] {
		all = append(append(all, byte(len(f))), f[:cap(f)]...)
	}
	return all
}

func TestBothSharesAndWritesNothing(t *testing.T) {
	r := rand.New(rand.NewSource(169))
	for range 300 {
		a, b := overNetworks(r, r.Intn(60))
		a, b = roomyFrames(a), roomyFrames(b)
		ofA, ofB := allBytes(a), allBytes(b)
		rec := receiver(1, -1, 9)
		words, missed, q := impl.Both16(rec, a, b)
		if want, wantMissed, wantQ := bothByWords(rec, a, b); !sameWords(words, want) || missed != wantMissed || q != wantQ {
			t.Fatal("what lies behind is read:", words, want)
		}
		for i := range words {
			markBytes(words[i].Data, byte(i))
			for _, later := range words[i+1:] {
				if later.Data[0] != byte(later.Seq) {
					t.Fatal("two words of one answer share memory")
				}
			}
		}
		if !bytes.Equal(allBytes(a), ofA) || !bytes.Equal(allBytes(b), ofB) {
			t.Fatal("an answer shares memory with a frame, or a frame is written into")
		}
	}
	// One list for both, and one frame at each place of it.
	frame := mustPut(word16(1, 5, 5))
	one := [][]byte{frame, frame}
	words, _, _ := impl.Both16(receiver(1, -1, 9), one, one)
	if len(words) != 1 || !bytes.Equal(frame, mustPut(word16(1, 5, 5))) {
		t.Error(words, frame)
	}
}

func TestPlansAreNotWrittenInto(t *testing.T) {
	r := rand.New(rand.NewSource(170))
	for range 500 {
		plan := roomy(listOf(r, r.Intn(42), 0, 9))
		whole := slices.Clone(plan[:cap(plan)])
		impl.Slot16(plan, r.Intn(100))
		impl.Gap16(plan, r.Intn(10))
		impl.Gap16(plan, 77)
		if !slices.Equal(plan[:cap(plan)], whole) {
			t.Fatal("written into a plan")
		}
		if gap, ok := impl.Gap16(plan, 77); gap != 0 || ok {
			t.Fatal("what lies behind a plan is read:", gap, ok)
		}
	}
}

// The outcome is one, however goroutines run, and whoever else calls.
func TestTheOutcomeOfTwoNetworksIsOne(t *testing.T) {
	defer runtime.GOMAXPROCS(runtime.GOMAXPROCS(0))
	a, b := overNetworks(rand.New(rand.NewSource(171)), 150)
	rec := receiver(1, -1, 5)
	want, wantMissed, wantQ := bothByWords(rec, a, b)
	for _, workers := range []int{1, 2, 8, 64} {
		runtime.GOMAXPROCS(workers)
		var callers sync.WaitGroup
		for range 8 {
			callers.Go(func() {
				for range 50 {
					if words, missed, q := impl.Both16(rec, a, b); !sameWords(words, want) || missed != wantMissed || q != wantQ {
						t.Error("another outcome:", len(words), missed, q)
						return
					}
				}
			})
		}
		callers.Wait()
	}
}

func TestBothLeavesNoGoroutineBehind(t *testing.T) {
	before := runtime.NumGoroutine()
	most := framesOf(1, upTo(0, 200)...)
	for range 50 {
		impl.Both16(receiver(1, 0, 9), most, nil)
		impl.Both16(receiver(0, 0, 0), most, most)
		impl.Both16(receiver(1, 0, 9), append(slices.Clone(most), nil), most)
	}
	for tries := 0; runtime.NumGoroutine() > before && tries < 1000; tries++ {
		time.Sleep(time.Millisecond)
	}
	if after := runtime.NumGoroutine(); after > before {
		t.Error("goroutines:", before, "and then", after)
	}
}

// receivesWithSecond tells whether a case of a select receives with the value that tells
// whether the channel is closed.
func receivesWithSecond(n ast.Stmt) bool {
	heard, ok := n.(*ast.CommClause)
	if !ok {
		return false
	}
	set, ok := heard.Comm.(*ast.AssignStmt)
	if !ok || len(set.Lhs) != 2 {
		return false
	}
	from, ok := set.Rhs[0].(*ast.UnaryExpr)
	return ok && from.Op == token.ARROW && !isNamed(set.Lhs[1], "_")
}

// isPointerToArray tells whether an expression names the type of a pointer to an array.
func isPointerToArray(e ast.Expr) bool {
	star, ok := ast.Unparen(e).(*ast.StarExpr)
	if !ok {
		return false
	}
	array, ok := star.X.(*ast.ArrayType)
	return ok && array.Len != nil && isNamed(array.Elt, "byte")
}

// The document's 'Ways': a frame's head is looked at through a pointer to an array that
// stands on the slice itself; two networks are two channels, heard by a select of one
// goroutine, received with the second value.
func TestBusesAreBuiltTheirWay(t *testing.T) {
	file, err := parser.ParseFile(token.NewFileSet(), "../impl/l16_bus.go", nil, 0)
	if err != nil {
		t.Fatal(err)
	}
	onSlice, twoHeard := false, false
	ast.Inspect(file, func(n ast.Node) bool {
		switch x := n.(type) {
		case *ast.CallExpr:
			onSlice = onSlice || len(x.Args) == 1 && isPointerToArray(x.Fun)
		case *ast.SelectStmt:
			cases := x.Body.List
			twoHeard = twoHeard || len(cases) == 2 && receivesWithSecond(cases[0]) && receivesWithSecond(cases[1])
		case *ast.GoStmt:
			t.Error("the networks are heard by one goroutine, and need no other")
		}
		return true
	})
	if !onSlice || !twoHeard {
		t.Error("a pointer to an array on the slice:", onSlice, "two networks heard by a select:", twoHeard)
	}
}
