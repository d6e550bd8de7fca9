package tests

import (
	"encoding/binary"
	"hash/crc32"
	"math/rand"
	"slices"
	"strings"
	"testing"
	"unsafe"

	"loop.example/g00368/impl"
)

// frameByWords goes over the words of the document, with the library's CRC-32.
func frameByWords(data string) string {
	head := binary.LittleEndian.AppendUint32([]byte{byte(len(data))}, crc32.ChecksumIEEE([]byte(data)))
	return string(head) + data
}

// frames has the frames of these texts, whether or not they are those of updates.
func frames(texts ...string) string {
	all := ""
	for _, s := range texts {
		all += frameByWords(s)
	}
	return all
}

func textsOf(l []impl.Update) []string {
	var all []string
	for _, u := range l {
		all = append(all, impl.UpdateText(u))
	}
	return all
}

func segment(t *testing.T, l []impl.Update) string {
	t.Helper()
	s, ok := impl.SegmentOf(l)
	if !ok || s != frames(textsOf(l)...) {
		t.Fatalf("SegmentOf(%v) = %q, %v", l, s, ok)
	}
	return s
}

func wantRecovered(t *testing.T, s string, want []impl.Update, end int) {
	t.Helper()
	if got, at := impl.RecoveredFrom(s); !slices.Equal(got, want) || at != int64(end) {
		t.Errorf("RecoveredFrom(%q) = %v, %d, not %v, %d", s, got, at, want, end)
	}
}

// few has each kind of update, and two regions.
func few(t *testing.T) []impl.Update {
	t.Helper()
	return read(t, "keep 1 1 5 0 1", "span 1 2 6 0 7 2 1 3 9 web", "life 1 3 6 1 7 1", "span 4 1 3 0 7 1 0 0 20 database", "keep 4 2 1000000000 1000000 1000")
}

func TestFrameRows(t *testing.T) {
	rows := []struct{ data, want string }{
		{"", "\x00\x00\x00\x00\x00"},
		{"a", "\x01\x43\xbe\xb7\xe8a"},
		{"abc", "\x03\xc2\x41\x24\x35abc"},
		{"123456789", "\x09\x26\x39\xf4\xcb123456789"},
		{"The quick brown fox jumps over the lazy dog", "\x2b\x39\xa3\x4f\x41The quick brown fox jumps over the lazy dog"},
		{"\x00", "\x01\x8d\xef\x02\xd2\x00"},
		{"\xff", "\x01\x00\x00\x00\xff\xff"},
		{strings.Repeat("\x00", 32), "\x20\xad\x55\x0a\x19" + strings.Repeat("\x00", 32)},
		{strings.Repeat("\xff", 32), "\x20\x0b\xab\x6c\xff" + strings.Repeat("\xff", 32)},
	}
	for _, row := range rows {
		if got := impl.FrameOf(row.data); got != row.want || frameByWords(row.data) != row.want {
			t.Errorf("FrameOf(%q) = %q, not %q", row.data, got, row.want)
		}
	}
}

func TestFrameLimits(t *testing.T) {
	r := rand.New(rand.NewSource(41))
	for length := range 1000 {
		data := make([]byte, length)
		r.Read(data)
		want := ""
		if length <= 200 {
			want = frameByWords(string(data))
		}
		if got := impl.FrameOf(string(data)); got != want {
			t.Errorf("FrameOf of %d bytes = %q, not %q", length, got, want)
		}
	}
	for _, length := range []int{201, 255, 256, 257, 456, 65536} {
		if got := impl.FrameOf(strings.Repeat("a", length)); got != "" {
			t.Errorf("FrameOf of %d bytes = %q", length, got)
		}
	}
}

func TestSegmentRows(t *testing.T) {
	l := few(t)
	greatest := "span 5 1000000 1000000000 1000000 1000 1000 999 1000000000 1000000000 abcdefghijkl"
	rows := [][]impl.Update{
		nil, {}, l[:1], l,
		// Right updates need be no right set.
		{l[4], l[1], l[0]}, {l[2], l[2]}, read(t, greatest), read(t, "keep 1 2 5 0 1", "keep 1 2 4 0 1"),
		keeps(1, impl.MaxUpdates), keeps(3, impl.MaxUpdates+1)[1:], slices.Repeat(read(t, greatest), impl.MaxUpdates),
	}
	for _, row := range rows {
		segment(t, row)
	}
	for _, u := range rightUpdates() {
		segment(t, []impl.Update{u})
	}
	if s := segment(t, read(t, "keep 2 1 3 0 2")); s != "\x0e\x7d\x32\x8e\xcfkeep 2 1 3 0 2" {
		t.Errorf("%q", s)
	}
}

func refuseSegment(t *testing.T, l []impl.Update) {
	t.Helper()
	if got, ok := impl.SegmentOf(l); ok || got != "" {
		t.Errorf("SegmentOf(%v) = %q, %v", l, got, ok)
	}
}

func TestSegmentWrong(t *testing.T) {
	refuseSegment(t, keeps(1, impl.MaxUpdates+1))
	refuseSegment(t, slices.Repeat(keeps(1, 1), impl.MaxUpdates+1))
	refuseSegment(t, slices.Repeat(keeps(1, 10), 100))
	for _, u := range wrongUpdates() {
		refuseSegment(t, []impl.Update{u})
		for at := range 6 {
			refuseSegment(t, slices.Insert(few(t), at, u))
		}
		for _, at := range []int{0, 30, 59} {
			full := keeps(1, impl.MaxUpdates)
			full[at] = u
			refuseSegment(t, full)
			refuseSegment(t, append(full, keeps(2, 1)...))
		}
	}
}

// P7: a set comes back from its segment; one that is cut anywhere gives the first of its updates, and nothing else.
func checkCuts(t *testing.T, l []impl.Update) {
	t.Helper()
	s, end, first := segment(t, l), 0, 0
	for cut := range len(s) + 1 {
		if first < len(l) && cut == end+5+len(impl.UpdateText(l[first])) {
			end, first = cut, first+1
		}
		wantRecovered(t, s[:cut], l[:first], end)
	}
	if first != len(l) || end != len(s) {
		t.Errorf("%v: %d updates, at %d", l, first, end)
	}
}

func TestSetsComeBackFromSegments(t *testing.T) {
	for _, l := range [][]impl.Update{nil, few(t), keeps(5, 1), keeps(1, impl.MaxUpdates), together(keeps(1, 12), keeps(2, 12), keeps(3, 12), keeps(4, 12), keeps(5, 12))} {
		checkCuts(t, l)
	}
	r := rand.New(rand.NewSource(43))
	for range 60 {
		checkCuts(t, anySet(r, anyHistory(r, 6)))
	}
}

func TestSegmentsThatAreNotWhole(t *testing.T) {
	l := few(t)
	s := segment(t, l)
	wantRecovered(t, "", nil, 0)
	// Cut at the front, a beginning is there only if the frames of that place are one.
	for cut := 1; cut < len(s); cut++ {
		if got, end := impl.RecoveredFrom(s[cut:]); len(got) > 0 && cut != len(frames(textsOf(l[:3])...)) {
			t.Errorf("cut at %d: %v, %d", cut, got, end)
		}
	}
	wantRecovered(t, frames(textsOf(l[3:])...), l[3:], len(frames(textsOf(l[3:])...)))
	for _, behind := range []string{"\x00", "\x0e", "\xff", "\n", "keep 4 3 1000000000 1000000 1", strings.Repeat("\x00", 500), strings.Repeat("\xff", 500), s, s[:40], s[19:]} {
		wantRecovered(t, s+behind, l, len(s))
		want, end := recoveredByWords(behind + s)
		wantRecovered(t, behind+s, want, end)
	}
}

// frameAt tells where the frame of each byte begins, and which one it is.
func frameAt(l []impl.Update, place int) (int, int) {
	from := 0
	for i, text := range textsOf(l) {
		if place < from+5+len(text) {
			return from, i
		}
		from += 5 + len(text)
	}
	return from, len(l)
}

// A byte that is changed, in the length, in the checksum or in the text, ends the segment ahead of its frame.
func TestSegmentsWithAByteChanged(t *testing.T) {
	l := few(t)
	s := segment(t, l)
	for place := range len(s) {
		from, i := frameAt(l, place)
		for change := 1; change < 256; change++ {
			spoilt := []byte(s)
			spoilt[place] ^= byte(change)
			wantRecovered(t, string(spoilt), l[:i], from)
		}
		wantRecovered(t, s[:place]+s[place+1:], l[:i], from)
	}
}

// The sum is the lowest byte first, of the text alone, and not turned round.
func TestFramesOfAnotherMaking(t *testing.T) {
	text := "keep 1 1 5 0 1"
	sum := crc32.ChecksumIEEE([]byte(text))
	length := string([]byte{byte(len(text))})
	for _, other := range []uint32{0, ^sum, sum + 1, crc32.Checksum([]byte(text), crc32.MakeTable(crc32.Castagnoli)), crc32.ChecksumIEEE([]byte(length + text)), crc32.ChecksumIEEE([]byte(text + "\n"))} {
		wantRecovered(t, length+string(binary.LittleEndian.AppendUint32(nil, other))+text, nil, 0)
	}
	wantRecovered(t, length+string(binary.BigEndian.AppendUint32(nil, sum))+text, nil, 0)
	wantRecovered(t, length+text, nil, 0)
	wantRecovered(t, text, nil, 0)
	wantRecovered(t, length+string(binary.LittleEndian.AppendUint32(nil, sum))+text, read(t, text), 19)
}

func TestFramesWhoseTextIsNoUpdate(t *testing.T) {
	l := few(t)
	ahead := frames(textsOf(l[:2])...)
	for _, text := range []string{
		"", " ", "keep", "keep 1 3 9 0", "keep 1 3 9 0 1 ", " keep 1 3 9 0 1", "keep  1 3 9 0 1", "keep 1 03 9 0 1", "keep 1 3 9 0 0", "keep 1 3 9 0 1001", "life 1 3 9 0 1 0",
		"keep 1 3 9 0 1\n", "fly 1 3 9 0 1", "keep 6 1 9 0 1", "keep 0 1 9 0 1", "span 1 3 9 0 7 2 2 3 9 web", "span 1 3 9 0 7 2 1 3 9 Web", "span 1 3 9 0 7 2 1 9 3 web",
		"keep 1 3 9 0 1keep 1 4 10 0 1", frameByWords("keep 1 3 9 0 1"), strings.Repeat("a", 200), strings.Repeat("\x00", 200), "keep 1 3 9 0 1" + strings.Repeat(" ", 186),
	} {
		frame := impl.FrameOf(text)
		if frame == "" {
			t.Fatalf("%q has no frame", text)
		}
		wantRecovered(t, frame, nil, 0)
		wantRecovered(t, frame+ahead, nil, 0)
		wantRecovered(t, ahead+frame, l[:2], len(ahead))
		// What stands behind it is not had, though it would come next.
		wantRecovered(t, ahead+frame+frames(textsOf(l[2:])...), l[:2], len(ahead))
	}
	// Longer than any frame may be, though length and sum are right.
	long := strings.Repeat("a", 255)
	wantRecovered(t, ahead+frameByWords(long)+frames(textsOf(l[2:])...), l[:2], len(ahead))
}

func TestUpdatesThatDoNotComeNext(t *testing.T) {
	first := []string{"keep 1 1 5 0 1", "keep 1 2 6 3 1", "keep 3 1 5 0 2"}
	begun := read(t, first...)
	for _, text := range []string{
		// Not the next one of its region: too far on, there already, there as another one.
		"keep 1 4 9 0 1", "keep 3 3 9 0 1", "keep 2 2 9 0 1", "keep 5 1000000 9 0 1", first[0], first[1], first[2], "keep 1 1 9 0 9", "span 1 2 9 0 7 2 1 3 9 web", "keep 3 1 5 0 3",
		// The next one, but with a stamp that is not behind the last one.
		"keep 1 3 6 3 1", "keep 1 3 6 2 1", "keep 1 3 5 9 1", "keep 1 3 0 0 1", "keep 3 2 5 0 2", "life 3 2 4 1000000 2 1",
	} {
		ahead := frames(first...)
		wantRecovered(t, ahead+frames(text), begun, len(ahead))
		// It is not passed over: what follows it and would be next is not had.
		wantRecovered(t, ahead+frames(text, "keep 1 3 9 0 1", "keep 2 1 9 0 1"), begun, len(ahead))
		wantRecovered(t, ahead+frames("keep 2 1 9 9 1")+frames(text, "keep 2 2 10 0 1"), slices.Insert(slices.Clone(begun), 2, read(t, "keep 2 1 9 9 1")...), len(ahead)+19)
	}
	wantRecovered(t, frames("keep 1 2 6 0 1", "keep 1 1 5 0 1"), nil, 0)
	wantRecovered(t, frames("keep 1 1 5 0 1", "keep 1 1 5 0 1", "keep 1 2 6 0 1"), begun[:1], 19)
}

func TestUpdatesInAnotherOrder(t *testing.T) {
	rows := [][2][]string{
		{{"keep 5 1 1 0 1", "keep 1 1 9 0 1"}, {"keep 1 1 9 0 1", "keep 5 1 1 0 1"}},
		{{"keep 2 1 1 0 1", "keep 1 1 9 0 1", "keep 2 2 2 0 1", "keep 1 2 9 1 1"}, {"keep 1 1 9 0 1", "keep 1 2 9 1 1", "keep 2 1 1 0 1", "keep 2 2 2 0 1"}},
		{{"life 3 1 1 0 1 1", "span 2 1 9 0 7 2 1 3 9 web", "keep 1 1 5 0 1"}, {"keep 1 1 5 0 1", "span 2 1 9 0 7 2 1 3 9 web", "life 3 1 1 0 1 1"}},
	}
	for _, row := range rows {
		s := frames(row[0]...)
		wantRecovered(t, s, read(t, row[1]...), len(s))
		if want := segment(t, read(t, row[0]...)); s != want {
			t.Errorf("%q, not %q", s, want)
		}
	}
	r := rand.New(rand.NewSource(47))
	for range 200 {
		l := anySet(r, anyHistory(r, 8))
		mixed := interleaved(r, l)
		s := segment(t, mixed)
		wantRecovered(t, s, l, len(s))
	}
}

// interleaved has the updates of l, those of each region in their order.
func interleaved(r *rand.Rand, l []impl.Update) []impl.Update {
	var mixed []impl.Update
	left := slices.Clone(l)
	for len(left) > 0 {
		region := left[r.Intn(len(left))].Dot.Region
		at := slices.IndexFunc(left, func(u impl.Update) bool { return u.Dot.Region == region })
		mixed = append(mixed, left[at])
		left = slices.Delete(left, at, at+1)
	}
	return mixed
}

func TestRecoveredLimits(t *testing.T) {
	most := keeps(2, impl.MaxUpdates)
	for _, more := range []string{"keep 2 61 61 0 2", "keep 1 1 0 0 1", "keep 5 1 0 0 1"} {
		s := segment(t, most)
		wantRecovered(t, s+frames(more), most, len(s))
		nearly := segment(t, most[:59])
		all, _ := impl.Taken(most[:59], read(t, strings.Replace(more, "2 61 61", "2 60 60", 1)))
		whole := nearly + frames(strings.Replace(more, "2 61 61", "2 60 60", 1))
		wantRecovered(t, whole, all, len(whole))
		wantRecovered(t, whole+frames("keep 4 1 0 0 1", "keep 4 2 1 0 1"), all, len(whole))
	}
	s := frames(textsOf(keeps(2, 300))...)
	wantRecovered(t, s, most, len(segment(t, most)))
}

// recoveredByWords goes over the words of the document, byte by byte.
func recoveredByWords(s string) ([]impl.Update, int) {
	var had []impl.Update
	end := 0
	for end < len(s) {
		rest := s[end:]
		length := int(rest[0])
		if len(rest) < 5+length || length > 200 || frameByWords(rest[5:5+length]) != rest[:5+length] {
			break
		}
		u, ok := impl.ReadUpdate(rest[5 : 5+length])
		n := int64(1)
		for _, other := range had {
			if other.Dot.Region == u.Dot.Region {
				n++
			}
		}
		sorted := takenByWords(append(slices.Clone(had), u), nil)
		if !ok || u.Dot.N != n || !setByWords(sorted) {
			break
		}
		had, end = sorted, end+5+length
	}
	return had, end
}

// anySegment has a right beginning more often than not, and near its end something else.
func anySegment(r *rand.Rand) string {
	l := interleaved(r, anySet(r, anyHistory(r, 1+r.Intn(16))))
	if len(l) > 1 && r.Intn(2) == 0 {
		i, j := r.Intn(len(l)), r.Intn(len(l))
		l[i], l[j] = l[j], l[i]
	}
	if len(l) > 0 && r.Intn(4) == 0 {
		u := &l[r.Intn(len(l))]
		u.Stamp.Wall, u.Trace = r.Int63n(20), r.Int63n(3)
	}
	texts := textsOf(l)
	if r.Intn(4) == 0 {
		texts = slices.Insert(texts, r.Intn(len(texts)+1), []string{"", "keep", "keep 1 1 0 0 1", strings.Repeat("a", r.Intn(256))}[r.Intn(4)])
	}
	s := []byte(frames(texts...))
	if len(s) > 0 && r.Intn(4) == 0 {
		s[r.Intn(len(s))] = byte(r.Intn(256))
	}
	if r.Intn(4) == 0 {
		s = s[:r.Intn(len(s)+1)]
	}
	return string(s)
}

func TestRecoveredByWords(t *testing.T) {
	r := rand.New(rand.NewSource(53))
	whole, part, none := 0, 0, 0
	for range 4000 {
		s := anySegment(r)
		want, end := recoveredByWords(s)
		got, at := impl.RecoveredFrom(s)
		if !slices.Equal(got, want) || at != int64(end) || !impl.SetOk(got) {
			t.Fatalf("RecoveredFrom(%q) = %v, %d, not %v, %d", s, got, at, want, end)
		}
		switch end {
		case len(s):
			whole++
		case 0:
			none++
		default:
			part++
		}
	}
	if min(whole, part, none) < 100 {
		t.Errorf("%d whole, %d in part, %d none", whole, part, none)
	}
}

// Whatever bytes there are, an answer is given.
func TestRecoveredFromAnyBytes(t *testing.T) {
	r := rand.New(rand.NewSource(59))
	for range 20000 {
		s := make([]byte, r.Intn(300))
		r.Read(s)
		if len(s) > 0 {
			s[0] = byte(r.Intn(40))
		}
		wantRecovered(t, string(s), nil, 0)
	}
	for b := range 256 {
		wantRecovered(t, string([]byte{byte(b)}), nil, 0)
		wantRecovered(t, strings.Repeat(string([]byte{byte(b)}), 1000), nil, 0)
	}
}

func TestRecoveredIsNewMemory(t *testing.T) {
	s := segment(t, few(t))
	got, _ := impl.RecoveredFrom(s)
	text := roomOf(unsafe.Slice(unsafe.StringData(s), len(s)))
	for _, u := range got {
		service := u.Span.Service
		lies := roomOf(unsafe.Slice(unsafe.StringData(service), len(service)))
		if lies.from < text.to && text.from < lies.to {
			t.Errorf("the service of %v is a piece of the segment", u)
		}
	}
	spoilUpdates(got)
	wantRecovered(t, s, few(t), len(s))
}
