package tests

import (
	"fmt"
	"math/rand"
	"regexp"
	"slices"
	"strconv"
	"strings"
	"sync"
	"testing"

	"loop.example/g00368/impl"
)

const tooLong = "too long\n"

func lines(all ...string) string {
	if len(all) == 0 {
		return ""
	}
	return strings.Join(all, "\n") + "\n"
}

func wantSaid(t *testing.T, text string, want string) {
	t.Helper()
	if got := impl.RunScript(text); got != want {
		t.Errorf("RunScript(%q) = %q, not %q", text, got, want)
	}
}

// wantSays wants each line, behind those of the script begun, to say what stands behind it.
func wantSays(t *testing.T, begun []string, rows [][2]string) {
	t.Helper()
	ahead := impl.RunScript(lines(begun...))
	for _, row := range rows {
		wantSaid(t, lines(append(slices.Clone(begun), row[0])...), ahead+row[1]+"\n")
	}
}

// looks ask for all that is to be seen of traces 7 to 9.
func looks() []string {
	all := []string{"mail"}
	for region := range 3 {
		all = append(all, fmt.Sprintf("vec %d", region+1), fmt.Sprintf("find %d web 0 50", region+1))
		for trace := 7; trace <= 9; trace++ {
			all = append(all, fmt.Sprintf("level %d %d", region+1, trace), fmt.Sprintf("tree %d %d", region+1, trace))
		}
	}
	return all
}

// begun has spans, a keep, lives and mail of both kinds; acts as there are, all done.
func begun() []string {
	return []string{
		"span 1 7 1 0 web 0 20", "span 1 7 2 1 db 3 9", "span 1 7 3 1 auth 2 30", "keep 1 7", "span 2 8 5 6 web 1 2", "span 2 8 6 5 db 4 5", "span 2 9 4 0 web 6 6", "retire 2 9",
		"ask 2 1", "ask 3 1", "deliver 0",
	}
}

func TestScriptActs(t *testing.T) {
	wantSaid(t, lines(begun()...), strings.Repeat("ok\n", len(begun())))
	wantSays(t, begun(), [][2]string{
		{"span 1 7 4 2 cache 3 4", "ok"}, {"span 3 1000 1000 999 abcdefghijkl 0 1000000000", "ok"}, {"span 2 8 5 0 web 0 0", "ok"},
		{"keep 1 7", "ok"}, {"keep 3 1", "ok"}, {"keep 2 1000", "ok"},
		{"retire 1 7", "ok"}, {"retire 1 9", "ok"}, {"retire 3 1", "ok"}, {"revive 2 9", "ok"},
		{"ask 1 2", "ok"}, {"ask 3 2", "ok"}, {"ask 2 1", "ok"},
		{"deliver 0", "ok"}, {"deliver 1", "ok"}, {"lose 0", "ok"}, {"lose 1", "ok"}, {"twice 0", "ok"}, {"twice 1", "ok"},
	})
}

// Each code that an act may tell: WdWrong and WdFull need a world that no 40 lines make.
func TestScriptActsRefused(t *testing.T) {
	rows := [][2]string{
		{"ask 1 1", "no 2"}, {"ask 3 3", "no 2"},
		{"deliver 2", "no 3"}, {"lose 2", "no 3"}, {"twice 2", "no 3"}, {"deliver 40", "no 3"}, {"lose 1000000000", "no 3"}, {"twice 9999999999", "no 3"},
		{"retire 2 9", "no 4"}, {"revive 1 7", "no 4"}, {"revive 1 9", "no 4"}, {"revive 3 1", "no 4"},
		{"keep 1 0", "no 4"}, {"keep 1 1001", "no 4"}, {"retire 1 0", "no 4"}, {"retire 1 9999999999", "no 4"}, {"revive 1 0", "no 4"}, {"revive 1 1001", "no 4"},
		{"span 1 0 1 0 web 0 0", "no 4"}, {"span 1 1001 1 0 web 0 0", "no 4"}, {"span 1 7 0 0 web 0 0", "no 4"}, {"span 1 7 1001 0 web 0 0", "no 4"},
		{"span 1 7 1 1 web 0 0", "no 4"}, {"span 1 7 1 1001 web 0 0", "no 4"}, {"span 1 7 1 0 web 1 0", "no 4"}, {"span 1 7 1 0 web 0 1000000001", "no 4"},
		{"span 1 7 1 0 web 1000000001 1000000001", "no 4"}, {"span 1 7 1 0 web 9999999999 9999999999", "no 4"},
		{"span 1 7 1 0 abcdefghijklm 0 0", "no 4"}, {"span 1 7 1 0 Web 0 0", "no 4"}, {"span 1 7 1 0 1 0 0", "no 4"}, {"span 1 7 1 0 a:b 0 0", "no 4"}, {"span 1 7 1 0 \t 0 0", "no 4"},
		{"span 1 7 1 0 \xff\x00 0 0", "no 4"}, {"span 1 7 1 0 -1 0 0", "no 4"},
		// Where two refusals meet, the one that is told first.
		{"ask 4 4", "no 2"}, {"ask 0 0", "no 2"}, {"keep 4 0", "no 2"}, {"revive 4 7", "no 2"}, {"span 4 0 0 0 Web 1 0", "no 2"}, {"revive 1 0", "no 4"},
	}
	for _, region := range []string{"0", "4", "5", "6", "1000000000", "9999999999"} {
		rows = append(rows, [2]string{"span " + region + " 7 1 0 web 0 0", "no 2"}, [2]string{"keep " + region + " 7", "no 2"}, [2]string{"retire " + region + " 7", "no 2"},
			[2]string{"revive " + region + " 9", "no 2"}, [2]string{"ask " + region + " 1", "no 2"}, [2]string{"ask 1 " + region, "no 2"})
	}
	wantSays(t, begun(), rows)
	wantSays(t, nil, [][2]string{{"deliver 0", "no 3"}, {"lose 0", "no 3"}, {"twice 0", "no 3"}})
	// A refusal leaves nothing behind.
	want := impl.RunScript(lines(looks()...))
	for _, row := range rows[:8] {
		wantSaid(t, lines(append([]string{row[0]}, looks()...)...), impl.RunScript(lines(row[0]))+want)
	}
}

func TestScriptLooks(t *testing.T) {
	wantSays(t, begun(), [][2]string{
		{"mail", "mail 3:1:0 1:2:3"},
		{"vec 1", "vec 1:4"}, {"vec 2", "vec 2:4"}, {"vec 3", "vec"},
		{"level 1 7", "level 0 kept"}, {"level 2 7", "level 0"}, {"level 2 9", "level 1"}, {"level 1 9", "level 0"}, {"level 3 1", "level 0"},
		{"level 1 0", "level 0"}, {"level 2 1001", "level 0"}, {"level 3 9999999999", "level 0"},
		{"tree 1 7", "tree 0:1:web 1:3:auth 1:2:db"}, {"tree 2 7", "tree"}, {"tree 2 8", "tree 0:5:web 1:6:db"}, {"tree 2 9", "tree 0:4:web"}, {"tree 1 0", "tree"}, {"tree 1 9999999999", "tree"},
		{"path 1 7", "path 1 3"}, {"path 2 8", "path 5 6"}, {"path 2 9", "path 4"}, {"path 3 7", "path"}, {"path 1 0", "path"}, {"path 1 9999999999", "path"},
		{"find 1 web 0 50", "find 7"}, {"find 2 web 0 50", "find 8"}, {"find 2 db 5 5", "find 8"}, {"find 2 db 6 6", "find"}, {"find 2 db 0 3", "find"}, {"find 2 db 0 4", "find 8"},
		{"find 3 web 0 50", "find"}, {"find 1 Web 0 50", "find"}, {"find 1 7 0 50", "find"}, {"find 1 abcdefghijklm 0 50", "find"}, {"find 1 web 5 4", "find"},
		{"find 1 web 0 1000000000", "find 7"}, {"find 1 web 0 1000000001", "find"}, {"find 1 web 9999999999 9999999999", "find"},
	})
	wantSays(t, nil, [][2]string{
		{"mail", "mail"}, {"vec 1", "vec"}, {"vec 2", "vec"}, {"vec 3", "vec"}, {"level 1 1", "level 0"}, {"tree 1 1", "tree"}, {"path 1 1", "path"}, {"find 1 web 0 0", "find"},
	})
	wantSays(t, append(begun(), "calm"), [][2]string{
		{"mail", "mail"}, {"vec 1", "vec 1:4 2:4"}, {"vec 3", "vec 1:4 2:4"}, {"level 3 7", "level 0 kept"}, {"level 3 9", "level 1"},
		{"find 3 web 0 50", "find 7 8"}, {"find 3 db 4 8", "find 7 8"}, {"find 1 web 21 50", "find"}, {"tree 3 8", "tree 0:5:web 1:6:db"},
	})
	wantSays(t, []string{"retire 1 7", "revive 1 7", "keep 1 7", "retire 1 8", "keep 1 8"}, [][2]string{{"level 1 7", "level 2 kept"}, {"level 1 8", "level 1 kept"}, {"vec 1", "vec 1:5"}})
}

// A region that is not there is asked for nothing, whatever else the line has.
func TestScriptLooksAtNoRegion(t *testing.T) {
	var rows [][2]string
	for _, region := range []string{"0", "4", "5", "6", "1000000000", "9999999999", "x", "-1", "01", "10000000000"} {
		for _, line := range []string{"vec R", "level R 7", "tree R 7", "path R 7", "find R web 0 50", "level R 0", "find R web 9 0"} {
			rows = append(rows, [2]string{strings.Replace(line, "R", region, 1), "what"})
		}
	}
	wantSays(t, begun(), rows)
}

// examples has each line of the table; each is done, or says something, behind begun.
func examples() []string {
	return []string{
		"span 1 7 4 2 cache 3 4", "keep 1 8", "retire 1 7", "revive 2 9", "ask 3 2", "deliver 1", "lose 0", "twice 1", "calm",
		"mail", "vec 1", "level 1 7", "tree 1 7", "path 1 7", "find 1 web 0 50",
	}
}

func TestScriptWords(t *testing.T) {
	var rows [][2]string
	for _, line := range examples() {
		words := strings.Split(line, " ")
		for n := 1; n < len(words); n++ {
			rows = append(rows, [2]string{strings.Join(words[:n], " "), "what"}, [2]string{strings.Join(slices.Delete(slices.Clone(words), n, n+1), " "), "what"})
		}
		for _, more := range []string{"1", "0", "web", line} {
			rows = append(rows, [2]string{line + " " + more, "what"}, [2]string{more + " " + line, "what"})
		}
		first := words[0]
		for _, other := range []string{strings.ToUpper(first), strings.ToUpper(first[:1]) + first[1:], first + "s", first[:len(first)-1], first + "\x00", "\xef\xbb\xbf" + first, first + ":", "#" + first} {
			rows = append(rows, [2]string{strings.Replace(line, first, other, 1), "what"})
		}
	}
	for _, line := range []string{"fly", "what", "ok", "no", "life 1 7", "1", "0", "-", "\"mail\"", "mail;", "too long", "\xff\xfe", "maxlines", "world", "RunScript"} {
		rows = append(rows, [2]string{line, "what"})
	}
	wantSays(t, begun(), rows)
}

func TestScriptNumbers(t *testing.T) {
	wrong := []string{
		"+1", "-1", "-0", "+0", "00", "01", "007", "0000000001", "00000000001", "10000000000", "99999999999", "18446744073709551616", "18446744073709551617", "9223372036854775808",
		"1.0", "1e3", "0x1", "0b1", "1_0", "1,0", "a", "R", "/", ":", "\u0661", "\uff11", "1\t", "\t1", "1\r", "1\x00", "\u00a01", "1\u00a0", strings.Repeat("1", 300), strings.Repeat("0", 300),
	}
	var rows [][2]string
	for _, line := range examples() {
		words := strings.Split(line, " ")
		for i, w := range words {
			if w[0] < '0' || w[0] > '9' {
				continue
			}
			for _, n := range wrong {
				spoilt := slices.Clone(words)
				spoilt[i] = n
				rows = append(rows, [2]string{strings.Join(spoilt, " "), "what"})
			}
		}
	}
	// What is no number of the table goes ahead of what the act would refuse.
	rows = append(rows, [2]string{"keep 4 01", "what"}, [2]string{"keep 04 1", "what"}, [2]string{"ask 1 01", "what"}, [2]string{"ask 01 01", "what"}, [2]string{"deliver -1", "what"},
		[2]string{"span 4 7 1 1 Web 1 00", "what"}, [2]string{"lose +9", "what"})
	wantSays(t, begun(), rows)
}

func TestScriptBlanks(t *testing.T) {
	script := append(begun(), examples()...)
	want := impl.RunScript(lines(script...))
	if strings.Contains(want, "what") {
		t.Fatalf("%q", want)
	}
	for _, change := range []func(line string) string{
		func(line string) string { return " " + line },
		func(line string) string { return line + " " },
		func(line string) string { return "     " + line + "   " },
		func(line string) string { return strings.ReplaceAll(line, " ", "  ") },
		func(line string) string { return "  " + strings.ReplaceAll(line, " ", "      ") + " " },
	} {
		var changed []string
		for _, line := range script {
			changed = append(changed, change(line))
		}
		wantSaid(t, lines(changed...), want)
	}
	// Lines without words say nothing.
	for _, empty := range []string{"", " ", "  ", strings.Repeat(" ", 900)} {
		wantSaid(t, lines(empty), "")
		wantSaid(t, lines(empty, "keep 1 7", empty, empty, "vec 1", empty), "ok\nvec 1:1\n")
	}
	// No other sign parts words, and none is left out.
	for _, sign := range []string{"\t", "\r", "\v", "\f", "\x00", "\x1f", "!", "\x85", "\xa0", "\u0085", "\u00a0", "\u2003", "\u3000"} {
		for _, line := range []string{sign, " " + sign + " ", "mail" + sign, sign + "mail", "mail " + sign, sign + " mail", "vec" + sign + "1", "vec 1" + sign, "vec " + sign + "1", "keep 1" + sign + "7", "keep 1 7" + sign} {
			wantSaid(t, lines("keep 1 8", line, "vec 1"), "ok\nwhat\nvec 1:1\n")
		}
	}
}

func TestScriptLimits(t *testing.T) {
	blanks := func(n int) string { return strings.Repeat(" ", n) }
	wantSaid(t, "", "")
	wantSaid(t, "\n", "")
	for _, line := range []string{"mail", "", " ", "fly", "keep 1 7"} {
		for _, n := range []int{1, 39, impl.MaxScript} {
			wantSaid(t, strings.Repeat(line+"\n", n), strings.Repeat(impl.RunScript(line+"\n"), n))
		}
		for _, n := range []int{impl.MaxScript + 1, impl.MaxScript + 2, 400} {
			wantSaid(t, strings.Repeat(line+"\n", n), tooLong)
		}
	}
	// A last line that is not ended, whatever it is, and however many are.
	for _, last := range []string{"mail", " ", "fly", "\t", "\r", "\x00", "keep 1 7", "mail\nmail", "\nmail", "\n\n "} {
		wantSaid(t, last, tooLong)
		wantSaid(t, "mail\n"+last, tooLong)
	}
	wantSaid(t, strings.Repeat("mail\n", impl.MaxScript-1)+"mail", tooLong)
	wantSaid(t, strings.Repeat("mail\n", impl.MaxScript)+"mail", tooLong)
	wantSaid(t, strings.Repeat("mail\n", impl.MaxScript)+" ", tooLong)
	// MaxLines bytes, and one more.
	long := strings.Repeat("a", impl.MaxLines)
	for _, row := range [][2]string{
		{"mail" + blanks(impl.MaxLines-5), "mail\n"}, {blanks(impl.MaxLines-5) + "mail", "mail\n"}, {blanks(impl.MaxLines - 1), ""}, {long[1:], "what\n"},
		{"keep 1 7\nfind 1 " + long[21:] + " 0 9", "ok\nfind\n"}, {"span 1 7 1 0 " + long[18:] + " 0 9", "no 4\n"},
		{"keep 1 7\n\n\nvec 1\n" + blanks(impl.MaxLines-18), "ok\nvec 1:1\n"},
	} {
		text := row[0] + "\n"
		if len(text) != impl.MaxLines {
			t.Fatalf("%d bytes", len(text))
		}
		wantSaid(t, text, row[1])
		wantSaid(t, " "+text, tooLong)
		wantSaid(t, text+"\n", tooLong)
		wantSaid(t, text+text+text, tooLong)
	}
	wantSaid(t, strings.Repeat("mail"+blanks(95)+"\n", impl.MaxScript), strings.Repeat("mail\n", impl.MaxScript))
	wantSaid(t, strings.Repeat("mail"+blanks(95)+"\n", impl.MaxScript-1)+"mail"+blanks(96)+"\n", tooLong)
	// Two of these at once, and all.
	wantSaid(t, strings.Repeat("mail"+blanks(95)+"\n", impl.MaxScript+1), tooLong)
	wantSaid(t, strings.Repeat("mail\n", impl.MaxScript+1)+"mail", tooLong)
	wantSaid(t, long+"a", tooLong)
	wantSaid(t, long, tooLong)
	wantSaid(t, strings.Repeat("mail"+blanks(95)+"\n", impl.MaxScript+1)+"mail", tooLong)
	wantSaid(t, strings.Repeat("\n", 1<<20), tooLong)
}

func TestScriptMail(t *testing.T) {
	wantSaid(t, lines("keep 1 7", "keep 1 7", "keep 1 7", "keep 1 7", "ask 2 1", "ask 3 1", "twice 0", "mail", "deliver 0", "deliver 1", "mail", "lose 0", "deliver 0", "vec 2", "mail", "deliver 0", "vec 2", "mail"),
		strings.Repeat("ok\n", 7)+"mail 2:1:0 3:1:0 2:1:0\nok\nok\nmail 3:1:0 1:2:3 1:2:3\nok\nok\nvec 1:3\nmail 1:2:3\nok\nvec 1:3\nmail\n")
	// One that asks for what it has gets no mail back.
	wantSaid(t, lines("keep 1 7", "ask 1 2", "deliver 0", "mail", "ask 2 1", "keep 1 8", "deliver 0", "mail", "deliver 0", "vec 2"), "ok\nok\nok\nmail\nok\nok\nok\nmail 1:2:2\nok\nvec 1:2\n")
	// As much mail as lines can make is not too much.
	wantSaid(t, strings.Repeat("ask 1 2\n", 40), strings.Repeat("ok\n", 40))
	wantSaid(t, "ask 1 2\n"+strings.Repeat("twice 0\n", 38)+"mail\n", strings.Repeat("ok\n", 39)+"mail"+strings.Repeat(" 1:2:0", 39)+"\n")
}

// In 40 lines no clock comes to its end and no set is full, so that no calm of a script is refused: only its words may be wrong.
func TestScriptCalm(t *testing.T) {
	wantSaid(t, lines("calm", "calm"), "ok 1\nok 1\n")
	for _, line := range []string{"calm 1", "calm 0", "calm calm", "Calm", "calm\t"} {
		wantSaid(t, lines("keep 1 7", line, "vec 2", "calm", "vec 2"), "ok\nwhat\nvec\nok 2\nvec 1:1\n")
	}
	// Batch of them a round, and one that changes nothing.
	for n := 1; n <= 37; n++ {
		rounds := (n+impl.Batch-1)/impl.Batch + 1
		keeps := strings.Repeat("keep 2 7\n", n)
		wantSaid(t, keeps+"calm\ncalm\nvec 3\n", strings.Repeat("ok\n", n)+fmt.Sprintf("ok %d\nok 1\nvec 2:%d\n", rounds, n))
	}
	// The mail is gone, and what each had is had by all.
	wantSaid(t, lines("keep 1 7", "span 2 7 1 0 web 0 9", "retire 3 7", "ask 1 2", "ask 2 3", "mail", "calm", "mail", "vec 1", "vec 2", "vec 3", "level 1 7", "tree 3 7", "deliver 0"),
		"ok\nok\nok\nok\nok\nmail 1:2:0 2:3:0\nok 2\nmail\nvec 1:1 2:1 3:1\nvec 1:1 2:1 3:1\nvec 1:1 2:1 3:1\nlevel 1 kept\ntree 0:1:web\nno 3\n")
	// Two that retire a trace without knowing of one another retire it once.
	wantSaid(t, lines("retire 1 7", "retire 2 7", "calm", "level 3 7", "revive 3 7", "calm", "level 1 7", "find 1 web 0 0"), "ok\nok\nok 2\nlevel 1\nok\nok 2\nlevel 2\nfind\n")
}

// forms has what words each line has behind its first one: W a word, all else in decimal.
var forms = map[string]string{
	"span": "RTIPWAB", "keep": "RT", "retire": "RT", "revive": "RT", "ask": "RS", "deliver": "I", "lose": "I", "twice": "I",
	"calm": "", "mail": "", "vec": "R", "level": "RT", "tree": "RT", "path": "RT", "find": "RWAB",
}

var decimal = regexp.MustCompile(`^(0|[1-9][0-9]{0,9})$`)

func actByWords(word string, n map[byte]int64, service string) (impl.WAct, bool) {
	switch word {
	case "span":
		return opAct(n['R'], spanOp(n['T'], span(n['I'], n['P'], service, n['A'], n['B']))), true
	case "keep":
		return opAct(n['R'], op(impl.OpKeep, n['T'])), true
	case "retire":
		return opAct(n['R'], op(impl.OpRetire, n['T'])), true
	case "revive":
		return opAct(n['R'], op(impl.OpRevive, n['T'])), true
	case "ask":
		return askAct(n['R'], n['S']), true
	case "deliver":
		return mailAct(impl.WaDeliver, n['I']), true
	case "lose":
		return mailAct(impl.WaLose, n['I']), true
	case "twice":
		return mailAct(impl.WaTwice, n['I']), true
	}
	return impl.WAct{}, false
}

func lookByWords(l []impl.Update, word string, n map[byte]int64, service string) string {
	said := word
	switch word {
	case "vec":
		for _, d := range impl.VectorOf(l) {
			said += fmt.Sprintf(" %d:%d", d.Region, d.N)
		}
	case "level":
		said += fmt.Sprintf(" %d", impl.LevelOf(l, n['T']))
		if impl.Kept(l, n['T']) {
			said += " kept"
		}
	case "tree":
		for _, node := range impl.ForestOf(l, n['T']) {
			said += fmt.Sprintf(" %d:%d:%s", node.Deep, node.Span.Id, node.Span.Service)
		}
	case "path":
		for _, id := range impl.Longest(l, n['T']) {
			said += fmt.Sprintf(" %d", id)
		}
	case "find":
		for _, trace := range impl.Found(l, service, n['A'], n['B']) {
			said += fmt.Sprintf(" %d", trace)
		}
	}
	return said
}

// lineByWords says what one line says, by the words of the document, and changes w as it does.
func lineByWords(w *impl.World, words []string) string {
	form, there := forms[words[0]]
	if !there || len(form) != len(words)-1 {
		return "what"
	}
	n, service := map[byte]int64{}, ""
	for i, word := range words[1:] {
		if form[i] == 'W' {
			service = word
			continue
		}
		if !decimal.MatchString(word) {
			return "what"
		}
		n[form[i]], _ = strconv.ParseInt(word, 10, 64)
	}
	if a, ok := actByWords(words[0], n, service); ok {
		next, code := doneByWords(*w, a)
		if *w = next; code != impl.WdDone {
			return fmt.Sprintf("no %d", code)
		}
		return "ok"
	}
	switch words[0] {
	case "calm":
		next, rounds, ok := calmedByWords(*w)
		if !ok {
			return "no"
		}
		*w = next
		return fmt.Sprintf("ok %d", rounds)
	case "mail":
		said := "mail"
		for _, m := range w.Mail {
			said += fmt.Sprintf(" %d:%d:%d", m.From, m.To, len(m.Delta))
		}
		return said
	}
	if n['R'] < 1 || n['R'] > 3 {
		return "what"
	}
	return lookByWords(w.Regions[n['R']-1].Set, words[0], n, service)
}

// scriptByWords has what each line of a script that is not too long says, "" for those that say nothing.
func scriptByWords(script []string) []string {
	w := worldAt(0, 0, nil, nil, nil)
	var said []string
	for _, line := range script {
		words := slices.DeleteFunc(strings.Split(line, " "), func(word string) bool { return word == "" })
		if len(words) == 0 {
			said = append(said, "")
			continue
		}
		said = append(said, lineByWords(&w, words)+"\n")
	}
	return said
}

func anyActLine(r *rand.Rand) string {
	at := 1 + r.Intn(3)
	switch r.Intn(13) {
	case 0, 1, 2, 3:
		start := r.Intn(6)
		return fmt.Sprintf("span %d %d %d %d %s %d %d", at, 7+r.Intn(2), 1+r.Intn(5), r.Intn(6), []string{"web", "db"}[r.Intn(2)], start, start+r.Intn(6))
	case 4:
		return fmt.Sprintf("keep %d %d", at, 7+r.Intn(2))
	case 5:
		return fmt.Sprintf("retire %d %d", at, 7+r.Intn(2))
	case 6:
		return fmt.Sprintf("revive %d %d", at, 7+r.Intn(2))
	case 7, 8:
		return fmt.Sprintf("ask %d %d", at, 1+at%3)
	case 9, 10:
		return fmt.Sprintf("deliver %d", r.Intn(2))
	case 11:
		return fmt.Sprintf("%s %d", []string{"lose", "twice"}[r.Intn(2)], r.Intn(3))
	}
	return []string{"calm", "ask 1 1", "keep 4 7"}[r.Intn(3)]
}

// anyAskLine changes nothing.
func anyAskLine(r *rand.Rand) string {
	at, trace := r.Intn(5), 7+r.Intn(2)
	switch r.Intn(9) {
	case 0:
		return "mail"
	case 1:
		return fmt.Sprintf("vec %d", at)
	case 2:
		return fmt.Sprintf("level %d %d", at, trace)
	case 3, 4:
		return fmt.Sprintf("tree %d %d", at, trace)
	case 5:
		return fmt.Sprintf("path %d %d", at, trace)
	case 6:
		from := r.Intn(9)
		return fmt.Sprintf("find %d %s %d %d", at, []string{"web", "db", "Web"}[r.Intn(3)], from, from+r.Intn(4)-1)
	case 7:
		return []string{"", " ", "   "}[r.Intn(3)]
	}
	return []string{"fly", "what", "keep 1", "keep 1 07", "calm 1", "deliver", "deliver +0", "span 1 7 1 0 web 0", "ask 1 2 3", "retire x 7", "\t"}[r.Intn(11)]
}

func anyScript(r *rand.Rand, most int) []string {
	var script []string
	for range r.Intn(most + 1) {
		line := anyActLine(r)
		if r.Intn(3) == 0 {
			line = anyAskLine(r)
		}
		if r.Intn(20) == 0 {
			line = strings.Replace(line, " ", []string{"  ", " 0", "\t", " 1 ", ""}[r.Intn(5)], 1)
		}
		script = append(script, line)
	}
	return script
}

func TestScriptsByWords(t *testing.T) {
	r := rand.New(rand.NewSource(61))
	met := map[string]int{}
	for range 1500 {
		script := anyScript(r, impl.MaxScript)
		want := scriptByWords(script)
		if got := impl.RunScript(lines(script...)); got != strings.Join(want, "") {
			t.Fatalf("RunScript(%q) = %q, not %q", script, got, want)
		}
		for _, said := range want {
			met[strings.Join(strings.Split(strings.TrimSpace(said)+" ", " ")[:2], " ")]++
		}
	}
	for _, said := range []string{"ok ", "ok 1", "ok 2", "no 2", "no 3", "no 4", "what ", "mail ", "vec 1:1", "level 1", "level 2", "tree 0:1:web", "path 1", "find 7", "find 8"} {
		if met[said] == 0 {
			t.Errorf("no line said %q: %v", said, met)
		}
	}
}

// P8: what a script said stays said when more lines stand behind it.
func TestWhatIsSaidStaysSaid(t *testing.T) {
	r := rand.New(rand.NewSource(67))
	for range 100 {
		script := anyScript(r, impl.MaxScript)
		whole := impl.RunScript(lines(script...))
		for end := range script {
			ahead := impl.RunScript(lines(script[:end]...))
			if !strings.HasPrefix(whole, ahead) {
				t.Fatalf("%q said %q, and with more behind it %q", script[:end], ahead, whole)
			}
		}
		// As long as there are not too many lines or bytes.
		wantSaid(t, lines(script...)+strings.Repeat("\n", impl.MaxScript-len(script)), whole)
		wantSaid(t, lines(script...)+strings.Repeat("\n", impl.MaxScript-len(script)+1), tooLong)
	}
}

// P8: lines that ask change nothing, wherever they stand.
func TestLinesThatAskChangeNothing(t *testing.T) {
	r := rand.New(rand.NewSource(71))
	for range 300 {
		var acts, all []string
		var asked []bool
		for range r.Intn(12) {
			acts = append(acts, anyActLine(r))
		}
		acts = append(acts, looks()[:7]...)
		for _, line := range acts {
			for range r.Intn(2) + r.Intn(2) {
				all, asked = append(all, anyAskLine(r)), append(asked, true)
			}
			all, asked = append(all, line), append(asked, false)
		}
		all, asked = all[:min(len(all), impl.MaxScript)], asked[:min(len(all), impl.MaxScript)]
		want, left := "", impl.RunScript(lines(acts...))
		for i, said := range saidByLine(t, all) {
			if !asked[i] {
				want += said
			}
		}
		if !strings.HasPrefix(left, want) || len(all) < impl.MaxScript && left != want {
			t.Fatalf("%q says %q, and %q without its asking lines", all, want, left)
		}
	}
	// Each line that asks, and each that is none, between any two acts.
	for _, line := range append(append(examples()[9:], "vec 4", "tree 0 7", "fly", "keep 1", "", "  ", "calm 1"), looks()...) {
		for at := range len(begun()) + 1 {
			script := slices.Insert(begun(), at, line)
			before, here := impl.RunScript(lines(begun()[:at]...)), impl.RunScript(lines(script[:at+1]...))
			wantSaid(t, lines(append(script, looks()...)...), here+strings.TrimPrefix(impl.RunScript(lines(append(begun(), looks()...)...)), before))
		}
	}
}

// saidByLine runs the script line by line longer, so that it tells what each line says.
func saidByLine(t *testing.T, script []string) []string {
	t.Helper()
	var all []string
	last := ""
	for i := range script {
		said := impl.RunScript(lines(script[:i+1]...))
		if !strings.HasPrefix(said, last) {
			t.Fatalf("%q said %q, not behind %q", script[:i+1], said, last)
		}
		all = append(all, strings.TrimPrefix(said, last))
		last = said
	}
	return all
}

// Whatever bytes there are, an answer is given: a line for each line with words, or "too long" alone.
func TestScriptsOfAnyBytes(t *testing.T) {
	r := rand.New(rand.NewSource(73))
	signs := []string{" ", " ", " ", "\n", "\n", "1", "0", "7", "9", "-", "\t", "\x00", "\xff", "keep", "vec", "mail", "calm", "span", "ask", "deliver", "find", "tree", "web"}
	for range 3000 {
		var text strings.Builder
		for range r.Intn(60) {
			text.WriteString(signs[r.Intn(len(signs))])
		}
		if r.Intn(4) > 0 {
			text.WriteString("\n")
		}
		want := tooLong
		if s := text.String(); s == "" {
			want = ""
		} else if strings.HasSuffix(s, "\n") && strings.Count(s, "\n") <= impl.MaxScript {
			want = strings.Join(scriptByWords(strings.Split(strings.TrimSuffix(s, "\n"), "\n")), "")
		}
		wantSaid(t, text.String(), want)
	}
}

// P9: the same script says the same again, however many run at once.
func TestScriptsSayTheSameAgain(t *testing.T) {
	script := lines(append(append(begun(), examples()...), looks()[:12]...)...)
	want := impl.RunScript(script)
	kept := strings.Clone(script)
	var all sync.WaitGroup
	for range 8 {
		all.Go(func() {
			for range 5 {
				if got := impl.RunScript(script); got != want {
					t.Errorf("%q, not %q", got, want)
				}
			}
		})
	}
	all.Wait()
	if script != kept {
		t.Error("the script was written")
	}
}
