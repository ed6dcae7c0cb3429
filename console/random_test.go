package console_test

import (
	"fmt"
	"math/rand"
	"regexp"
	"slices"
	"strconv"
	"strings"
	"sync"
	"testing"

	"oberlin/api"
	"oberlin/check"
	"oberlin/console"
	"oberlin/face"
	"oberlin/layout"
	"oberlin/mean"
	"oberlin/parse"
	"oberlin/print"
	"oberlin/tidy"
)

// model: a session as it should be, by what the other layers tell; what runs is told by trees.
type model struct {
	texts  []string
	heap   int
	script []api.Deed
}

var (
	moduleText = regexp.MustCompile(`^(?s)text\n(?:(.*?)\n)??\.(?:\n|$)`)
	firstLine  = regexp.MustCompile(`^([^\n]*)(?:\n|$)`)
	aNumber    = regexp.MustCompile(`^(0|-?[1-9][0-9]{0,5})$`)
)

// wanted is what a session should answer; the very first line is there also if the session is empty.
func wanted(session string) string {
	if len(session) > api.MaxText {
		return "too long\n"
	}
	m := model{heap: 200}
	told := ""
	for first := true; first || session != ""; first = false {
		if more := len(m.texts) < api.MaxModules; more && moduleText.MatchString(session) {
			l := moduleText.FindStringSubmatch(session)
			m.texts, session = append(m.texts, l[1]), session[len(l[0]):]
			told += "ok\n"
			continue
		} else if more && (session == "text" || strings.HasPrefix(session, "text\n")) {
			return told
		}
		l := firstLine.FindStringSubmatch(session)
		session = session[len(l[0]):]
		answer, err := m.line(strings.Split(l[1], " "))
		if e, text, at := api.Tell(err); at >= 0 {
			answer = fmt.Sprintf("error %d in %d at %d", e, text, at)
		} else if err != nil {
			answer = fmt.Sprintf("error %d", e)
		}
		told += answer + "\n"
	}
	return told
}

// line answers one that is neither a text's nor begins one.
func (m *model) line(words []string) (string, error) {
	switch name := words[0]; {
	case name == "do" && len(words) >= 3:
		var input []int
		for _, x := range words[3:] {
			if !aNumber.MatchString(x) {
				return "", api.ErrSign
			}
			n, _ := strconv.Atoi(x)
			input = append(input, n)
		}
		return m.deed(api.Deed{Module: words[1], Proc: words[2], Input: input})
	case len(words) == 1:
		return m.alone(name)
	case len(words) == 2 && slices.Contains([]string{"face", "key", "print", "tidy", "heap"}, name), len(words) == 3 && name == "size":
		if !aNumber.MatchString(words[1]) {
			return "", api.ErrSign
		}
		n, _ := strconv.Atoi(words[1])
		return m.numbered(name, n, words[len(words)-1])
	}
	return "bad", nil
}

// alone answers a line of one word.
func (m *model) alone(name string) (string, error) {
	switch name {
	case "check":
		return "ok", check.Check(m.texts)
	case "collect":
		return m.deed(api.Deed{})
	case "run":
		events, err := mean.Run(m.texts, m.heap, m.script)
		told := ""
		for i, e := range events {
			told += []string{"", "|"}[min(i, 1)] + fmt.Sprint(e.Trap, e.Used)
			for _, x := range e.Out {
				told += fmt.Sprint(" ", x)
			}
		}
		return told, err
	case "clear":
		*m = model{heap: 200}
		return "ok", nil
	}
	return "bad", nil
}

// numbered answers a line with a number, and perhaps a name behind it.
func (m *model) numbered(line string, n int, name string) (string, error) {
	if line == "heap" {
		if n < 0 || n > 4096 {
			return "", api.ErrLimit
		}
		m.heap = n
		return "ok", nil
	}
	if n < 0 || n >= len(m.texts) {
		return "", api.ErrName
	}
	switch line {
	case "face":
		told, err := face.Of(m.texts, n)
		return piped(told), err
	case "key":
		key, err := face.Key(m.texts, n)
		return fmt.Sprint(key), err
	case "size":
		size, points, err := layout.Of(m.texts, n, name)
		return strings.Trim(fmt.Sprint(append([]int{size}, points...)), "[]"), err
	}
	tree, err := parse.Parse(m.texts[n])
	if err == nil && line == "tidy" {
		tree, err = tidy.Fold(tree)
	}
	if err != nil {
		return "", err
	}
	told, err := print.Text(tree)
	return piped(told), err
}

// piped is a text of lines, each with a newline.
func piped(text string) string {
	return strings.Join(strings.FieldsFunc(text, func(r rune) bool { return r == '\n' }), "|")
}

func (m *model) deed(d api.Deed) (string, error) {
	if len(m.script) == 40 {
		return "", api.ErrLimit
	}
	m.script = append(m.script, d)
	return "ok", nil
}

// drawLine is a line of a session, often a right one.
func drawLine(r *rand.Rand) string {
	some := func(words string) string { l := strings.Split(words, "|"); return l[r.Intn(len(l))] }
	number := some("0|0|0|1|1|2|3|7|20|4096|4097|-1|-0|01|123456|1234567|x||999999|-999999")
	switch r.Intn(12) {
	case 0:
		return some("check|check |Check|")
	case 1, 2:
		return some("face|key|print|tidy|heap|face |print  ") + " " + number
	case 3:
		return "size " + number + " " + some("R|P|Big|Nix||T|Row 1")
	case 4, 5, 6:
		return "do " + some("M|L|E|H|") + " " + some("Go|Six|Link|Drop|Fill|Push||Nix") + strings.Repeat(" "+number, r.Intn(4))
	case 7:
		return some("collect|do  |do|do M|do   1")
	case 8, 9:
		return "run"
	case 10:
		return some("heap 20|heap 5|heap 0|clear|text|.|foo|run run| ")
	}
	return text(some(strings.Join([]string{list, user, echo, hoard, keeper, "MODULE M; BEGIN x := 1 + END M.", "MODULE T; TYPE Row = ARRAY 3 OF INTEGER; END T.", "", "\n", "check\n..", "MODULE M; VAR i: INTEGER; BEGIN i := TRUE END M."}, "|")))
}

// drawSession is some of them, often behind right modules; now and then as many deeds as there may be.
func drawSession(r *rand.Rand) string {
	var l []string
	if r.Intn(3) > 0 {
		l = append(l, text(list), text([]string{user, keeper}[r.Intn(2)]))
	}
	for range r.Intn(20) {
		l = append(l, drawLine(r))
	}
	if r.Intn(8) == 0 {
		l = append(l, slices.Repeat([]string{drawLine(r)}, r.Intn(60))...)
		l = append(l, drawLine(r), "run")
	}
	return strings.Join(l, "\n") + []string{"", "\n", "\n\n"}[r.Intn(3)]
}

// asWanted holds a session against the model; and what is answered hangs on the lines up to there alone.
func asWanted(t *testing.T, session string) {
	t.Helper()
	got := console.Session(session)
	if want := wanted(session); got != want {
		t.Fatalf("%q\nwanted %q\nof %q", got, want, session)
	}
	if cut := strings.LastIndexByte(strings.TrimSuffix(session, "\n"), '\n'); cut >= 0 && len(session) <= api.MaxText {
		if ahead := console.Session(session[:cut+1]); !strings.HasPrefix(got, ahead) {
			t.Fatalf("%q, and without the last line %q\nof %q", got, ahead, session)
		}
	}
}

// Q1, on sessions that are drawn.
func TestDrawn(t *testing.T) {
	r := rand.New(rand.NewSource(1))
	seen := map[string]bool{}
	for range 3000 {
		session := drawSession(r)
		asWanted(t, session)
		for _, x := range strings.Split(console.Session(session), "\n") {
			seen[strings.SplitN(x, " in ", 2)[0]] = true
		}
	}
	for _, x := range []string{"ok", "bad", "error 1", "error 2", "error 3", "error 4", "error 5", "error 6", "error 7", "too long", ""} {
		if !seen[x] {
			t.Errorf("%q was never answered", x)
		}
	}
}

// Z2: what comes out is the same each time, whatever ran before, and whatever runs beside it.
func TestAgainAndAgain(t *testing.T) {
	r := rand.New(rand.NewSource(2))
	var sessions, first []string
	for range 200 {
		sessions = append(sessions, drawSession(r))
	}
	for _, x := range sessions {
		first = append(first, console.Session(x))
	}
	for i := len(sessions) - 1; i >= 0; i-- {
		if again := console.Session(sessions[i]); again != first[i] {
			t.Errorf("%q, and again %q\nof %q", first[i], again, sessions[i])
		}
	}
	var all sync.WaitGroup
	for i, x := range sessions {
		all.Go(func() {
			if beside := console.Session(x); beside != first[i] {
				t.Errorf("%q, and beside others %q\nof %q", first[i], beside, x)
			}
		})
	}
	all.Wait()
}

// Q1, on sessions that are looked for.
func FuzzSession(f *testing.F) {
	r := rand.New(rand.NewSource(3))
	for range 40 {
		f.Add(drawSession(r))
	}
	f.Add("")
	f.Add("text")
	f.Add("text\n.")
	f.Add(strings.Repeat("x", api.MaxText+1))
	f.Fuzz(asWanted)
}
