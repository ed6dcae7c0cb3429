package console

import (
	"strings"

	"oberlin/api"
)

// desk: what a session has. The builder has its answers so far.
type desk struct {
	strings.Builder
	commands map[string]command
	texts    []string
	heap     int
	script   []api.Deed
	open     bool     // a module's text was begun, and had no dot yet
	lines    []string // of that text
}

// firstHeap: the heap of a session that has told none.
const firstHeap = 200

func newDesk() *desk { return &desk{commands: commands(), heap: firstHeap} }

// read takes the next line. Within a module's text none is a command, and beside one a dot ends nothing.
func (d *desk) read(line string) {
	switch {
	case d.open && line == ".":
		d.closeText()
	case d.open:
		d.lines = append(d.lines, line)
	case line == "text" && len(d.texts) < api.MaxModules:
		d.open = true
	default:
		d.tell(d.answer(line))
	}
}

func (d *desk) closeText() {
	d.texts = append(d.texts, strings.Join(d.lines, "\n"))
	d.open, d.lines = false, nil
	d.tell(ok)
}

// tell puts an answer behind the others.
func (d *desk) tell(answer string) {
	d.WriteString(answer)
	d.WriteByte('\n')
}

// answer does what a line says.
func (d *desk) answer(line string) string {
	words := strings.Split(line, " ")
	c, known := d.commands[words[0]]
	if !known || !c.takes(len(words)-1) {
		return "bad"
	}
	answer, err := c.does(d, words[1:])
	if err != nil {
		return wrong(err)
	}
	return answer
}
