package console

import (
	"strings"

	"oberlin/api"
	"oberlin/check"
	"oberlin/drive"
	"oberlin/face"
	"oberlin/gen"
	"oberlin/layout"
	"oberlin/parse"
	"oberlin/print"
	"oberlin/tidy"
)

// command: what a line does that begins with its word.
type command struct {
	behind int  // so many words stand behind that
	more   bool // and perhaps others behind these
	does   func(d *desk, words []string) (string, error)
}

// takes says whether so many words may stand behind a command's own.
func (c command) takes(count int) bool { return count == c.behind || c.more && count > c.behind }

// ok: the answer of what has nothing else to tell.
const ok = "ok"

func commands() map[string]command {
	return map[string]command{
		"check":   {does: (*desk).check},
		"face":    {does: (*desk).face, behind: 1},
		"key":     {does: (*desk).key, behind: 1},
		"size":    {does: (*desk).size, behind: 2},
		"print":   {does: (*desk).print, behind: 1},
		"tidy":    {does: (*desk).tidy, behind: 1},
		"heap":    {does: (*desk).setHeap, behind: 1},
		"do":      {does: (*desk).do, behind: 2, more: true},
		"collect": {does: (*desk).collect},
		"run":     {does: (*desk).run},
		"clear":   {does: (*desk).clear},
	}
}

func (d *desk) check([]string) (string, error) { return ok, check.Check(d.texts) }

// module is the number of a text, which a word tells.
func (d *desk) module(word string) (int, error) {
	i, err := number(word)
	if err != nil {
		return 0, err
	}
	if i < 0 || i >= len(d.texts) {
		return 0, api.ErrName
	}
	return i, nil
}

func (d *desk) face(words []string) (string, error) {
	i, err := d.module(words[0])
	if err != nil {
		return "", err
	}
	text, err := face.Of(d.texts, i)
	return oneLine(text), err
}

func (d *desk) key(words []string) (string, error) {
	i, err := d.module(words[0])
	if err != nil {
		return "", err
	}
	key, err := face.Key(d.texts, i)
	return list(key), err
}

func (d *desk) size(words []string) (string, error) {
	i, err := d.module(words[0])
	if err != nil {
		return "", err
	}
	size, points, err := layout.Of(d.texts, i, words[1])
	return list(append([]int{size}, points...)...), err
}

// tree of the text whose number a word tells.
func (d *desk) tree(word string) (api.Node, error) {
	i, err := d.module(word)
	if err != nil {
		return api.Node{}, err
	}
	return parse.Parse(d.texts[i])
}

func (d *desk) print(words []string) (string, error) {
	tree, err := d.tree(words[0])
	if err != nil {
		return "", err
	}
	text, err := print.Text(tree)
	return oneLine(text), err
}

func (d *desk) tidy(words []string) (string, error) {
	tree, err := d.tree(words[0])
	if err != nil {
		return "", err
	}
	tree, err = tidy.Fold(tree)
	if err != nil {
		return "", err
	}
	text, err := print.Text(tree)
	return oneLine(text), err
}

func (d *desk) setHeap(words []string) (string, error) {
	heap, err := number(words[0])
	if err != nil {
		return "", err
	}
	if heap < 0 || heap > api.MaxHeap {
		return "", api.ErrLimit
	}
	d.heap = heap
	return ok, nil
}

func (d *desk) do(words []string) (string, error) {
	input, err := numbers(words[2:])
	if err != nil {
		return "", err
	}
	return d.add(api.Deed{Module: words[0], Proc: words[1], Input: input})
}

func (d *desk) collect([]string) (string, error) { return d.add(api.Deed{}) }

// add puts a deed behind the others of the script.
func (d *desk) add(deed api.Deed) (string, error) {
	if len(d.script) >= api.MaxDeeds {
		return "", api.ErrLimit
	}
	d.script = append(d.script, deed)
	return ok, nil
}

func (d *desk) run([]string) (string, error) {
	objects, err := gen.Compile(d.texts)
	if err != nil {
		return "", err
	}
	events, err := drive.Run(objects, d.heap, d.script)
	if err != nil {
		return "", err
	}
	var told []string
	for _, e := range events {
		told = append(told, list(append([]int{e.Trap, e.Used}, e.Out...)...))
	}
	return strings.Join(told, "|"), nil
}

func (d *desk) clear([]string) (string, error) {
	d.texts, d.script, d.heap = nil, nil, firstHeap
	return ok, nil
}
