package script_test

import (
	"fmt"
	"regexp"
	"slices"
	"strconv"
	"strings"
	"testing"

	"slabyard/api"
	"slabyard/buffer"
	"slabyard/play"
	"slabyard/script"
	"slabyard/zone"
)

// model is what a script ought to do: a play is asked what the document tells of each line, and the model itself knows which
// objects are loose.
type model struct {
	p     *play.Play
	nodes int
	loose []api.Object
}

// forms of lines, by names of commands.
func forms() map[string]*regexp.Regexp {
	const n, text = `(0|[1-9][0-9]{0,4})`, `([a-z0-9]+)`
	l := map[string]*regexp.Regexp{}
	for name, form := range map[string]string{
		"nodes": n + `( ` + n + `)*`, "run": n + `( ` + n + `)*`, "make": n + ` ` + text, "clone": n + ` ` + n + ` ` + n, "split": n + ` ` + n,
		"join": n + ` ` + n, "write": n + ` ` + n + ` ` + n + ` ` + text, "pull": n + ` ` + n + ` ` + n, "free": n + ` ` + n, "read": n,
		"len": n, "parts": n, "free-pages": n, "take": n + ` ` + n, "give": n + ` ` + n + `:` + n, "reclaim": n,
	} {
		l[name] = regexp.MustCompile(`\A` + name + ` ` + form + `\z`)
	}
	for _, name := range []string{"list", "audit"} {
		l[name] = regexp.MustCompile(`\A` + name + `\z`)
	}
	return l
}

var known = forms()

// answer to a line.
func (m *model) answer(line string) string {
	name, rest, _ := strings.Cut(line, " ")
	if form := known[name]; form == nil || !form.MatchString(line) {
		return api.ErrText.Error()
	}
	var l []int
	for word := range strings.FieldsFuncSeq(rest, func(r rune) bool { return r == ' ' || r == ':' }) {
		n, _ := strconv.Atoi(word) // what is no number is a text
		l = append(l, n)
	}
	text, err := m.do(name, l, rest[strings.LastIndexByte(rest, ' ')+1:])
	if err != nil {
		return err.Error()
	}
	return text
}

func (m *model) do(name string, l []int, text string) (string, error) {
	if name == "nodes" {
		return m.begin(l)
	}
	if m.p == nil {
		return "", api.ErrNone
	}
	y, h := m.p.Yard(), m.p.House()
	var n int
	var err error
	switch name {
	case "make":
		n, err = y.Make(buffer.Who{Worker: l[0], Node: 0}, text)
	case "clone":
		n, err = y.Clone(l[0], l[1], l[2])
	case "split":
		n, err = y.Split(l[0], l[1])
	case "len":
		n, err = y.Len(l[0])
	case "parts":
		n, err = y.Parts(l[0])
	case "free-pages":
		n, err = h.Zone().Free(l[0])
	case "reclaim":
		n, err = h.Reclaim(l[0])
	case "join":
		return "ok", y.Join(l[0], l[1])
	case "write":
		return "ok", y.Write(buffer.Who{Worker: l[0], Node: 0}, l[1], l[2], text)
	case "pull":
		return "ok", y.Pull(buffer.Who{Worker: l[0], Node: 0}, l[1], l[2])
	case "free":
		return "ok", y.Free(buffer.Who{Worker: l[0], Node: 0}, l[1])
	case "audit":
		return "ok", h.Audit()
	case "read":
		return m.read(l[0])
	case "list":
		return listed(y.IDs()), nil
	case "take":
		o, err := m.take(l[0], l[1])
		return fmt.Sprintf("%d:%d", o.Node, o.At), err
	case "give":
		return "ok", m.give(l[0], api.Object{Node: l[1], At: l[2]})
	case "run":
		return listed(m.run(l)), nil
	}
	return fmt.Sprint(n), err
}

// listed numbers, or nothing.
func listed(l []int) string {
	if len(l) == 0 {
		return "nothing"
	}
	return strings.Trim(fmt.Sprint(l), "[]")
}

func (m *model) begin(pages []int) (string, error) {
	c := zone.Config{Pages: pages, Marks: api.Marks{Min: 1, Low: 2, High: 3}}
	for i := range pages {
		c.Near = append(c.Near, nil)
		for j := range pages {
			far := 1
			if i == j {
				far = 0
			}
			c.Near[i] = append(c.Near[i], far)
		}
	}
	p, err := play.New(c)
	if err == nil {
		m.p, m.nodes, m.loose = p, len(pages), nil
	}
	return "ok", err
}

func (m *model) read(id int) (string, error) {
	n, err := m.p.Yard().Len(id)
	if err != nil {
		return "", err
	}
	if n == 0 {
		return "nothing", nil
	}
	return m.p.Yard().Read(id, 0, n)
}

func (m *model) take(worker, node int) (api.Object, error) {
	o, err := m.p.House().Take(1, worker, node)
	if err == nil {
		m.loose = append(m.loose, o)
	}
	return o, err
}

func (m *model) give(worker int, o api.Object) error {
	if err := m.p.House().Give(1, worker, o); err != nil {
		return err
	}
	if i := slices.Index(m.loose, o); i >= 0 {
		m.loose = append(m.loose[:i:i], m.loose[i+1:]...)
	}
	return nil
}

// run numbers: those of loose objects by itself.
func (m *model) run(script []int) []int {
	codes := map[error]int{nil: 0, api.ErrFull: 5}
	var l []int
	for _, v := range script[:min(2000, len(script))] {
		q := v / 16
		switch {
		case v%16 == 8:
			_, err := m.take(q%2, q%m.nodes)
			l = append(l, codes[err])
		case v%16 == 9 && len(m.loose) == 0:
			l = append(l, 4)
		case v%16 == 9:
			l = append(l, codes[m.give(q%2, m.loose[q%len(m.loose)])])
		default:
			l = append(l, m.p.Run([]int{v})...)
		}
	}
	return l
}

// walker makes lines.
type walker struct {
	state uint32
	many  bool // buffers, of few blocks
	m     model
}

func (w *walker) next(n int) int {
	w.state = w.state*1664525 + 1013904223
	return int(w.state>>8) % n
}

// some number: mostly a small one.
func (w *walker) some(n int) int {
	if w.next(25) == 0 {
		return w.next(100000)
	}
	return w.next(n)
}

// buffer of the play, mostly.
func (w *walker) buffer() int {
	if w.m.p == nil || w.next(20) == 0 {
		return w.some(30)
	}
	l := append(w.m.p.Yard().IDs(), 1)
	return l[w.next(len(l))]
}

// object that is loose, mostly.
func (w *walker) object() api.Object {
	if len(w.m.loose) == 0 || w.next(8) == 0 {
		return api.Object{Node: w.next(3), At: 64 * w.next(10)}
	}
	return w.m.loose[w.next(len(w.m.loose))]
}

func (w *walker) text() string {
	const letters = "abcdefghijklmnopqrstuvwxyz0123456789"
	text := strings.Builder{}
	for range 1 + w.next([]int{1, 4, 20, 80, 250, 700}[w.next(6)]) {
		text.WriteByte(letters[w.next(len(letters))])
	}
	return text.String()
}

func (w *walker) numbers(most, below int) string {
	l := []int{w.some(below)}
	for range w.next(most) {
		l = append(l, w.some(below))
	}
	return listed(l)
}

// line that is one.
func (w *walker) line() string {
	worker, id, o := w.some(2), w.buffer(), w.object()
	if w.many && w.next(6) > 0 {
		at := w.next(3)
		return []string{fmt.Sprint("split ", id, at), fmt.Sprint("clone ", id, at, w.next(2)), fmt.Sprint("clone ", id, 0, 2), "make 0 xyz"}[w.next(4)]
	}
	switch w.next(27) {
	case 0:
		if w.next(4) == 0 {
			return "nodes " + w.numbers(5, 12)
		}
		return "list"
	case 1, 2, 3:
		return fmt.Sprint("make ", worker, " ", w.text())
	case 4, 5:
		return fmt.Sprint("clone ", id, w.some(20), w.some(20))
	case 6, 7:
		return fmt.Sprint("split ", id, w.some(30))
	case 8, 9:
		return fmt.Sprint("join ", id, w.buffer())
	case 10, 11:
		return fmt.Sprint("write ", worker, id, w.some(20), " ", w.text())
	case 12:
		return fmt.Sprint("pull ", worker, id, w.some(30))
	case 13:
		return fmt.Sprint("free ", worker, id)
	case 14:
		return fmt.Sprint("read ", id)
	case 15:
		return fmt.Sprint("len ", id)
	case 16:
		return fmt.Sprint("parts ", id)
	case 17:
		return fmt.Sprint("free-pages ", w.some(3))
	case 18, 19:
		return fmt.Sprint("take ", worker, w.some(3))
	case 20, 21:
		return fmt.Sprint("give ", worker, o.Node, ":", o.At)
	case 22:
		return fmt.Sprint("reclaim ", w.some(3))
	case 23, 24:
		return "audit"
	}
	return "run " + w.numbers(12, 900)
}

// spoilt is a line of which something is in the way, or nothing.
func (w *walker) spoilt(line string) string {
	i := w.next(len(line) + 1)
	switch w.next(4) {
	case 0:
		return line[:i]
	case 1:
		return line[i:]
	case 2:
		return line[:i] + line[min(i+1, len(line)):]
	}
	return line[:i] + string(" 0:-A+\tz.é"[w.next(10)]) + line[i:]
}

func TestWalk(t *testing.T) { // P120, P121: many scripts, each line held against the model
	seen := map[string]int{}
	for seed := range 800 {
		w := &walker{state: uint32(seed), many: seed%4 == 3}
		var lines, wants []string
		for k := range api.MaxLines {
			line := w.line()
			if k == seed%3 {
				line = "nodes " + []string{"1", "2", "4", "9 6", "3 2 5", "20 1 1 7", "256 256"}[seed%7]
			}
			if w.next(10) == 0 {
				line = w.spoilt(line)
			}
			want := w.m.answer(line)
			lines, wants = append(lines, line), append(wants, want)
			name, _, _ := strings.Cut(line, " ")
			if !strings.HasPrefix(want, "slabyard: ") {
				want = "well"
			}
			seen[name+" "+want]++
		}
		got, err := script.Run(lines)
		if err != nil || len(got) != len(wants) {
			t.Fatal(seed, len(got), err)
		}
		for i, want := range wants {
			if got[i] != want {
				t.Fatalf("script %d, line %d %q: %q, want %q", seed, i, lines[i], got[i], want)
			}
		}
	}
	for name, l := range map[string]string{
		"nodes": "text bound well", "make": "text none bound full wait many well", "clone": "text none stale bound full many well",
		"split": "text none stale bound full many well", "join": "text none stale held many well", "write": "text none stale bound wait well",
		"pull": "text none stale bound well", "free": "text none stale bound well", "read": "text none stale well", "len": "text none stale well",
		"parts": "text none stale well", "list": "text none well", "free-pages": "text none bound well", "take": "text none bound full well",
		"give": "text none bound stale well", "reclaim": "text none bound well", "audit": "text none well", "run": "text none well",
	} {
		for what := range strings.FieldsSeq(l) {
			if what != "well" {
				what = "slabyard: " + what
			}
			if seen[name+" "+what] == 0 {
				t.Error("never seen:", name, what)
			}
		}
	}
}
