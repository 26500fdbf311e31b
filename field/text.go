package field

import (
	"slices"
	"strings"

	"fumarole/api"
)

// reader reads a text line by line; it throws the error of a line that is wrong.
type reader struct {
	Field
	models []Model
	taken  map[string]bool // names of models
	line   int             // the number of the line that is read
	rest   string          // what stands behind it
}

// Write returns the text of a field with models.
func Write(f Field, models []Model) (string, api.Errno) {
	if e := CheckModels(f, models); e != api.OK {
		return "", e
	}
	lines := []string{"field " + spaced(f.X, f.Y, f.Z, f.Kinds)}
	for _, m := range models {
		lines = append(lines, "model "+m.Name)
		for row := range slices.Chunk(m.Values, f.X) {
			lines = append(lines, spaced(row...))
		}
	}
	lines = append(lines, "end "+spaced(len(models)))
	text := strings.Join(lines, "\n") + "\n"
	if len(text) > api.MaxText {
		return "", api.ErrLimit
	}
	return text, api.OK
}

// Read returns the field and the models of a text, or the number of the first line that is wrong, and its error.
func Read(text string) (f Field, models []Model, line int, e api.Errno) {
	if len(text) > api.MaxText {
		return Field{}, nil, 0, api.ErrLimit
	}
	r := &reader{rest: text, taken: map[string]bool{}}
	defer func() {
		switch thrown := recover().(type) {
		case nil:
		case api.Errno:
			line, e = r.line, thrown
		default: // no call may panic, and the fault is met in this line
			line, e = r.line, api.ErrForm
		}
	}()
	r.readText()
	return r.Field, r.models, 0, api.OK
}

func (r *reader) readText() {
	r.readField(r.next())
	words := r.next()
	for len(words) == 2 && words[0] == "model" {
		r.readModel(words[1])
		words = r.next()
	}
	r.readEnd(words)
	if r.rest != "" {
		r.line++
		panic(api.ErrForm)
	}
}

// next returns the words of the next line.
func (r *reader) next() []string {
	r.line++
	line, rest, ended := strings.Cut(r.rest, "\n")
	if !ended {
		panic(api.ErrForm)
	}
	r.rest = rest
	return strings.Split(line, " ")
}

func (r *reader) readField(words []string) {
	n := numbersBehind("field", words, 4)
	r.Field = Field{n[0], n[1], n[2], n[3]}
	if !r.valid() {
		panic(api.ErrArg)
	}
}

// readModel reads the rows of a model with the name.
func (r *reader) readModel(name string) {
	switch {
	case !isName(name):
		panic(api.ErrName)
	case r.taken[name]:
		panic(api.ErrTwice)
	case len(r.models) == api.MaxModels:
		panic(api.ErrLimit)
	}
	r.taken[name] = true
	m := Model{Name: name}
	for range r.Kinds * r.Z * r.Y {
		row := numbers(r.next(), r.X)
		if !areValues(row) {
			panic(api.ErrArg)
		}
		m.Values = append(m.Values, row...)
	}
	r.models = append(r.models, m)
}

func (r *reader) readEnd(words []string) {
	n := numbersBehind("end", words, 1)
	if len(r.models) == 0 || n[0] != len(r.models) {
		panic(api.ErrFail)
	}
}

// numbersBehind returns so many numbers, which stand behind the first word.
func numbersBehind(first string, words []string, count int) []int {
	if words[0] != first {
		panic(api.ErrForm)
	}
	return numbers(words[1:], count)
}

// numbers returns so many numbers, one for each word.
func numbers(words []string, count int) []int {
	if len(words) != count {
		panic(api.ErrForm)
	}
	var l []int
	for _, word := range words {
		if !isWhole(word) {
			panic(api.ErrForm)
		}
		l = append(l, value(word))
	}
	return l
}
