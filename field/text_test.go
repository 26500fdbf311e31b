package field_test

import (
	"slices"
	"strconv"
	"strings"
	"testing"

	"fumarole/api"
	"fumarole/field"
)

// chapterText is the text of the chapter's field with its first model.
const chapterText = "field 2 1 2 1\nmodel a\n10 20\n30 40\nend 1\n"

// textOf writes a text as the chapter says.
func textOf(f field.Field, models []field.Model) string {
	s := "field"
	for _, n := range []int{f.X, f.Y, f.Z, f.Kinds} {
		s += " " + strconv.Itoa(n)
	}
	s += "\n"
	for _, m := range models {
		s += "model " + m.Name + "\n"
		for i, n := range m.Values {
			s += strconv.Itoa(n)
			if i%f.X == f.X-1 {
				s += "\n"
			} else {
				s += " "
			}
		}
	}
	return s + "end " + strconv.Itoa(len(models)) + "\n"
}

// expectWrong checks the error and the line of a text, and R2.
func expectWrong(t *testing.T, text string, line int, want api.Errno) {
	t.Helper()
	f, models, n, e := field.Read(text)
	if n != line || alone(e, f == field.Field{} && len(models) == 0) != want {
		t.Errorf("Read %q: %v, %v, line %d, %v, not line %d, %v", text, f, models, n, e, line, want)
	}
}

// expectRead checks that a text is that of the field with the models.
func expectRead(t *testing.T, text string, f field.Field, models []field.Model) {
	t.Helper()
	g, l, line, e := field.Read(text)
	if g != f || !sameModels(l, models) || line != 0 || e != api.OK {
		t.Errorf("Read %q: %v, %v, line %d, %v", text, g, l, line, e)
	}
}

// TestWrite: P2.9, kind by kind, layer by layer, row by row.
func TestWrite(t *testing.T) {
	f := field.Field{X: 2, Y: 3, Z: 2, Kinds: 2}
	var values []int
	for i := range 24 {
		values = append(values, i-12)
	}
	want := "field 2 3 2 2\nmodel one\n-12 -11\n-10 -9\n-8 -7\n-6 -5\n-4 -3\n-2 -1\n0 1\n2 3\n4 5\n6 7\n8 9\n10 11\nend 1\n"
	if s, e := field.Write(f, []field.Model{model("one", values...)}); s != want || e != api.OK {
		t.Errorf("Write: %q, %v", s, e)
	}
	small := field.Field{X: 1, Y: 1, Z: 1, Kinds: 1}
	want = "field 1 1 1 1\nmodel b\n100000\nmodel a\n-100000\nend 2\n"
	if s, e := field.Write(small, []field.Model{model("b", api.MaxValue), model("a", -api.MaxValue)}); s != want || e != api.OK {
		t.Errorf("Write: %q, %v", s, e)
	}
}

// TestLongestText: P2.9 and P2.16, the longest text there is fits.
func TestLongestText(t *testing.T) {
	f := field.Field{X: 8, Y: 8, Z: 1, Kinds: api.MaxKinds}
	var models []field.Model
	for i := range api.MaxModels {
		name := strings.Repeat("a", api.MaxName-2) + strconv.Itoa(10+i)
		models = append(models, model(name, slices.Repeat([]int{-api.MaxValue}, api.MaxBlocks*api.MaxKinds)...))
	}
	s, e := field.Write(f, models)
	if s != textOf(f, models) || e != api.OK {
		t.Fatalf("Write of the longest text: %d bytes, %v", len(s), e)
	}
	expectRead(t, s, f, models)
}

// TestTextsAny: P2.16, of any field and models, there and back.
func TestTextsAny(t *testing.T) {
	d := &dice{state: 16}
	for range 300 {
		f := d.field(64)
		models := d.models(f, d.roll(1, 5), api.MaxValue)
		s, e := field.Write(f, models)
		if s != textOf(f, models) || e != api.OK {
			t.Fatalf("Write(%v, %v): %q, %v", f, models, s, e)
		}
		expectRead(t, s, f, models)
	}
}

// TestReadWrong: P2.9, texts that are wrong by one thing.
func TestReadWrong(t *testing.T) {
	expectRead(t, chapterText, chapterField(), chapterModels()[:1])
	for _, c := range []struct {
		old, new string
		line     int
		want     api.Errno
	}{
		// the first line
		{"field", "fields", 1, api.ErrForm},
		{"field", "Field", 1, api.ErrForm},
		{"field", "", 1, api.ErrForm},
		{"field", " field", 1, api.ErrForm},
		{"field ", "field  ", 1, api.ErrForm},
		{"field ", "field\t", 1, api.ErrForm},
		{"2 1\nm", "2 1 \nm", 1, api.ErrForm},
		{"2 1\nm", "2\nm", 1, api.ErrForm},
		{"2 1\nm", "2 1 1\nm", 1, api.ErrForm},
		{"2 1\nm", "2 1\r\nm", 1, api.ErrForm},
		{"2 1\nm", "2 01\nm", 1, api.ErrForm},
		{"2 1\nm", "2 +1\nm", 1, api.ErrForm},
		{"2 1\nm", "2 x\nm", 1, api.ErrForm},
		{"field 2 1", "field 0 x", 1, api.ErrForm},
		{"field 2", "field -0", 1, api.ErrForm},
		{"field 2", "field 0", 1, api.ErrArg},
		{"field 2", "field -2", 1, api.ErrArg},
		{"field 2", "field 9", 1, api.ErrArg},
		{"field 2", "field 999999999", 1, api.ErrArg},
		{"field 2", "field 18446744073709551618", 1, api.ErrArg},
		{"field 2 1", "field 2 0", 1, api.ErrArg},
		{"1 2 1", "1 -18446744073709551614 1", 1, api.ErrArg},
		{"2 1 2 1", "2 1 2 7", 1, api.ErrArg},
		{"2 1 2 1", "2 1 2 0", 1, api.ErrArg},
		{"2 1 2 1", "8 8 2 1", 1, api.ErrArg},
		// a line model
		{"model a", "model", 2, api.ErrForm},
		{"model a", "model a b", 2, api.ErrForm},
		{"model a", "model a ", 2, api.ErrForm},
		{"model a", "model  a", 2, api.ErrForm},
		{"model a", " model a", 2, api.ErrForm},
		{"model a", "Model a", 2, api.ErrForm},
		{"model a", "models a", 2, api.ErrForm},
		{"model a", "", 2, api.ErrForm},
		{"model a", "a", 2, api.ErrForm},
		{"model a\n", "", 2, api.ErrForm},
		{"model a", "model ", 2, api.ErrName},
		{"model a", "model A", 2, api.ErrName},
		{"model a", "model 1", 2, api.ErrName},
		{"model a", "model a\r", 2, api.ErrName},
		{"model a", "model aaaaaaaaaaaaaaaaa", 2, api.ErrName},
		// a line of numbers
		{"10 20", "10", 3, api.ErrForm},
		{"10 20", "10 20 30", 3, api.ErrForm},
		{"10 20", "10 20 ", 3, api.ErrForm},
		{"10 20", " 10 20", 3, api.ErrForm},
		{"10 20", "10  20", 3, api.ErrForm},
		{"10 20", "", 3, api.ErrForm},
		{"10 20", " ", 3, api.ErrForm},
		{"10 20", "model b", 3, api.ErrForm},
		{"10 20\n", "", 4, api.ErrForm},
		{"10 20\n", "10 20\n20 30\n", 5, api.ErrForm},
		{"30 40", "30 40\r", 4, api.ErrForm},
		{"30 40", "30 0x1", 4, api.ErrForm},
		{"30 40", "30 4e1", 4, api.ErrForm},
		{"30 40", "30 4.0", 4, api.ErrForm},
		{"30 40", "30 4_0", 4, api.ErrForm},
		{"30 40", "30 +40", 4, api.ErrForm},
		{"30 40", "30 -", 4, api.ErrForm},
		{"30 40", "30 --40", 4, api.ErrForm},
		{"30 40", "30 40-", 4, api.ErrForm},
		{"30 40", "30 4-0", 4, api.ErrForm},
		{"30 40", "30 -0", 4, api.ErrForm},
		{"30 40", "30 00", 4, api.ErrForm},
		{"30 40", "30 040", 4, api.ErrForm},
		{"30 40", "30 -040", 4, api.ErrForm},
		{"30 40", "30 0000000000040", 4, api.ErrForm},
		{"30 40", "30 400000000000x", 4, api.ErrForm},
		{"30 40", "30 x400000000000", 4, api.ErrForm},
		{"30 40", "30 40000000000 0", 4, api.ErrForm},
		{"30 40", "30 ٣", 4, api.ErrForm},
		{"30 40", "30 100001", 4, api.ErrArg},
		{"30 40", "30 -100001", 4, api.ErrArg},
		{"30 40", "100001 40", 4, api.ErrArg},
		{"30 40", "30 999999999", 4, api.ErrArg},
		{"30 40", "30 -99999999", 4, api.ErrArg},
		{"30 40", "30 1000000000", 4, api.ErrArg},
		{"30 40", "30 -999999999", 4, api.ErrArg},
		{"30 40", "30 4294967297", 4, api.ErrArg},
		{"30 40", "30 18446744073709551617", 4, api.ErrArg},
		{"30 40", "30 -18446744073709551615", 4, api.ErrArg},
		{"30 40", "30 " + strings.Repeat("9", 5000), 4, api.ErrArg},
		{"30 40", "100001 x", 4, api.ErrForm},
		{"30 40", "100001 40 50", 4, api.ErrForm},
		// the line end, and behind it
		{"end 1", "end", 5, api.ErrForm},
		{"end 1", "end ", 5, api.ErrForm},
		{"end 1", "end 1 1", 5, api.ErrForm},
		{"end 1", "end 1 ", 5, api.ErrForm},
		{"end 1", "end  1", 5, api.ErrForm},
		{"end 1", " end 1", 5, api.ErrForm},
		{"end 1", "End 1", 5, api.ErrForm},
		{"end 1", "end x", 5, api.ErrForm},
		{"end 1", "end 01", 5, api.ErrForm},
		{"end 1", "end -0", 5, api.ErrForm},
		{"end 1", "end +1", 5, api.ErrForm},
		{"end 1", "", 5, api.ErrForm},
		{"end 1\n", "", 5, api.ErrForm},
		{"end 1\n", "end 1", 5, api.ErrForm},
		{"end 1\n", "end 2", 5, api.ErrForm},
		{"end 1", "end 2", 5, api.ErrFail},
		{"end 1", "end 0", 5, api.ErrFail},
		{"end 1", "end -1", 5, api.ErrFail},
		{"end 1", "end 18446744073709551617", 5, api.ErrFail},
		{"end 1", "end 4294967297", 5, api.ErrFail},
		{"end 1\n", "end 1\n\n", 6, api.ErrForm},
		{"end 1\n", "end 1\nx", 6, api.ErrForm},
		{"end 1\n", "end 1\n ", 6, api.ErrForm},
		{"end 1\n", "end 1\nend 1\n", 6, api.ErrForm},
		{"end 1\n", "end 1\nmodel b\n1 2\n3 4\nend 2\n", 6, api.ErrForm},
		{"end 1\n", "end 2\nx", 5, api.ErrFail},
		// a second model
		{"end 1", "model a", 5, api.ErrTwice},
		{"end 1", "model b", 6, api.ErrForm},
		{"end 1", "model b\n1 2\nend 2", 7, api.ErrForm},
		{"end 1", "model b\n1 2\n3 4\nmodel a", 8, api.ErrTwice},
		{"end 1", "model b\n1 2\n3 4\nend 1", 8, api.ErrFail},
	} {
		if text := strings.Replace(chapterText, c.old, c.new, 1); text != chapterText {
			expectWrong(t, text, c.line, c.want)
		} else {
			t.Errorf("%q is not in the text", c.old)
		}
	}
}

// TestReadFirstLine: P2.9, the first line that is wrong counts, whatever is behind it.
func TestReadFirstLine(t *testing.T) {
	for _, c := range []struct {
		text string
		line int
		want api.Errno
	}{
		{"field 0 1 2 1\nmodel A\n", 1, api.ErrArg},
		{"field 2 1 2 1\nmodel A\n1\nend x\n", 2, api.ErrName},
		{"field 2 1 2 1\nmodel a\n1 100001\n1\nend x", 3, api.ErrArg},
		{"field 2 1 2 1\nmodel a\n1 2\n1\nend x", 4, api.ErrForm},
		{"", 1, api.ErrForm},
		{"\n", 1, api.ErrForm},
		{"field 2 1 2 1", 1, api.ErrForm},
		{"field 0 1 2 1", 1, api.ErrForm},
		{"field 2 1 2 1\n", 2, api.ErrForm},
		{"field 2 1 2 1\nend 0\n", 2, api.ErrFail},
		{"field 2 1 2 1\nend 1\n", 2, api.ErrFail},
		{"field 2 1 2 1\nend 0\nx", 2, api.ErrFail},
		{"field 2 1 2 1\nmodel A", 2, api.ErrForm},
		{"field 2 1 2 1\nmodel a\n", 3, api.ErrForm},
		{"field 2 1 2 1\nmodel a\n1 100001", 3, api.ErrForm},
		{"field 2 1 2 1\nmodel a\n1 2\n", 4, api.ErrForm},
		{"field 2 1 2 1\nmodel a\n1 2\n3 4\n", 5, api.ErrForm},
		{"field 2 1 2 1\n1 2\n3 4\nend 1\n", 2, api.ErrForm},
		{"model a\n1 2\n3 4\nend 1\n", 1, api.ErrForm},
		{strings.Repeat("\n", 1000), 1, api.ErrForm},
		{strings.Repeat(" ", api.MaxText-1) + "\n", 1, api.ErrForm},
		{"field" + strings.Repeat(" 1", 50000) + "\n", 1, api.ErrForm},
		{"\x00\xff\n", 1, api.ErrForm},
	} {
		expectWrong(t, c.text, c.line, c.want)
	}
}

// TestReadLimits: P2.9, how long a text may be, and how many models it may have.
func TestReadLimits(t *testing.T) {
	for n, want := range map[int]api.Errno{api.MaxText: api.ErrForm, api.MaxText + 1: api.ErrLimit, 2 * api.MaxText: api.ErrLimit} {
		line := 0
		if want == api.ErrForm {
			line = 6
		}
		expectWrong(t, chapterText+strings.Repeat("\n", n-len(chapterText)), line, want)
	}
	small := field.Field{X: 1, Y: 1, Z: 1, Kinds: 1}
	full := manyModels(api.MaxModels)
	text := textOf(small, full)
	expectRead(t, text, small, full)
	text = strings.TrimSuffix(text, "end 40\n")
	line := 2 + 2*api.MaxModels
	expectWrong(t, text+"model more\n1\nend 41\n", line, api.ErrLimit)
	expectWrong(t, text+"model more\n", line, api.ErrLimit)
	expectWrong(t, text+"model n7\n1\nend 41\n", line, api.ErrTwice)
	expectWrong(t, text+"model N\n1\nend 41\n", line, api.ErrName)
	expectWrong(t, text+"model more\nx\n", line, api.ErrLimit)
	expectWrong(t, text+"model more", line, api.ErrForm)
}

// TestReadNarrow: P2.9, a field whose rows have one number.
func TestReadNarrow(t *testing.T) {
	f := field.Field{X: 1, Y: 2, Z: 1, Kinds: 2}
	text := "field 1 2 1 2\nmodel end\n1\n-2\n100000\n-100000\nmodel model\n0\n7\n10\n99999\nend 2\n"
	models := []field.Model{model("end", 1, -2, api.MaxValue, -api.MaxValue), model("model", 0, 7, 10, 99999)}
	expectRead(t, text, f, models)
	expectWrong(t, strings.Replace(text, "-2\n", "\n", 1), 4, api.ErrForm)
	expectWrong(t, strings.Replace(text, "-2\n", "1 2\n", 1), 4, api.ErrForm)
	expectWrong(t, strings.Replace(text, "-100000\n", "", 1), 6, api.ErrForm)
}

// TestReadNames: P2.9, what a name is.
func TestReadNames(t *testing.T) {
	for _, name := range goodNames() {
		expectRead(t, strings.Replace(chapterText, "model a", "model "+name, 1), chapterField(), []field.Model{model(name, 10, 20, 30, 40)})
	}
	for _, name := range badNames() {
		if !strings.ContainsAny(name, " \n") {
			expectWrong(t, strings.Replace(chapterText, "model a", "model "+name, 1), 2, api.ErrName)
		}
	}
}

// TestReadAny: P2.16, of texts with some bytes changed: what is read is written as the text, and a wrong line is the first one.
func TestReadAny(t *testing.T) {
	d := &dice{state: 161}
	met := map[api.Errno]int{}
	for range 20000 {
		f := d.field(4)
		text := []byte(textOf(f, d.models(f, d.roll(1, 3), 12)))
		for range d.roll(1, 2) {
			i, b := d.roll(0, len(text)-1), []byte("0123456789- \nabdelmoxA")[d.roll(0, 21)]
			switch d.roll(0, 2) {
			case 0:
				text[i] = b
			case 1:
				text = slices.Insert(text, i, b)
			case 2:
				text = slices.Delete(text, i, i+1)
			}
		}
		checkRead(t, string(text), met)
	}
	for _, e := range []api.Errno{api.OK, api.ErrForm, api.ErrArg, api.ErrName, api.ErrTwice, api.ErrFail} {
		if met[e] == 0 {
			t.Errorf("none with %v: %v", e, met)
		}
	}
}

// checkRead: what is read is written as it was; if a line is wrong, the lines ahead of it are not, and those behind it do not matter.
func checkRead(t *testing.T, text string, met map[api.Errno]int) {
	t.Helper()
	f, models, line, e := field.Read(text)
	met[e]++
	if e == api.OK {
		if s, e := field.Write(f, models); s != text || e != api.OK || line != 0 {
			t.Errorf("Read %q, and written %q, %v, line %d", text, s, e, line)
		}
		return
	}
	lines := strings.SplitAfter(text, "\n")
	if line < 1 || line > len(lines) || f != (field.Field{}) || len(models) != 0 {
		t.Fatalf("Read %q: %v, %v, line %d, %v", text, f, models, line, e)
	}
	// The lines ahead lack the next one, unless they are a whole text.
	if _, _, n, e := field.Read(strings.Join(lines[:line-1], "")); e != api.OK && (n != line || e != api.ErrForm) {
		t.Errorf("Read %q: line %d, and without it line %d, %v", text, line, n, e)
	}
	if strings.HasSuffix(lines[line-1], "\n") {
		expectWrong(t, strings.Join(lines[:line], ""), line, e)
		expectWrong(t, strings.Join(lines[:line], "")+"x\n\n", line, e)
	}
}
