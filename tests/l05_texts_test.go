package tests

import (
	"fmt"
	"regexp"
	"strings"
	"testing"

	"loop.example/g00956/impl"
)

// writtenDrawing is the text of a drawing that may be invalid.
func writtenDrawing(d impl.Drawing) string {
	var points []string
	for _, p := range d.Points {
		points = append(points, fmt.Sprintf("%d,%d", p.X, p.Y))
	}
	parts := []string{fmt.Sprintf("%dx%d", d.Width, d.Height), strings.Join(points, " ")}
	for _, face := range d.Faces {
		list := "-"
		if len(face.Ring) > 0 {
			list = strings.ReplaceAll(strings.Trim(fmt.Sprint(face.Ring), "[]"), " ", ",")
		}
		parts = append(parts, face.Name+" "+list)
	}
	return strings.Join(parts, ";")
}

// drawingShape has no number that is too large for draw.
var drawingShape = func() *regexp.Regexp {
	const number, name = `(0|[1-9][0-9]{0,17})`, `[a-z][a-z0-9]{0,9}`
	const point, ring = number + `,` + number, number + `(,` + number + `)*`
	return regexp.MustCompile(`\A` + number + `x` + number + `;(` + point + `( ` + point + `)*)?(;` + name + ` ` + ring + `)*\z`)
}()

// checkRead compares with the words of the document, and reports whether s is read.
func checkRead(t *testing.T, s string) bool {
	t.Helper()
	got, ok := impl.ReadDrawing(s)
	want, is := impl.Drawing{}, false
	if drawingShape.MatchString(s) {
		want = draw(s)
		is = drawingAsTold(want)
	}
	if !is {
		if ok || !isZero(got) {
			t.Fatalf("ReadDrawing(%.300q) is %.300v, %v", s, fmt.Sprint(got), ok)
		}
		return false
	}
	if !ok || !impl.SameDrawing(got, want) || fmt.Sprint(got) != fmt.Sprint(want) {
		t.Fatalf("ReadDrawing(%.300q) is %.300v, %v", s, fmt.Sprint(got), ok)
	}
	if text := impl.DrawingText(got); text != s {
		t.Fatalf("%.300q is read, but written %.300q", s, text)
	}
	return true
}

func isZero(d impl.Drawing) bool {
	return d.Width == 0 && d.Height == 0 && len(d.Points) == 0 && len(d.Faces) == 0
}

func TestDrawingText(t *testing.T) {
	for _, text := range append(coverTexts, looseTexts...) {
		if got := impl.DrawingText(draw(text)); got != text {
			t.Errorf("DrawingText(%s) is %q", text, got)
		}
		if !checkRead(t, text) {
			t.Errorf("%s is not read", text)
		}
	}
	for _, d := range goodDrawings() {
		if got := impl.DrawingText(d); got != writtenDrawing(d) {
			t.Errorf("DrawingText(%v) is %q", d, got)
		}
	}
	forBadDrawings(func(reason string, d impl.Drawing) {
		if got := impl.DrawingText(d); got != "" {
			t.Errorf("DrawingText(%.300v) is %.300q: %s", fmt.Sprint(d), got, reason)
		}
	})
}

func TestDrawingsAreReadBack(t *testing.T) {
	for _, d := range append(goodDrawings(), draw("10x10;"), dots(impl.MaxPoints), crowd(impl.MaxFaces), fullMesh()) {
		if got, ok := impl.ReadDrawing(impl.DrawingText(d)); !impl.SameDrawing(got, d) || fmt.Sprint(got) != fmt.Sprint(d) || !ok {
			t.Errorf("%v is written %q and read as %v, %v", d, impl.DrawingText(d), got, ok)
		}
	}
}

func TestReadDrawingRefuses(t *testing.T) {
	const size, points, faces = "20x10", "0,0 20,0 20,10 0,10", "a 0,1,2;b 0,2,3"
	for _, s := range []string{
		"", ";", ";;", "x", "x;", "10", "10;", "10x", "10x;", "x10;", "10x10", "10x10x10;", "10x10 ;", " 10x10;", "10 x10;", "10x 10;", "10X10;", "10*10;", "10x10:", "10x10,", "10x10; ", "10x10;;", "10x10;;;", "10x10;-", "10x10;\n", "10x10;\x00", "xx;", "10xx10;",
		// Numbers of the panel that are not canonical, or not in their limits.
		"010x10;", "10x010;", "+10x10;", "10x+10;", "-10x10;", "10x-10;", "10.0x10;", "0x10x10;", "10x0xa;", "9x10;", "10x9;", "20001x10;", "10x20001;", "18446744073709551626x10;", "10x18446744073709551626;", "1000000000000000000000x10;",
		// Points.
		"10x10;0,0 ", "10x10; 0,0", "10x10;0,0  1,1", "10x10;0,0\t1,1", "10x10;0,0,1,1", "10x10;0", "10x10;0,", "10x10;,0", "10x10;0,0,", "10x10;0 0", "10x10;00,0", "10x10;0,00", "10x10;0,+0", "10x10;-0,0", "10x10;0,-1", "10x10;11,0", "10x10;0,11", "10x10;0,0 0,0", "10x10;0, 0", "10x10;0;0",
		"10x10;a 0,1,2", "10x10;0,0 10,0 10,10 a 0,1,2", "10x10;0,0 10,0 10,10,a 0,1,2", "10x10;;a 0,1,2", "10x10;0,0 10,0 10,10;", "10x10;0,0 10,0 10,10;;", "10x10;0,0 10,0 10,10;;a 0,1,2", "10x10;0,0 10,0 10,10;a 0,1,2;", "10x10;0,0 10,0 10,10;a 0,1,2;;", ";0,0 10,0 10,10;a 0,1,2",
		// Faces.
		"10x10;0,0 10,0 10,10;a", "10x10;0,0 10,0 10,10;a ", "10x10;0,0 10,0 10,10;a -", "10x10;0,0 10,0 10,10;0,1,2", "10x10;0,0 10,0 10,10; 0,1,2", "10x10;0,0 10,0 10,10; a 0,1,2", "10x10;0,0 10,0 10,10;a  0,1,2", "10x10;0,0 10,0 10,10;a 0,1,2 ", "10x10;0,0 10,0 10,10;a\t0,1,2", "10x10;0,0 10,0 10,10;a,0,1,2",
		"10x10;0,0 10,0 10,10;a 0 1 2", "10x10;0,0 10,0 10,10;a 0,1", "10x10;0,0 10,0 10,10;a 0,1,", "10x10;0,0 10,0 10,10;a ,0,1,2", "10x10;0,0 10,0 10,10;a 0,,1,2", "10x10;0,0 10,0 10,10;a 0,1,2,", "10x10;0,0 10,0 10,10;a 0,1,02", "10x10;0,0 10,0 10,10;a -0,1,2", "10x10;0,0 10,0 10,10;a 0,1,+2", "10x10;0,0 10,0 10,10;a 0,1,3",
		"10x10;0,0 10,0 10,10;a 0,1,-1", "10x10;0,0 10,0 10,10;a 0,2,1", "10x10;0,0 10,0 10,10;a 0,1,2,0", "10x10;0,0 10,0 10,10;a 0,1,2,2", "10x10;0,0 10,0 10,10;A 0,1,2", "10x10;0,0 10,0 10,10;7 0,1,2", "10x10;0,0 10,0 10,10;abcdefghijk 0,1,2", "10x10;0,0 10,0 10,10;a 0,1,2;a 0,1,2", "10x10;0,0 10,0 10,10;b 0,1,2;a 0,1,2",
		"10x10;0,0 10,0 10,10;a 0,1,2 b 0,1,2", "10x10;0,0 10,0 10,10;a 0,1,2,b 0,1,2", "10x10;0,0 10,0 10,10;a 0,1,2\nb 0,1,2", "10x10;0,0 10,0 10,10;a 0,1,2;b", "10x10;0,0 10,0 10,10;a 0,1,18446744073709551618", "10x10;0,0 10,0 10,10;a a 0,1,2",
		// All parts are there, but in another order.
		points + ";" + size + ";" + faces, size + ";" + faces + ";" + points, faces + ";" + size + ";" + points, size + " " + points + ";" + faces, size + points + faces, strings.Join([]string{size, points, faces}, "\n"),
	} {
		if checkRead(t, s) {
			t.Errorf("%q is read", s)
		}
	}
	forBadDrawings(func(reason string, d impl.Drawing) {
		if s := writtenDrawing(d); len(s) < 10000 && checkRead(t, s) {
			t.Errorf("%q is read: %s", s, reason)
		} else if got, ok := impl.ReadDrawing(s); ok || !isZero(got) {
			t.Errorf("%.300q is read: %s", s, reason)
		}
	})
}

func TestReadDrawingOfOddTexts(t *testing.T) {
	for _, s := range append(append(oddTexts(), notDecimal...), goodTexts...) {
		for _, text := range []string{s, s + "x10;", "10x" + s + ";", "10x10;" + s, "10x10;0,0 10,0 10,10;" + s, "10x10;0,0 10,0 10,10;a " + s, "10x10;0,0 10,0 10,10;" + s + " 0,1,2", "10x10;0,0 10,0 10,10;a 0,1,2;" + s, s + "20x10;0,0 20,0 20,10;a 0,1,2", "20x10;0,0 20,0 20,10;a 0,1,2" + s} {
			checkRead(t, text)
		}
	}
}

// TestReadDrawingCounts has as many points, faces and indices as there may be, and more.
func TestReadDrawingCounts(t *testing.T) {
	for _, n := range []int{1, 2, 47, 48, 49, 50, 1000} {
		if got := checkRead(t, writtenDrawing(changed(dots(n), func(d *impl.Drawing) { d.Width = 2000 }))); got != (n <= impl.MaxPoints) {
			t.Errorf("%d points: %v", n, got)
		}
	}
	for _, n := range []int{1, 2, 23, 24, 25, 26} {
		if got := checkRead(t, writtenDrawing(crowd(n))); got != (n <= impl.MaxFaces) {
			t.Errorf("%d faces: %v", n, got)
		}
	}
	for _, n := range []int{3, 4, 23, 24, 25, 26} {
		if got := checkRead(t, writtenDrawing(drawingOf(strip(n), saw(n)))); got != (n <= impl.MaxCorners && len(drawingOf(strip(n), saw(n)).Points) <= impl.MaxPoints) {
			t.Errorf("%d indices: %v", n, got)
		}
	}
	full := writtenDrawing(fullMesh())
	for _, end := range []string{"", ";", ";z", ";z 0,1,13", " ", ",", "0", ";z 0,1,13;z1 0,1,13", strings.Repeat(";z 0,1,13", 10000), strings.Repeat(",0", 100000), strings.Repeat("0", 100000), strings.Repeat(";", 100000), strings.Repeat(" ", 100000)} {
		if got, ok := impl.ReadDrawing(full + end); ok != (end == "") || !ok && !isZero(got) {
			t.Errorf("the text of a full drawing with %.20q behind it is read as %v, %v", end, got, ok)
		}
	}
	long := strings.Repeat(" 1,1", 100000)
	for _, s := range []string{"10x10;0,0" + long, "10x10;0,0" + long + ";a 0,1,2", "10x10;0,0 10,0 10,10;a" + long, "10x10;0,0 10,0 10,10" + strings.Repeat(";a 0,1,2", 100000), strings.Repeat("10x10;", 100000)} {
		if got, ok := impl.ReadDrawing(s); ok || !isZero(got) {
			t.Errorf("%.40q and so on is read as %v", s, got)
		}
	}
}

// forNearTexts calls check with all prefixes of a text, and with one byte removed, changed or added.
func forNearTexts(text string, bytes []byte, check func(s string)) {
	for k := range len(text) + 1 {
		check(text[:k])
		check(text[k:])
		for _, c := range bytes {
			check(text[:k] + string([]byte{c}) + text[k:])
			if k < len(text) {
				check(text[:k] + string([]byte{c}) + text[k+1:])
			}
		}
		if k < len(text) {
			check(text[:k] + text[k+1:])
		}
	}
}

func TestReadDrawingsAreWrittenBack(t *testing.T) {
	every := make([]byte, 256)
	for k := range every {
		every[k] = byte(k)
	}
	read := 0
	check := func(s string) {
		if checkRead(t, s) {
			read++
		}
	}
	texts := append(coverTexts[:8:8], looseTexts[:9]...)
	for _, text := range texts {
		forNearTexts(text, every, check)
	}
	for _, text := range append(append(coverTexts[8:len(coverTexts):len(coverTexts)], looseTexts[9:]...), writtenDrawing(dots(impl.MaxPoints)), writtenDrawing(fullMesh())) {
		forNearTexts(text, []byte("019-+,; xaz\n"), check)
	}
	// Most texts stay readable in many ways: other names and other points.
	if read < 1000*len(texts)/8 {
		t.Errorf("only %d texts are read", read)
	}
}

// TestShortTexts tries all short ends of telling bytes behind the beginnings of a text.
func TestShortTexts(t *testing.T) {
	ends := []string{""}
	for k := 0; len(ends[k]) < 5; k++ {
		for _, c := range "01,; xa-" {
			ends = append(ends, ends[k]+string(c))
		}
	}
	for _, end := range ends {
		for _, begin := range []string{"10x1", "10x10;0", "10x10;0,0 10,0 0,10;a 0,1"} {
			checkRead(t, begin+end)
		}
	}
}
