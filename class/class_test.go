package class_test

import (
	"math"
	"testing"

	"garderobe/class"
)

// sizes and slots are the classes', by the words: 256 / (8 + 8), 256 / (16 + 8) and so on, without what is left.
var (
	sizes = []int{8, 16, 24, 32, 48, 64, 96, 120}
	slots = []int{16, 10, 8, 6, 4, 3, 2, 2}
)

// none are numbers of classes that there are not; the lowest bits of some are those of one that there is.
func none() []int {
	l := []int{math.MinInt, math.MinInt + 1, math.MinInt32, -1 << 32, -256, -8, -7, -2, -1,
		8, 9, 10, 15, 16, 127, 128, 255, 256, 257, 1 << 16, 1 << 31, 1 << 32, 1<<32 + 1, 1 << 60, 1<<62 + 3, math.MaxInt - 1, math.MaxInt}
	for k := range 20 {
		l = append(l, 8+k, -1-k)
	}
	return l
}

// far are numbers that are no object's bytes.
func far() []int {
	l := []int{0, 4097, 4098, 8192, 65536, 65537, 65536 + 300, 1 << 31, 1<<32 + 1, 1<<32 + 300, 1<<62 + 17, math.MaxInt - 256, math.MaxInt - 255, math.MaxInt - 254, math.MaxInt - 1, math.MaxInt,
		-1, -2, -8, -17, -120, -121, -255, -256, -257, -300, -4096, -4097, -1 << 31, -1<<32 + 17, math.MinInt, math.MinInt + 1, math.MinInt + 17, math.MinInt + 300}
	for k := range 1000 {
		l = append(l, 4097+k, -k)
	}
	return l
}

// noPlace fails if a class has such a slot.
func noPlace(t *testing.T, c, k int) {
	t.Helper()
	if at, n, ok := class.Place(c, k); at != 0 || n != 0 || ok {
		t.Errorf("Place(%d, %d): %d, %d, %v", c, k, at, n, ok)
	}
}

func TestExample(t *testing.T) {
	if c, ok := class.Of(17); c != 2 || !ok {
		t.Error("Of(17):", c, ok)
	}
	if n := class.Slots(2); n != 8 {
		t.Error("Slots(2):", n)
	}
	if at, n, ok := class.Place(2, 1); at != 32 || n != 32 || !ok {
		t.Error("Place(2, 1):", at, n, ok)
	}
	if n, ok := class.Pages(300); n != 2 || !ok {
		t.Error("Pages(300):", n, ok)
	}
}

// P17.1: each class's bytes, and its slots: as many as find room.
func TestClasses(t *testing.T) {
	if class.Count != 8 {
		t.Error("Count:", class.Count)
	}
	for c := range sizes {
		if n := class.Size(c); n != sizes[c] {
			t.Errorf("Size(%d): %d", c, n)
		}
		n := class.Slots(c)
		if n != slots[c] {
			t.Errorf("Slots(%d): %d", c, n)
		}
		if one := sizes[c] + 8; n*one > 256 || (n+1)*one <= 256 {
			t.Errorf("class %d: %d slots are not as many as find room", c, n)
		}
	}
}

// P17.1, P17.2: classes that there are not have no bytes, no slots, no places.
func TestNoClass(t *testing.T) {
	for _, c := range none() {
		if n := class.Size(c); n != 0 {
			t.Errorf("Size(%d): %d", c, n)
		}
		if n := class.Slots(c); n != 0 {
			t.Errorf("Slots(%d): %d", c, n)
		}
		for _, k := range append(none(), 0, 1, 2, 3, 4, 5, 6, 7) {
			noPlace(t, c, k)
		}
	}
}

// P17.1: of each number from 0 to 4097 the least class that has as many bytes, or the pages that it takes.
func TestNumbers(t *testing.T) {
	for n := range 4098 {
		wantClass, of := 0, 1 <= n && n <= 120
		for of && sizes[wantClass] < n {
			wantClass++
		}
		if c, ok := class.Of(n); c != wantClass || ok != of {
			t.Errorf("Of(%d): %d, %v", n, c, ok)
		}
		wantPages, takes := 0, 121 <= n && n <= 4096
		for takes && 256*wantPages < n {
			wantPages++
		}
		if pages, ok := class.Pages(n); pages != wantPages || ok != takes {
			t.Errorf("Pages(%d): %d, %v", n, pages, ok)
		}
	}
}

// P17.1: numbers that no object has as many bytes.
func TestFarNumbers(t *testing.T) {
	for _, n := range far() {
		if c, ok := class.Of(n); c != 0 || ok {
			t.Errorf("Of(%d): %d, %v", n, c, ok)
		}
		if pages, ok := class.Pages(n); pages != 0 || ok {
			t.Errorf("Pages(%d): %d, %v", n, pages, ok)
		}
	}
}

// P17.1: about the ends of the classes and of the pages.
func TestEnds(t *testing.T) {
	for c, n := range sizes {
		if got, ok := class.Of(n); got != c || !ok {
			t.Errorf("Of(%d): %d, %v", n, got, ok)
		}
		if got, ok := class.Of(n + 1); c < 7 && (got != c+1 || !ok) || c == 7 && (got != 0 || ok) {
			t.Errorf("Of(%d): %d, %v", n+1, got, ok)
		}
	}
	for n, want := range map[int]int{121: 1, 255: 1, 256: 1, 257: 2, 512: 2, 513: 3, 3840: 15, 3841: 16, 4095: 16, 4096: 16} {
		if got, ok := class.Pages(n); got != want || !ok {
			t.Errorf("Pages(%d): %d, %v", n, got, ok)
		}
	}
}

// P17.2: slots stand one behind the other from the page's first byte on, each with 8 bytes more than its class.
func TestPlaces(t *testing.T) {
	for c := range sizes {
		behind := 0
		for k := range slots[c] {
			at, n, ok := class.Place(c, k)
			if at != behind || n != sizes[c]+8 || !ok {
				t.Errorf("Place(%d, %d): %d, %d, %v", c, k, at, n, ok)
			}
			behind = at + n
		}
		for k := range 300 {
			noPlace(t, c, slots[c]+k)
			noPlace(t, c, -1-k)
		}
		for _, k := range none() {
			if k < 0 || k >= slots[c] {
				noPlace(t, c, k)
			}
		}
	}
}

// P17.3: slots of a page don't overlap, and lie within it.
func TestApart(t *testing.T) {
	for c := range class.Count {
		var whose [256]int
		for k := range class.Slots(c) {
			at, n, ok := class.Place(c, k)
			if !ok || n < 1 || at < 0 || at+n > 256 {
				t.Fatalf("Place(%d, %d): %d, %d, %v", c, k, at, n, ok)
			}
			for x := at; x < at+n; x++ {
				if whose[x]++; whose[x] > 1 {
					t.Errorf("class %d: byte %d is in two slots", c, x)
				}
			}
		}
	}
}

// P17.4: each number of bytes from 1 to 4096 is of a class, or takes pages, and not both.
func TestOneOfBoth(t *testing.T) {
	for n := 1; n <= 4096; n++ {
		c, small := class.Of(n)
		pages, great := class.Pages(n)
		if small == great {
			t.Errorf("%d bytes: of class %d %v, %d pages %v", n, c, small, pages, great)
		}
		if small && class.Size(c) < n || great && 256*pages < n {
			t.Errorf("%d bytes don't find room in class %d or %d pages", n, c, pages)
		}
	}
}

// Rule 6: what a call answers hangs on its arguments alone.
func TestAgain(t *testing.T) {
	for range 3 {
		TestClasses(t)
		TestNumbers(t)
		TestPlaces(t)
	}
}
