package programs_test

import (
	"math"
	"slices"
	"testing"

	"caisson/api"
	"caisson/programs"
)

// P23.6: an operation that is not bad for a volume is not bad for a greater one, and the blocks that are touched stay.
func TestGreaterVolumes(t *testing.T) {
	t.Parallel()
	r := drawer(6)
	for range 2000 {
		l := drawnList(r, 3, 6)
		var before []int
		for _, n := range volumes() {
			for _, o := range slices.Concat(l...) {
				if n < math.MaxInt && !programs.Bad(o, n) && programs.Bad(o, n+1) {
					t.Fatalf("%v is bad for %d blocks, but not for %d", o, n+1, n)
				}
			}
			touched := programs.Touched(l, n)
			for _, i := range before {
				if !slices.Contains(touched, i) {
					t.Fatalf("Touched(%v, %d) = %v without %d", l, n, touched, i)
				}
			}
			before = touched
		}
	}
}

// P23.6: lists have the same text exactly if they are the same.
func TestTextsTellListsApart(t *testing.T) {
	t.Parallel()
	r := drawer(7)
	lists := different()
	for range 150 {
		lists = append(lists, drawnList(r, 2, 2))
	}
	for _, a := range lists {
		for _, b := range lists {
			if programs.Check(a) != api.OK || programs.Check(b) != api.OK {
				continue
			}
			s, _ := programs.Text(a)
			z, _ := programs.Text(b)
			if (s == z) != programs.Same(a, b) {
				t.Fatalf("Text(%v) = %q, Text(%v) = %q, Same = %t", a, s, b, z, programs.Same(a, b))
			}
		}
	}
}

// P23.6: what Parse returns is the same list as the one whose text it read.
func TestParseInvertsText(t *testing.T) {
	t.Parallel()
	r := drawer(8)
	for range 500 {
		l := drawnList(r, 8, 20)
		s, e := programs.Text(l)
		if e != api.OK {
			t.Fatalf("Text(%v): error %d", l, e)
		}
		back, line, e := programs.Parse(s)
		if line != 0 || e != api.OK || !programs.Same(back, l) {
			t.Fatalf("Parse(%q) = %v, line %d, error %d, want %v", s, back, line, e, l)
		}
	}
}

// No function changes an argument, or the memory beside it, and each can be called with the same one again.
func TestArgumentsAreKept(t *testing.T) {
	t.Parallel()
	r := drawer(9)
	for range 300 {
		drawn := drawnList(r, 8, 10)
		wide, other, before := widened(drawn), widened(drawn), widened(drawn)
		l := wide[1 : len(wide)-1]
		for range 2 {
			programs.Check(l)
			programs.Count(l)
			programs.Touched(l, 5)
			programs.Text(l)
			programs.Same(l, other[1:len(other)-1])
			programs.Same(wide, l)
			for _, o := range slices.Concat(l...) {
				programs.Bad(o, 5)
			}
		}
		if !equal(widest(wide), widest(before)) || !equal(widest(other), widest(before)) {
			t.Fatalf("%v was changed", before)
		}
	}
}

// widened returns a copy of a list with a program before and behind it, and with an operation and bytes in the spare capacity of its programs and data.
func widened(l [][]api.Op) [][]api.Op {
	guard := program(op(77, 77, 77))
	made := [][]api.Op{guard}
	for _, p := range l {
		var own []api.Op
		for _, o := range p {
			o.Data = append(slices.Clone(o.Data), 0x77)[:len(o.Data)]
			own = append(own, o)
		}
		made = append(made, append(own, op(78, 78))[:len(own)])
	}
	return append(made, guard)
}

// widest returns a list with what stands in the first spare place of its programs and data.
func widest(l [][]api.Op) [][]api.Op {
	var made [][]api.Op
	for _, p := range l {
		var own []api.Op
		for _, o := range p[:min(len(p)+1, cap(p))] {
			o.Data = slices.Clone(o.Data[:min(len(o.Data)+1, cap(o.Data))])
			own = append(own, o)
		}
		made = append(made, own)
	}
	return made
}
