package classes_test

import (
	"slices"
	"strings"
	"testing"

	"dredge/api"
	"dredge/classes"
)

// wanted is the chapter's table.
func wanted() map[string][]api.Range {
	return map[string][]api.Range{
		"alnum":  ranges(48, 57, 65, 90, 97, 122),
		"alpha":  ranges(65, 90, 97, 122),
		"blank":  ranges(9, 9, 32, 32),
		"cntrl":  ranges(0, 31, 127, 127),
		"digit":  ranges(48, 57),
		"graph":  ranges(33, 126),
		"lower":  ranges(97, 122),
		"print":  ranges(32, 126),
		"punct":  ranges(33, 47, 58, 64, 91, 96, 123, 126),
		"space":  ranges(9, 13, 32, 32),
		"upper":  ranges(65, 90),
		"xdigit": ranges(48, 57, 65, 70, 97, 102),
	}
}

// TestNamed: P6.4, the chapter's table: each is a class, of both modes.
func TestNamed(t *testing.T) {
	for name, want := range wanted() {
		l, ok := classes.Named(name)
		if !ok || !slices.Equal(l, want) {
			t.Errorf("Named of %s: %v, %v", name, l, ok)
		}
		if !classes.Right(l, false) || !classes.Right(l, true) {
			t.Errorf("Named of %s: no class", name)
		}
	}
}

// TestNamedNothing: P6.4, other names: nothing and false.
func TestNamedNothing(t *testing.T) {
	names := []string{"", "Blank", "word", "ascii", "any", "blank ", " blank", "blank\x00", "[:blank:]", ":blank:", "digi", "digits", "é", "\xff", "\x00", strings.Repeat("alpha", 1000)}
	for name := range wanted() {
		names = append(names, strings.ToUpper(name), name[1:], name[:len(name)-1], name+name)
	}
	for _, name := range names {
		if wanted()[name] != nil { // xdigit without its x
			continue
		}
		if l, ok := classes.Named(name); ok || len(l) != 0 {
			t.Errorf("Named of %q: %v, %v", name, l, ok)
		}
	}
}

// TestNames: P6.4, all names, rising by their bytes.
func TestNames(t *testing.T) {
	names := classes.Names()
	if len(names) != len(wanted()) || !slices.IsSorted(names) {
		t.Errorf("Names: %v", names)
	}
	for _, name := range names {
		if _, ok := wanted()[name]; !ok {
			t.Errorf("Names: %s", name)
		}
	}
	if len(slices.Compact(names)) != len(wanted()) {
		t.Errorf("Names: one comes twice")
	}
}

// TestNamedAnew: DOC.md's P3, each answer is new memory.
func TestNamedAnew(t *testing.T) {
	for name, want := range wanted() {
		first, _ := classes.Named(name)
		second, _ := classes.Named(name)
		spoil(first)
		if third, _ := classes.Named(name); !slices.Equal(second, want) || !slices.Equal(third, want) {
			t.Errorf("Named of %s: %v, %v", name, second, third)
		}
	}
	first, second := classes.Names(), classes.Names()
	want := slices.Clone(first)
	clear(first)
	if !slices.Equal(second, want) || !slices.Equal(classes.Names(), want) {
		t.Error("Names:", second)
	}
}
