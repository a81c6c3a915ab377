package desk

import (
	"slices"
	"testing"

	"postilion/api"
)

// TestCrashForgetsAllButTheLog: a file is made past the log here, as no line makes
// one, because all else that a store has follows from its log.
func TestCrashForgetsAllButTheLog(t *testing.T) {
	for _, x := range []struct {
		line  string
		names []string
	}{
		{"crash", []string{"a"}}, {"  crash ", []string{"a"}}, {"tear 0 0", []string{"a"}},
		{"crash 0", []string{"a", "z"}}, {"tear 0", []string{"a", "z"}}, {"lose 0", []string{"a", "z"}}, {"deliver 0", []string{"a", "z"}}, {"calm", []string{"a", "z"}}, {"log", []string{"a", "z"}},
	} {
		d := New()
		d.Do([]string{"call 0 make a", "calm", "call 1 list", "send 1"})
		d.world.Do(api.Call{Kind: api.CMake, Name: "z"})
		d.Do([]string{x.line})
		if got := d.world.Names(); !slices.Equal(got, x.names) {
			t.Errorf("%q: the names are %q, want %q", x.line, got, x.names)
		}
	}
}

// TestNothingToldIsKept: also behind lines that are refused.
func TestNothingToldIsKept(t *testing.T) {
	d := New()
	for _, lines := range [][]string{nil, {"calm", "log", "what"}, {"calm", "\n"}, make([]string, api.MaxLines+1)} {
		d.Do(lines)
		if d.Len() != 0 || d.Cap() != 0 {
			t.Errorf("%d lines: %q is kept", len(lines), d.String())
		}
	}
}
