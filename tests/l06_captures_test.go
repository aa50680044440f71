package tests

import (
	"testing"

	"loop.example/g00926/impl"
)

func TestCaptureName(t *testing.T) {
	for i, want := range []string{"none", "two-three", "cross", "even"} {
		if got := impl.CaptureName(int64(i)); got != want {
			t.Errorf("CaptureName(%d) = %q, want %q", i, got, want)
		}
	}
	for _, kind := range append([]int64{4, 5, 256, 1<<32 + 1}, extremes...) {
		if got := impl.CaptureName(kind); got != "" {
			t.Errorf("CaptureName(%d) = %q, want none", kind, got)
		}
	}
}
