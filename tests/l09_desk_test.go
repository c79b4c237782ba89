package tests

import (
	"testing"

	"loop.example/g00577/impl"
)

func TestDeskSky(t *testing.T) {
	want := []impl.Star{star(1, 0, 0, 1), star(2, 1, 0, 2), star(3, 0, 1, 3), star(4, -1, -1, 2), star(5, 2, 1, 5), star(6, 1, 0, 0)}
	first := impl.DeskSky()
	checkStars(t, "DeskSky", first, want)
	if !impl.SkyRight(first) {
		t.Error("DeskSky is right")
	}
	for i := range first {
		first[i] = impl.Star{}
	}
	checkStars(t, "DeskSky behind a change of what it answered", impl.DeskSky(), want)
}
