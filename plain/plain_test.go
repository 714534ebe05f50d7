package plain

import (
	"strings"
	"testing"
)

func TestWord(t *testing.T) {
	for i := range 256 {
		s := "a" + string([]byte{byte(i)})
		if Word(s) != (i >= 33 && i <= 126) {
			t.Error(i)
		}
	}
	if Word("") || !Word("!") || !Word(strings.Repeat("~", 64)) || Word(strings.Repeat("~", 65)) {
		t.Error("lengths")
	}
}

func TestNumber(t *testing.T) {
	for n, want := range map[int]bool{-1: false, 0: true, 1: true, 1 << 40: true, 1<<40 + 1: false, -1 << 63: false} {
		if Number(n, 0) != want || Number(n, 1) != (want && n != 0) {
			t.Error(n)
		}
	}
}
