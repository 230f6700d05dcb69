package impl

import "testing"

func TestRowOrderIsChecked(t *testing.T) {
	order := rowOrder()
	for i, from := range order {
		if from != (i+4*(i%4))%16 {
			t.Errorf("byte %d comes from %d", i, from)
		}
	}
	if !turnsLeft(order) {
		t.Error("the right order is refused")
	}
	var right [BlockSize]int
	for i, from := range order {
		right[from] = i
	}
	if turnsLeft(right) {
		t.Error("rows that turn right are taken")
	}
	for i := range order {
		for _, from := range []int{-16, -1, 16, 1 << 40, (order[i] + 4) % 16, (order[i] + 8) % 16, order[i] ^ 1} {
			wrong := order
			wrong[i] = from
			if turnsLeft(wrong) {
				t.Errorf("byte %d from %d is taken", i, from)
			}
		}
	}
}

func TestTablesAreTheSubstitutes(t *testing.T) {
	subs := substitutes()
	back := backwards(subs)
	for a := range 256 {
		if n, _ := SubByte(a); int(subs[a]) != n {
			t.Errorf("the table has %d for %d", subs[a], a)
		}
		if n, _ := UnsubByte(a); int(back[a]) != n {
			t.Errorf("the table has %d back from %d", back[a], a)
		}
	}
}

func BenchmarkEncryptBlock(b *testing.B) {
	for b.Loop() {
		EncryptBlock("0123456789abcdef", "0123456789abcdef")
	}
}

func BenchmarkDecrypt(b *testing.B) {
	c := newCipher("0123456789abcdef")
	var s state
	for b.Loop() {
		s = c.decrypt(s)
	}
}
