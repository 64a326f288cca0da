package tests

import (
	"fmt"
	"testing"

	"loop.example/g00956/impl"
)

func turnedPicture(t *testing.T, p impl.Picture, turn int64) impl.Picture {
	t.Helper()
	got, code := impl.TurnPicture(p, turn)
	if code != impl.OK {
		t.Fatalf("TurnPicture(%v, %d) returns the code %d", p, turn, code)
	}
	return got
}

func TestTurnPicture(t *testing.T) {
	p := impl.Picture{Drawing: draw("30x10;0,0 30,0 30,10 0,10 7,2;a 0,1,2;b 2,3,0"), Veneers: []impl.Veneer{veneer("oak", 40, 30), veneer("ash", 20, 0)}}
	for turn, want := range []string{
		"30x10;0,0 30,0 30,10 0,10 7,2;a 0,1,2;b 2,3,0 [{oak 40 30} {ash 20 0}]", "10x30;10,0 10,30 0,30 0,0 8,7;a 0,1,2;b 2,3,0 [{oak 40 120} {ash 20 90}]", "30x10;30,10 0,10 0,0 30,0 23,8;a 0,1,2;b 2,3,0 [{oak 40 30} {ash 20 0}]", "10x30;0,30 0,0 10,0 10,30 2,23;a 0,1,2;b 2,3,0 [{oak 40 120} {ash 20 90}]",
		"30x10;30,0 0,0 0,10 30,10 23,2;a 0,2,1;b 2,0,3 [{oak 40 150} {ash 20 0}]", "10x30;10,30 10,0 0,0 0,30 8,23;a 0,2,1;b 2,0,3 [{oak 40 60} {ash 20 90}]", "30x10;0,10 30,10 30,0 0,0 7,8;a 0,2,1;b 2,0,3 [{oak 40 150} {ash 20 0}]", "10x30;0,0 0,30 10,30 10,0 2,7;a 0,2,1;b 2,0,3 [{oak 40 60} {ash 20 90}]",
	} {
		got := turnedPicture(t, p, int64(turn))
		if text := impl.DrawingText(got.Drawing) + fmt.Sprint(" ", got.Veneers); text != want {
			t.Errorf("the turn %d leads to %s, want %s", turn, text, want)
		}
	}
	// All indices of a Ring behind the first one are in reverse order.
	house := impl.Picture{Drawing: draw("10x11;3,11 10,0 0,11 10,11 0,0;z9 1,3,0,2,4"), Veneers: grainless(40)}
	if got := turnedPicture(t, house, 4); fmt.Sprint(got.Drawing.Faces) != "[{z9 [1 4 2 0 3]}]" {
		t.Errorf("the mirrored faces are %v", got.Drawing.Faces)
	}
	for turn := range int64(8) {
		square := impl.Picture{Drawing: draw("10x10;")}
		if got := turnedPicture(t, square, turn); !samePictures(got, square) {
			t.Errorf("the turn %d leads from %v to %v", turn, square, got)
		}
	}
}

func TestTurnPictureIsAsTold(t *testing.T) {
	check := func(p impl.Picture) {
		for turn := range int64(8) {
			if got, want := turnedPicture(t, p, turn), turnedPictureAsTold(p, turn); !samePictures(got, want) {
				t.Fatalf("TurnPicture(%v, %d) is %v, want %v", p, turn, got, want)
			}
		}
	}
	for _, p := range goodPictures() {
		check(p)
	}
	// All directions of the grain.
	for grain := range int64(180) {
		check(impl.Picture{Drawing: draw(coverTexts[0]), Veneers: []impl.Veneer{veneer("oak", 40, grain), veneer("ash", 20, 179-grain)}})
	}
}

// TestTurningKeepsContrasts is promise 9 for turns.
func TestTurningKeepsContrasts(t *testing.T) {
	for _, p := range goodPictures() {
		list, _ := impl.EdgeContrasts(p)
		shade, shadeCode := impl.PictureShade(p)
		for turn := range int64(8) {
			got := turnedPicture(t, p, turn)
			if !impl.ValidPicture(got) {
				t.Fatalf("the turn %d leads from %v to %v", turn, p, got)
			}
			again, code := impl.EdgeContrasts(got)
			checkList(t, fmt.Sprint("EdgeContrasts after the turn ", turn, " of ", p), again, code, list)
			if other, code := impl.PictureShade(got); other != shade || code != shadeCode {
				t.Fatalf("the turn %d of %v has the shade %d, %d, want %d, %d", turn, p, other, code, shade, shadeCode)
			}
		}
	}
}

func TestTurnsOfPicturesAreAGroup(t *testing.T) {
	for seed, p := range goodPictures() {
		for a := range int64(8) {
			there := turnedPicture(t, p, a)
			inverse, _ := impl.InverseTurn(a)
			if back := turnedPicture(t, there, inverse); !samePictures(back, p) {
				t.Fatalf("the turns %d and %d lead from %v to %v", a, inverse, p, back)
			}
			for b := range int64(8) {
				if (a+b+int64(seed))%4 == 0 {
					if one, two := turnedPicture(t, p, compose(t, a, b)), turnedPicture(t, there, b); !samePictures(one, two) {
						t.Fatalf("the turns %d and %d of %v lead to %v, and both as one to %v", a, b, p, two, one)
					}
				}
			}
		}
	}
}

func TestTurnPictureRefusesTurns(t *testing.T) {
	for _, p := range goodPictures() {
		for _, turn := range noTurns {
			if got, code := impl.TurnPicture(p, turn); !isZeroPicture(got) || code != impl.ErrRange {
				t.Fatalf("TurnPicture(%v, %d) is %v, %d", p, turn, got, code)
			}
		}
	}
}
