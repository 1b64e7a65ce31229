package tests

import (
	"fmt"
	"strings"
	"testing"

	"loop.example/g00609/impl"
)

// wantTalk checks the output of each line of a talk, which stands behind an arrow. By promise 15, each beginning of the
// talk has the same output as in the whole.
func wantTalk(t *testing.T, what string, talk string) {
	t.Helper()
	text, want := "", ""
	for _, x := range strings.Split(talk, "\n") {
		if strings.TrimSpace(x) == "" {
			continue
		}
		line, output, found := strings.Cut(x, "=>")
		if !found {
			t.Fatalf("%s: %q has no arrow", what, x)
		}
		text += strings.TrimSpace(line) + "\n"
		want += strings.TrimSpace(output) + "\n"
		wantScript(t, what, text, want)
	}
}

func TestLimitLines(t *testing.T) {
	wantTalk(t, "limit", `
		limit 0 1 1 1 100 5 1 => ack 1 100 5
		limit 0 2 2 2 100 3 1 => ack 2 100 3; fill 2 1 100 3
		limit 0 1 1 1 100 5 1 => no 3
		limit 0 1 3 2 100 2 1 => ack 3 100 2; gone 3 2
		book 0                => book 100:2 |
		limit 0 1 4 2 99 4 2  => ack 4 99 4; gone 1 2
		book 0                => book | 99:4
		limit 0 1 5 1 99 9 3  => ack 5 99 9; gone 4 4; gone 5 9
		book 0                => book |
		volume 0              => volume 3
		vwap 0                => vwap 100`)
	wantTalk(t, "limit without room", `
		limit 2 7 1 1 100 6 1 => ack 1 100 6
		limit 2 8 2 2 101 1 2 => ack 2 101 1
		limit 2 8 3 2 100 9 3 => ack 3 100 9; fill 3 1 100 6
		limit 2 9 4 1 101 9 1 => ack 4 101 9; fill 4 3 100 3; fill 4 2 101 1
		book 2                => book 101:5 |
		volume 2              => volume 10
		vwap 2                => vwap 100`)
}

// filledSide returns a talk in which the buyers of book 1 come to have 20 orders.
func filledSide() string {
	talk := ""
	for id := 1; id <= 20; id++ {
		talk += fmt.Sprintf("limit 1 1 %d 1 %d 2 1 => ack %d %d 2\n", id, 50+id%3, id, 50+id%3)
	}
	return talk
}

func TestLinesWithoutRoom(t *testing.T) {
	wantTalk(t, "no room", filledSide()+`
		limit 1 1 21 1 50 2 1   => ack 21 50 2; gone 21 2
		post 1 1 22 1 50 2 1    => no 7
		post 1 1 23 2 50 2 1    => no 5
		post 1 1 24 2 53 2 1    => ack 24 53 2
		limit 1 2 25 1 53 5 1   => ack 25 53 5; fill 25 24 53 2; gone 25 3
		replace 1 1 20 53 9 1   => gone 20 2; ack 20 53 9
		book 1                  => book 53:9 52:12 51:14 50:12 |
		market 1 3 26 2 10 1    => ack 26 0 10; fill 26 20 53 9; fill 26 2 52 1
		volume 1                => volume 12
		vwap 1                  => vwap 52
		mass 1                  => gone 2 1; gone 5 2; gone 8 2; gone 11 2; gone 14 2; gone 17 2; gone 1 2; gone 4 2; gone 7 2; gone 10 2; gone 13 2; gone 16 2; gone 19 2; gone 3 2; gone 6 2; gone 9 2; gone 12 2; gone 15 2; gone 18 2; done 19
		book 1                  => book |`)
}

func TestIocLines(t *testing.T) {
	wantTalk(t, "ioc", `
		ioc 3 5 1 1 100 4 1    => ack 1 100 4; gone 1 4
		limit 3 5 2 2 100 4 1  => ack 2 100 4
		limit 3 6 3 2 101 4 1  => ack 3 101 4
		ioc 3 7 4 1 100 6 1    => ack 4 100 6; fill 4 2 100 4; gone 4 2
		ioc 3 6 5 1 101 6 1    => ack 5 101 6; gone 5 6
		ioc 3 6 5 1 101 6 2    => ack 5 101 6; gone 3 4; gone 5 6
		ioc 3 100 3 1 101 1 3  => ack 3 101 1; gone 3 1
		limit 3 6 3 2 101 4 1  => ack 3 101 4
		ioc 3 7 3 1 101 1 3    => no 3
		block 7                => done 0
		ioc 3 7 9 1 101 1 3    => no 2
		book 3                 => book | 101:4`)
}

func TestFokLines(t *testing.T) {
	wantTalk(t, "fok", `
		fok 0 5 1 2 100 4 1    => no 6
		limit 0 5 2 1 100 4 1  => ack 2 100 4
		limit 0 6 3 1 99 4 1   => ack 3 99 4
		fok 0 7 4 2 100 5 1    => no 6
		fok 0 7 4 2 99 9 1     => no 6
		fok 0 6 4 2 99 5 1     => no 6
		fok 0 7 3 2 99 5 1     => no 3
		fok 0 7 4 2 99 8 1     => ack 4 99 8; fill 4 2 100 4; fill 4 3 99 4
		limit 0 7 5 1 100 4 1  => ack 5 100 4
		limit 0 6 6 1 99 4 1   => ack 6 99 4
		fok 0 7 7 2 99 4 3     => no 6
		fok 0 7 7 2 99 4 2     => ack 7 99 4; gone 5 4; fill 7 6 99 4
		block 7                => done 0
		fok 0 7 5 2 99 8 1     => no 2
		vwap 0                 => vwap 99
		book 0                 => book |`)
}

func TestPostLines(t *testing.T) {
	wantTalk(t, "post", `
		post 0 5 1 2 100 4 1  => ack 1 100 4
		post 0 6 2 1 100 4 1  => no 5
		post 0 6 1 1 100 4 1  => no 3
		post 0 6 2 1 99 4 1   => ack 2 99 4
		block 6               => gone 2 4; done 1
		post 0 6 2 1 98 4 1   => no 2
		book 0                => book | 100:4
		volume 0              => volume 0`)
}

func TestMarketLines(t *testing.T) {
	wantTalk(t, "market", `
		market 1 5 1 1 4 1       => ack 1 0 4; gone 1 4
		limit 1 5 2 2 1 4 1      => ack 2 1 4
		limit 1 6 3 2 1000000 4 1 => ack 3 1000000 4
		market 1 7 4 1 6 1       => ack 4 0 6; fill 4 2 1 4; fill 4 3 1000000 2
		vwap 1                   => vwap 333334
		market 1 6 5 1 6 3       => ack 5 0 6; gone 3 2; gone 5 6
		limit 1 5 2 2 1 4 1      => ack 2 1 4
		market 1 6 2 1 6 3       => no 3
		block 6                  => done 0
		market 1 6 7 1 6 3       => no 2
		volume 1                 => volume 6`)
}

func TestCancelAndReplaceLines(t *testing.T) {
	wantTalk(t, "cancel and replace", `
		cancel 0 1 1          => no 4
		replace 0 1 1 100 5 1 => no 4
		limit 0 1 1 1 100 5 1 => ack 1 100 5
		limit 0 2 2 1 100 5 1 => ack 2 100 5
		limit 0 3 3 2 105 5 1 => ack 3 105 5
		cancel 1 1 1          => no 4
		cancel 0 2 1          => no 4
		replace 0 2 1 100 5 1 => no 4
		replace 0 1 1 100 4 1 => gone 1 5; ack 1 100 4
		limit 0 4 4 2 100 2 1 => ack 4 100 2; fill 4 1 100 2
		replace 0 1 1 100 3 1 => gone 1 2; ack 1 100 3
		limit 0 4 5 2 100 2 1 => ack 5 100 2; fill 5 2 100 2
		replace 0 2 2 105 9 1 => gone 2 3; ack 2 105 9; fill 2 3 105 5
		replace 0 1 1 105 2 1 => gone 1 3; ack 1 105 2
		book 0                => book 105:6 |
		cancel 0 1 1          => gone 1 2
		cancel 0 1 1          => no 4
		book 0                => book 105:4 |
		vwap 0                => vwap 102
		volume 0              => volume 9`)
	wantTalk(t, "replacements that meet orders of the account", `
		limit 0 1 1 1 100 5 1 => ack 1 100 5
		limit 0 1 2 2 105 4 1 => ack 2 105 4
		replace 0 1 1 106 3 1 => gone 1 5; ack 1 106 3; gone 1 3
		limit 0 1 1 1 100 5 1 => ack 1 100 5
		replace 0 1 1 106 3 2 => gone 1 5; ack 1 106 3; gone 2 4
		book 0                => book 106:3 |
		limit 0 1 2 2 107 4 1 => ack 2 107 4
		replace 0 1 1 107 7 3 => gone 1 3; ack 1 107 7; gone 2 4; gone 1 7
		book 0                => book |`)
}

func TestLinesOfAllBooks(t *testing.T) {
	wantTalk(t, "mass, block and free", `
		mass 1                => done 0
		free 1                => done 0
		limit 0 1 1 1 100 5 1 => ack 1 100 5
		limit 3 1 1 2 100 6 1 => ack 1 100 6
		limit 0 1 2 2 101 7 1 => ack 2 101 7
		limit 0 2 3 2 101 8 1 => ack 3 101 8
		mass 1                => gone 1 5; gone 2 7; gone 1 6; done 3
		limit 1 1 4 1 9 1 1   => ack 4 9 1
		block 1               => gone 4 1; done 1
		block 1               => done 0
		mass 1                => done 0
		limit 1 1 4 1 9 1 1   => no 2
		replace 1 1 4 9 1 1   => no 2
		cancel 1 1 4          => no 4
		limit 1 2 4 1 9 1 1   => ack 4 9 1
		free 2                => done 0
		limit 1 1 5 1 9 1 1   => no 2
		free 1                => done 0
		limit 1 1 5 1 9 2 1   => ack 5 9 2
		block 100             => done 0
		block 2               => gone 3 8; gone 4 1; done 2
		market 1 2 6 2 1 1    => no 2
		free 2                => done 0
		market 1 2 6 2 1 1    => ack 6 0 1; fill 6 5 9 1
		market 1 100 7 2 1 1  => no 2`)
}

func TestBookLines(t *testing.T) {
	wantTalk(t, "book", `
		book 2                 => book |
		limit 2 1 1 1 50 5 1   => ack 1 50 5
		book 2                 => book 50:5 |
		limit 2 2 2 1 50 7 1   => ack 2 50 7
		book 2                 => book 50:12 |
		limit 2 1 3 1 49 1 1   => ack 3 49 1
		limit 2 3 4 1 51 2 1   => ack 4 51 2
		limit 2 4 5 1 50 3 1   => ack 5 50 3
		book 2                 => book 51:2 50:15 49:1 |
		limit 2 5 6 2 53 1 1   => ack 6 53 1
		limit 2 5 7 2 52 10 1  => ack 7 52 10
		limit 2 6 8 2 53 100 1 => ack 8 53 100
		limit 2 7 9 2 1000000 1000000 1 => ack 9 1000000 1000000
		limit 2 7 10 2 1000000 1000000 1 => ack 10 1000000 1000000
		book 2                 => book 51:2 50:15 49:1 | 52:10 53:101 1000000:2000000
		book 1                 => book |
		book 3                 => book |
		mass 1                 => gone 1 5; gone 3 1; done 2
		book 2                 => book 51:2 50:10 | 52:10 53:101 1000000:2000000
		market 2 9 11 2 4 1    => ack 11 0 4; fill 11 4 51 2; fill 11 2 50 2
		book 2                 => book 50:8 | 52:10 53:101 1000000:2000000
		ioc 2 9 12 2 1 8 1     => ack 12 1 8; fill 12 2 50 5; fill 12 5 50 3
		book 2                 => book | 52:10 53:101 1000000:2000000`)
}

func TestVolumeAndVwapLines(t *testing.T) {
	wantTalk(t, "volume and vwap", `
		volume 0             => volume 0
		vwap 0               => vwap 0
		limit 0 1 1 1 99 1 1 => ack 1 99 1
		limit 0 1 2 1 100 2 1 => ack 2 100 2
		limit 0 1 3 1 103 3 1 => ack 3 103 3
		limit 1 1 1 1 7 5 1  => ack 1 7 5
		volume 0             => volume 0
		vwap 0               => vwap 0
		market 0 2 4 2 3 1   => ack 4 0 3; fill 4 3 103 3
		vwap 0               => vwap 103
		market 0 2 4 2 2 1   => ack 4 0 2; fill 4 2 100 2
		vwap 0               => vwap 101
		volume 0             => volume 5
		market 0 2 4 2 9 1   => ack 4 0 9; fill 4 1 99 1; gone 4 8
		volume 0             => volume 6
		vwap 0               => vwap 101
		ioc 1 2 4 2 6 2 1    => ack 4 6 2; fill 4 1 7 2
		volume 1             => volume 2
		vwap 1               => vwap 7
		volume 2             => volume 0
		vwap 3               => vwap 0
		volume 0             => volume 6
		vwap 0               => vwap 101`)
	wantTalk(t, "the greatest volume", `
		limit 3 1 1 2 1000000 1000000 1 => ack 1 1000000 1000000
		market 3 2 2 1 1000000 1        => ack 2 0 1000000; fill 2 1 1000000 1000000
		limit 3 1 1 2 1000000 1000000 1 => ack 1 1000000 1000000
		market 3 2 2 1 1000000 1        => ack 2 0 1000000; fill 2 1 1000000 1000000
		volume 3                        => volume 2000000
		vwap 3                          => vwap 1000000`)
}

// Each line of a script of 40 lines counts for the volume.
func TestVolumeOfManyLines(t *testing.T) {
	text := ""
	for i := range 19 {
		text += fmt.Sprintf("limit 0 1 %d 1 %d 1000000 1\nmarket 0 2 99 2 1000000 1\n", i+1, 1000000-i)
	}
	got := impl.RunScript(text + "volume 0\nvwap 0\n")
	if !strings.HasSuffix(got, "\nvolume 19000000\nvwap 999991\n") || strings.Count(got, "fill") != 19 {
		t.Errorf("%q", got)
	}
	wantScript(t, "many lines", text+"volume 0\nvwap 0\n", scriptModel(text+"volume 0\nvwap 0\n"))
}
