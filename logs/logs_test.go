package logs

import (
	"math"
	"sync"
	"testing"
)

// slow is the logarithm as the chapter reckons it, each step by itself.
func slow(n uint64) uint64 {
	whole := uint64(0)
	for m := n; m > 1; m /= 2 {
		whole++
	}
	x := n
	for x >= 1<<32 {
		x /= 2
	}
	for x < 1<<31 {
		x *= 2
	}
	log := whole
	for i := 0; i < 24; i++ {
		x = x * x / (1 << 31)
		log *= 2
		if x >= 1<<32 {
			log++
			x /= 2
		}
	}
	return log
}

func TestLog2(t *testing.T) { // 3.1
	if Log2(0) != 0 || Log2(1) != 0 || Log2(2) != 1<<24 || Log2(1<<63) != 63<<24 {
		t.Fatal("edges")
	}
	x := uint64(1)
	for i := range 4000 {
		n := uint64(i + 1)
		if i >= 2000 {
			x = x*6364136223846793005 + 1442695040888963407
			n = x>>(i%60) | 1
		}
		if Log2(n) != slow(n) {
			t.Fatal(n, Log2(n), slow(n))
		}
		if d := math.Log2(float64(n)) - float64(Log2(n))/(1<<24); d < -1e-6 || d > 1e-6 {
			t.Fatal(n, d)
		}
	}
	if Log2(1<<64-1) != slow(1<<64-1) {
		t.Fatal("greatest")
	}
}

func TestOf(t *testing.T) { // 3.1, 3.3
	if Bits != 24 || Draws != 65536 || Of(65536) != 0 || Of(32768) != 1<<24 || Of(1) != 16<<24 {
		t.Fatal("edges")
	}
	for i := 0; i <= 16; i++ {
		if Of(1<<i) != uint64(16-i)<<24 {
			t.Fatal("power", i)
		}
	}
	for d := 1; d < 65536; d++ {
		if Of(d) < Of(d+1) || Of(d) != 16<<24-slow(uint64(d)) {
			t.Fatal(d)
		}
	}
	for _, d := range []int{0, -1, math.MinInt} {
		if Of(d) != Of(1) {
			t.Fatal(d)
		}
	}
	for _, d := range []int{65537, math.MaxInt} {
		if Of(d) != 0 {
			t.Fatal(d)
		}
	}
}

func TestTable(t *testing.T) { // 3.2
	var x Table
	var wait sync.WaitGroup
	for range 8 {
		wait.Go(func() {
			if x.At(3) != Of(3) {
				t.Error("at once")
			}
		})
	}
	wait.Wait()
	for d := -3; d < 65540; d++ {
		if x.At(d) != Of(d) {
			t.Fatal(d)
		}
	}
	if x.At(math.MinInt) != 16<<24 || x.At(math.MaxInt) != 0 || (*Table)(nil).At(1) != 0 {
		t.Fatal("edges")
	}
}
