package impl

import (
	"slices"
	"testing"
)

// Beside the code, as the variables of the sieve are not exported.

func TestPromise1TheSieveHoldsThePrimes(t *testing.T) {
	IsPrime(0)
	var want []int64
	for n := int64(0); n <= rootOfMost; n++ {
		if IsPrime(n) {
			want = append(want, n)
		}
	}
	if !slices.Equal(sievePrimes, want) || len(want) != 3401 {
		t.Errorf("the sieve holds %d primes, and %d are found by division, want 3401", len(sievePrimes), len(want))
	}
}

func TestPromise1NoResultComesFromTheSieve(t *testing.T) {
	IsPrime(0)
	kept := sievePrimes
	defer func() { sievePrimes = kept }()
	for _, wrong := range [][]int64{nil, {}, {1}, {2}, {4, 6, 360}, {3, 2}, {31607, 31607 * 31607}, {0}, {-7}} {
		sievePrimes = wrong
		checkPrimes(t)
		checkFactors(t)
	}
}

func checkPrimes(t *testing.T) {
	t.Helper()
	for _, n := range []int64{2, 3, 5, 7, 25, 49, 97, 31607, 999999937, 1, 0, -7, 4, 6, 360, 31607 * 31607, MaxTerm} {
		want := n == 2 || n == 3 || n == 5 || n == 7 || n == 97 || n == 31607 || n == 999999937
		if got := IsPrime(n); got != want {
			t.Errorf("IsPrime(%d) with the sieve %v: got %t", n, sievePrimes, got)
		}
	}
}

func checkFactors(t *testing.T) {
	t.Helper()
	for n, want := range map[int64]string{1: "1", 2: "2", 4: "2^2", 360: "2^3 3^2 5", 31607 * 31607: "31607^2", 1001: "7 11 13", MaxTerm: "2^9 5^9"} {
		if got := PowersText(n); got != want {
			t.Errorf("PowersText(%d) with the sieve %v: got %q", n, sievePrimes, got)
		}
	}
	if got, _ := PrimesOf(360); !slices.Equal(got, []int64{2, 2, 2, 3, 3, 5}) {
		t.Errorf("PrimesOf(360) with the sieve %v: got %v", sievePrimes, got)
	}
	if got, _ := DivisorsOf(12); !slices.Equal(got, []int64{1, 2, 3, 4, 6, 12}) {
		t.Errorf("DivisorsOf(12) with the sieve %v: got %v", sievePrimes, got)
	}
	if got, _ := DivisorsWithin(360, 8, 12); !slices.Equal(got, []int64{8, 9, 10, 12}) {
		t.Errorf("DivisorsWithin(360, 8, 12) with the sieve %v: got %v", sievePrimes, got)
	}
	if got, _ := SplitsOf(360, 6, 10, 3); len(got) != 1 || !slices.Equal(got[0], []int64{6, 6, 10}) {
		t.Errorf("SplitsOf(360, 6, 10, 3) with the sieve %v: got %v", sievePrimes, got)
	}
	if got, _ := NearestSplit(361, 6, 10, 3); got != 360 {
		t.Errorf("NearestSplit(361, 6, 10, 3) with the sieve %v: got %d", sievePrimes, got)
	}
}
