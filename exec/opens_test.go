package exec

import (
	"crypto/sha256"
	"math"
	"math/rand"
	"testing"

	"proctor/api"
	"proctor/sha"
)

// P8.1: Opens of the key, and of all that is not quite it.
func TestOpens(t *testing.T) {
	m := api.Msg{Nonce: 5, Key: key(1)}
	k := key(1)
	for what, c := range map[string]struct {
		a    api.Account
		want bool
	}{
		"its key":             {api.Account{Nonce: 5, Lock: lock(1)}, true},
		"its key, and money":  {api.Account{Balance: most, Nonce: 5, Lock: lock(1)}, true},
		"an earlier Nonce":    {api.Account{Nonce: 4, Lock: lock(1)}, false},
		"a later Nonce":       {api.Account{Nonce: 6, Lock: lock(1)}, false},
		"another key":         {api.Account{Nonce: 5, Lock: lock(2)}, false},
		"the key as Lock":     {api.Account{Nonce: 5, Lock: key(1)}, false},
		"no Lock":             {api.Account{Nonce: 5}, false},
		"the key's leaf":      {api.Account{Nonce: 5, Lock: sha.Leaf(k[:])}, false},
		"the key's text":      {api.Account{Nonce: 5, Lock: sha256.Sum256([]byte(sha.Hex(k)))}, false},
		"31 bytes of the key": {api.Account{Nonce: 5, Lock: sha256.Sum256(k[:31])}, false},
		"the sum of nothing":  {api.Account{Nonce: 5, Lock: sha256.Sum256(nil)}, false},
	} {
		if Opens(c.a, m) != c.want {
			t.Errorf("%s: %v", what, !c.want)
		}
	}
	// SHA-256 of 32 noughts, worked out elsewhere: the key of noughts is one like all others.
	noughts, _ := sha.Unhex("66687aadf862bd776c8fc18b8e9f8e20089714856ee233b3902a591d0d5f2925")
	if !Opens(api.Account{Lock: noughts}, api.Msg{}) || Opens(api.Account{}, api.Msg{}) {
		t.Error("the key of noughts")
	}
}

// P8.1: a Lock that is the key's sum but for one bit, and a Key with one bit changed, do not open.
func TestOpensInEachBit(t *testing.T) {
	for n := range 16 {
		a, m := api.Account{Nonce: 3, Lock: lock(n)}, api.Msg{Nonce: 3, Key: key(n)}
		if !Opens(a, m) {
			t.Errorf("the key %d does not open", n)
		}
		for bit := range 256 {
			otherLock, otherKey := a, m
			otherLock.Lock[bit/8] ^= 1 << (bit % 8)
			otherKey.Key[bit/8] ^= 1 << (bit % 8)
			if Opens(otherLock, m) || Opens(a, otherKey) {
				t.Errorf("the key %d opens with another bit %d", n, bit)
			}
		}
		for bit := range 64 {
			otherAccount, otherMessage := a, m
			otherAccount.Nonce ^= 1 << bit
			otherMessage.Nonce ^= 1 << bit
			if Opens(otherAccount, m) || Opens(a, otherMessage) || !Opens(otherAccount, api.Msg{Nonce: otherAccount.Nonce, Key: m.Key}) {
				t.Errorf("a Nonce with another bit %d", bit)
			}
		}
	}
}

// P8.1: a Key whose sum is not the Lock in one bit alone does nothing to a state.
func TestLocksInEachBit(t *testing.T) {
	for _, kind := range []api.MsgKind{api.MTransfer, api.MWithdraw} {
		for bit := range 256 {
			s := some(2)
			m := spending(kind, s, 9, 1, 1, 9)
			s.Accounts[9].Lock[bit/8] ^= 1 << (bit % 8)
			wantVerdict(t, s, m, otherKey)
			s = some(2)
			m.Key[bit/8] ^= 1 << (bit % 8)
			wantVerdict(t, s, m, otherKey)
		}
	}
}

// P8.1: Opens looks at Nonce, Lock and Key alone: whatever the rest of both is, may it be or not.
func TestOpensOfAny(t *testing.T) {
	r := rand.New(rand.NewSource(8))
	for range 2000 {
		n := r.Intn(3)
		a := api.Account{Balance: r.Uint64(), Nonce: uint64(r.Intn(2)) * math.MaxUint64, Lock: lock(n)}
		m := api.Msg{Kind: api.MsgKind(r.Intn(256)), From: r.Uint64(), To: r.Uint64(), Amount: r.Uint64(), Nonce: uint64(r.Intn(2)) * math.MaxUint64, Key: key(r.Intn(3)), Next: key(r.Intn(3))}
		if Opens(a, m) != opened(a, m) {
			t.Fatalf("Opens(%v, %v) = %v", a, m, Opens(a, m))
		}
	}
}

// P8.2: Gain hangs on the message alone, whether a state would refuse it or not.
func TestGains(t *testing.T) {
	for _, amount := range []uint64{1, 2, 5, 1 << 32, supply, supply + 1, 1 << 63, most} {
		for _, place := range []uint64{0, 1, 31} {
			for _, c := range []struct {
				m       api.Msg
				in, out uint64
			}{
				{deposit(place, amount), amount, 0},
				{api.Msg{Kind: api.MTransfer, From: place, To: place, Amount: amount, Nonce: most, Key: key(1)}, 0, 0},
				{api.Msg{Kind: api.MWithdraw, From: place, To: most - place, Amount: amount, Nonce: most, Next: key(1)}, 0, amount},
				{api.Msg{Kind: api.MWithdraw, From: place, Amount: amount}, 0, amount},
				{deposit(place+32, amount), 0, 0},
				{api.Msg{Kind: api.MDeposit, To: place, Amount: amount, Nonce: 1}, 0, 0},
				{api.Msg{Kind: api.MDeposit, From: 1, To: place, Amount: amount}, 0, 0},
				{api.Msg{Kind: api.MWithdraw, From: place + 32, Amount: amount}, 0, 0},
				{api.Msg{Kind: 4, To: place, Amount: amount}, 0, 0},
				{api.Msg{To: place, Amount: amount}, 0, 0},
			} {
				if in, out := Gain(bytesOf(c.m)); in != c.in || out != c.out {
					t.Errorf("Gain(%v) = %d, %d", c.m, in, out)
				}
				wantGain(t, bytesOf(c.m))
			}
		}
	}
}
