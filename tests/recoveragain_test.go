package tests

import (
	"bytes"
	"testing"

	"loop.example/s01594/impl"
)

// checkAgain stops a recovery, crashes its disk and recovers again: the outcome must be that of the disk
// as it was at first.
func checkAgain(t *testing.T, d impl.Disk, c impl.Config, limit int64, choices []int64, want impl.Recovered) impl.Disk {
	t.Helper()
	stopped := impl.Recover(d, c, limit)
	if stopped.Code != impl.RecoverStopped || stopped.Ops != limit {
		t.Fatalf("limit %d of %d: %s", limit, want.Ops, tellRecovered(stopped))
	}
	crashed := impl.DiskCrash(stopped.Disk, choices)
	again := impl.Recover(crashed, c, -1)
	if !sameOutcome(again, want) {
		t.Fatalf("limit %d, crash %v: %s, not %s", limit, choices, tellRecovered(again), tellRecovered(want))
	}
	if !sameDisk(again.Disk, want.Disk) {
		t.Fatalf("limit %d, crash %v: another disk in the end", limit, choices)
	}
	return crashed
}

func (n *numbers) choices(count int) []int64 {
	var out []int64
	for range n.below(count + 3) {
		out = append(out, pick(n, 0, 64, -1, 1, 63, int64(n.below(64)), int64(n.below(64)), int64(n.next())))
	}
	return out
}

// TestRecoverAgain is promise 10 over disks of all sorts, at every limit that stops.
func TestRecoverAgain(t *testing.T) {
	n := &numbers{state: 10}
	var stops [2]int
	for range 2500 {
		s := n.anyStore()
		d := s.disk()
		want := impl.Recover(d, s.config, -1)
		if want.Code > impl.RecoverDegraded {
			continue
		}
		for limit := range want.Ops {
			stops[want.Code]++
			checkAgain(t, d, s.config, limit, nil, want)
			checkAgain(t, d, s.config, limit, []int64{64, 64, 64, 64, 64, 64, 64, 64}, want)
			for range 4 {
				checkAgain(t, d, s.config, limit, n.choices(int(limit)), want)
			}
		}
	}
	if stops[0] < 1500 || stops[1] < 400 {
		t.Errorf("only %v stops", stops)
	}
}

// TestRecoverAgainAndAgain: recovery crashes many times over.
func TestRecoverAgainAndAgain(t *testing.T) {
	n := &numbers{state: 101}
	rounds := 0
	for range 600 {
		s := n.anyStore()
		d := s.disk()
		want := impl.Recover(d, s.config, -1)
		for range 8 {
			ops := impl.Recover(d, s.config, -1).Ops
			if want.Code > impl.RecoverDegraded || ops == 0 {
				break
			}
			limit := int64(n.below(int(ops)))
			d = checkAgain(t, d, s.config, limit, n.choices(int(limit)), want)
			rounds++
		}
	}
	if rounds < 1200 {
		t.Errorf("only %d rounds", rounds)
	}
}

// tornLog is a store whose current log has a torn record, and behind it what looks like more records.
func tornLog(s store) store {
	s.logs[1] = logOf(setTxns(13, 6)...)
	s.logs[1][3*setFrame+5] = 0
	return s
}

// TestRecoverAgainEveryTear tears each of the writes that clean the log at every byte, with the others
// lost, whole or torn.
func TestRecoverAgainEveryTear(t *testing.T) {
	for _, s := range []store{tornLog(sealed()), tornLog(damagedCurrent())} {
		d := s.disk()
		want := impl.Recover(d, s.config, -1)
		if want.Zxid != 15 || want.LogUsed != 3*setFrame || want.Ops != 4 {
			t.Fatalf("%s", tellRecovered(want))
		}
		for limit := range want.Ops {
			for which := range limit {
				for tear := range int64(65) {
					for _, others := range []int64{0, 20, 63, 64} {
						choices := []int64{others, others, others}
						choices[which] = tear
						checkAgain(t, d, s.config, limit, choices, want)
					}
				}
			}
		}
	}
}

// TestRecoverAgainKeepsTheRest: whatever is stopped and crashed, only the log of the current bank changes,
// and there only behind the records.
func TestRecoverAgainKeepsTheRest(t *testing.T) {
	n := &numbers{state: 102}
	s := tornLog(sealed())
	d := s.disk()
	for limit := range int64(4) {
		for range 50 {
			crashed := impl.DiskCrash(impl.Recover(d, s.config, limit).Disk, n.choices(int(limit)))
			end := 10*64 + 3*setFrame
			if !bytes.Equal(crashed.Durable[:end], d.Durable[:end]) || len(crashed.Durable) != len(d.Durable) {
				t.Fatalf("limit %d: something ahead of the end of the log changed", limit)
			}
		}
	}
}

// TestRecoverTwice: a recovery that has ended leaves nothing to do for the next one.
func TestRecoverTwice(t *testing.T) {
	n := &numbers{state: 103}
	for range 1500 {
		s := n.anyStore()
		first := impl.Recover(s.disk(), s.config, -1)
		if first.Code > impl.RecoverDegraded {
			continue
		}
		second := impl.Recover(first.Disk, s.config, 0)
		if !sameOutcome(second, first) || second.Ops != 0 || !sameDisk(second.Disk, first.Disk) {
			t.Fatalf("%s, and then %s", tellRecovered(first), tellRecovered(second))
		}
	}
}
