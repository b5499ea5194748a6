import Derived.Test.YtmjliomhhgahkaaGreatDoorJ07
namespace Go.Proofs.YtmjliomhhgahkaaGreatDoor
open Go.RowKit Go.Shelf
set_option linter.unusedSimpArgs false
set_option linter.unusedVariables false

theorem opO_none {L : List ByteArray} (hcreate : ((bAt L 0).toList == [99, 114, 101, 97, 116, 101]) = false) (hseq : ((bAt L 0).toList == [115, 101, 113]) = false) (hdelete : ((bAt L 0).toList == [100, 101, 108, 101, 116, 101]) = false) (hset : ((bAt L 0).toList == [115, 101, 116]) = false) (hcheck : ((bAt L 0).toList == [99, 104, 101, 99, 107]) = false) : opO L = none := by
  unfold opO opO3 opO4
  simp [hcreate, hseq, hdelete, hset, hcheck]
theorem plV_none {f0 : ByteArray} {ns : List Int} (hstep : (f0.toList == [115, 116, 101, 112]) = false) (harm : (f0.toList == [97, 114, 109]) = false) (hcrash : (f0.toList == [99, 114, 97, 115, 104]) = false) (hrot : (f0.toList == [114, 111, 116]) = false) : plV f0 ns = ln0 := by
  unfold plV
  simp [hstep, harm, hcrash, hrot]
theorem plN_none {L : List ByteArray} (hstep : ((bAt L 0).toList == [115, 116, 101, 112]) = false) (harm : ((bAt L 0).toList == [97, 114, 109]) = false) (hcrash : ((bAt L 0).toList == [99, 114, 97, 115, 104]) = false) (hrot : ((bAt L 0).toList == [114, 111, 116]) = false) : plN L = ln0 := by
  unfold plN
  cases numsO (L.drop 1) with
  | none => rfl
  | some ns =>
    show (if _ then _ else _) = _
    rw [plV_none hstep harm hcrash hrot]
    split <;> rfl
theorem plF_flush {L : List ByteArray} (h : ((bAt L 0).toList == [102, 108, 117, 115, 104]) = true) : plF L = if L.length = 1 then ⟨2, [], false, ⟨#[]⟩, []⟩ else ln0 := by
  have hmulti : ((bAt L 0).toList == [109, 117, 108, 116, 105]) = false := by rw [beq_iff_eq.1 h]; rfl
  have hcreate : ((bAt L 0).toList == [99, 114, 101, 97, 116, 101]) = false := by rw [beq_iff_eq.1 h]; rfl
  have hseq : ((bAt L 0).toList == [115, 101, 113]) = false := by rw [beq_iff_eq.1 h]; rfl
  have hdelete : ((bAt L 0).toList == [100, 101, 108, 101, 116, 101]) = false := by rw [beq_iff_eq.1 h]; rfl
  have hset : ((bAt L 0).toList == [115, 101, 116]) = false := by rw [beq_iff_eq.1 h]; rfl
  have hcheck : ((bAt L 0).toList == [99, 104, 101, 99, 107]) = false := by rw [beq_iff_eq.1 h]; rfl
  have hdump : ((bAt L 0).toList == [100, 117, 109, 112]) = false := by rw [beq_iff_eq.1 h]; rfl
  have hsnap : ((bAt L 0).toList == [115, 110, 97, 112]) = false := by rw [beq_iff_eq.1 h]; rfl
  have hrecover : ((bAt L 0).toList == [114, 101, 99, 111, 118, 101, 114]) = false := by rw [beq_iff_eq.1 h]; rfl
  have hstatus : ((bAt L 0).toList == [115, 116, 97, 116, 117, 115]) = false := by rw [beq_iff_eq.1 h]; rfl
  have hget : ((bAt L 0).toList == [103, 101, 116]) = false := by rw [beq_iff_eq.1 h]; rfl
  have hlist : ((bAt L 0).toList == [108, 105, 115, 116]) = false := by rw [beq_iff_eq.1 h]; rfl
  have hstep : ((bAt L 0).toList == [115, 116, 101, 112]) = false := by rw [beq_iff_eq.1 h]; rfl
  have harm : ((bAt L 0).toList == [97, 114, 109]) = false := by rw [beq_iff_eq.1 h]; rfl
  have hcrash : ((bAt L 0).toList == [99, 114, 97, 115, 104]) = false := by rw [beq_iff_eq.1 h]; rfl
  have hrot : ((bAt L 0).toList == [114, 111, 116]) = false := by rw [beq_iff_eq.1 h]; rfl
  unfold plF plO
  rw [if_neg (by rw [hmulti]; decide), opO_none hcreate hseq hdelete hset hcheck]
  show pl1 L = _
  unfold pl1 pl2
  rw [plN_none hstep harm hcrash hrot]
  by_cases h1 : L.length = 1
  · simp [h1, h, hdump, hsnap, hrecover, hstatus]
  · simp [h1, hget, hlist]
theorem plF_dump {L : List ByteArray} (h : ((bAt L 0).toList == [100, 117, 109, 112]) = true) : plF L = if L.length = 1 then ⟨5, [], false, ⟨#[]⟩, []⟩ else ln0 := by
  have hmulti : ((bAt L 0).toList == [109, 117, 108, 116, 105]) = false := by rw [beq_iff_eq.1 h]; rfl
  have hcreate : ((bAt L 0).toList == [99, 114, 101, 97, 116, 101]) = false := by rw [beq_iff_eq.1 h]; rfl
  have hseq : ((bAt L 0).toList == [115, 101, 113]) = false := by rw [beq_iff_eq.1 h]; rfl
  have hdelete : ((bAt L 0).toList == [100, 101, 108, 101, 116, 101]) = false := by rw [beq_iff_eq.1 h]; rfl
  have hset : ((bAt L 0).toList == [115, 101, 116]) = false := by rw [beq_iff_eq.1 h]; rfl
  have hcheck : ((bAt L 0).toList == [99, 104, 101, 99, 107]) = false := by rw [beq_iff_eq.1 h]; rfl
  have hflush : ((bAt L 0).toList == [102, 108, 117, 115, 104]) = false := by rw [beq_iff_eq.1 h]; rfl
  have hsnap : ((bAt L 0).toList == [115, 110, 97, 112]) = false := by rw [beq_iff_eq.1 h]; rfl
  have hrecover : ((bAt L 0).toList == [114, 101, 99, 111, 118, 101, 114]) = false := by rw [beq_iff_eq.1 h]; rfl
  have hstatus : ((bAt L 0).toList == [115, 116, 97, 116, 117, 115]) = false := by rw [beq_iff_eq.1 h]; rfl
  have hget : ((bAt L 0).toList == [103, 101, 116]) = false := by rw [beq_iff_eq.1 h]; rfl
  have hlist : ((bAt L 0).toList == [108, 105, 115, 116]) = false := by rw [beq_iff_eq.1 h]; rfl
  have hstep : ((bAt L 0).toList == [115, 116, 101, 112]) = false := by rw [beq_iff_eq.1 h]; rfl
  have harm : ((bAt L 0).toList == [97, 114, 109]) = false := by rw [beq_iff_eq.1 h]; rfl
  have hcrash : ((bAt L 0).toList == [99, 114, 97, 115, 104]) = false := by rw [beq_iff_eq.1 h]; rfl
  have hrot : ((bAt L 0).toList == [114, 111, 116]) = false := by rw [beq_iff_eq.1 h]; rfl
  unfold plF plO
  rw [if_neg (by rw [hmulti]; decide), opO_none hcreate hseq hdelete hset hcheck]
  show pl1 L = _
  unfold pl1 pl2
  rw [plN_none hstep harm hcrash hrot]
  by_cases h1 : L.length = 1
  · simp [h1, h, hflush, hsnap, hrecover, hstatus]
  · simp [h1, hget, hlist]
theorem plF_snap {L : List ByteArray} (h : ((bAt L 0).toList == [115, 110, 97, 112]) = true) : plF L = if L.length = 1 then ⟨6, [], false, ⟨#[]⟩, []⟩ else ln0 := by
  have hmulti : ((bAt L 0).toList == [109, 117, 108, 116, 105]) = false := by rw [beq_iff_eq.1 h]; rfl
  have hcreate : ((bAt L 0).toList == [99, 114, 101, 97, 116, 101]) = false := by rw [beq_iff_eq.1 h]; rfl
  have hseq : ((bAt L 0).toList == [115, 101, 113]) = false := by rw [beq_iff_eq.1 h]; rfl
  have hdelete : ((bAt L 0).toList == [100, 101, 108, 101, 116, 101]) = false := by rw [beq_iff_eq.1 h]; rfl
  have hset : ((bAt L 0).toList == [115, 101, 116]) = false := by rw [beq_iff_eq.1 h]; rfl
  have hcheck : ((bAt L 0).toList == [99, 104, 101, 99, 107]) = false := by rw [beq_iff_eq.1 h]; rfl
  have hflush : ((bAt L 0).toList == [102, 108, 117, 115, 104]) = false := by rw [beq_iff_eq.1 h]; rfl
  have hdump : ((bAt L 0).toList == [100, 117, 109, 112]) = false := by rw [beq_iff_eq.1 h]; rfl
  have hrecover : ((bAt L 0).toList == [114, 101, 99, 111, 118, 101, 114]) = false := by rw [beq_iff_eq.1 h]; rfl
  have hstatus : ((bAt L 0).toList == [115, 116, 97, 116, 117, 115]) = false := by rw [beq_iff_eq.1 h]; rfl
  have hget : ((bAt L 0).toList == [103, 101, 116]) = false := by rw [beq_iff_eq.1 h]; rfl
  have hlist : ((bAt L 0).toList == [108, 105, 115, 116]) = false := by rw [beq_iff_eq.1 h]; rfl
  have hstep : ((bAt L 0).toList == [115, 116, 101, 112]) = false := by rw [beq_iff_eq.1 h]; rfl
  have harm : ((bAt L 0).toList == [97, 114, 109]) = false := by rw [beq_iff_eq.1 h]; rfl
  have hcrash : ((bAt L 0).toList == [99, 114, 97, 115, 104]) = false := by rw [beq_iff_eq.1 h]; rfl
  have hrot : ((bAt L 0).toList == [114, 111, 116]) = false := by rw [beq_iff_eq.1 h]; rfl
  unfold plF plO
  rw [if_neg (by rw [hmulti]; decide), opO_none hcreate hseq hdelete hset hcheck]
  show pl1 L = _
  unfold pl1 pl2
  rw [plN_none hstep harm hcrash hrot]
  by_cases h1 : L.length = 1
  · simp [h1, h, hflush, hdump, hrecover, hstatus]
  · simp [h1, hget, hlist]
theorem plF_recover {L : List ByteArray} (h : ((bAt L 0).toList == [114, 101, 99, 111, 118, 101, 114]) = true) : plF L = if L.length = 1 then ⟨11, [], false, ⟨#[]⟩, []⟩ else ln0 := by
  have hmulti : ((bAt L 0).toList == [109, 117, 108, 116, 105]) = false := by rw [beq_iff_eq.1 h]; rfl
  have hcreate : ((bAt L 0).toList == [99, 114, 101, 97, 116, 101]) = false := by rw [beq_iff_eq.1 h]; rfl
  have hseq : ((bAt L 0).toList == [115, 101, 113]) = false := by rw [beq_iff_eq.1 h]; rfl
  have hdelete : ((bAt L 0).toList == [100, 101, 108, 101, 116, 101]) = false := by rw [beq_iff_eq.1 h]; rfl
  have hset : ((bAt L 0).toList == [115, 101, 116]) = false := by rw [beq_iff_eq.1 h]; rfl
  have hcheck : ((bAt L 0).toList == [99, 104, 101, 99, 107]) = false := by rw [beq_iff_eq.1 h]; rfl
  have hflush : ((bAt L 0).toList == [102, 108, 117, 115, 104]) = false := by rw [beq_iff_eq.1 h]; rfl
  have hdump : ((bAt L 0).toList == [100, 117, 109, 112]) = false := by rw [beq_iff_eq.1 h]; rfl
  have hsnap : ((bAt L 0).toList == [115, 110, 97, 112]) = false := by rw [beq_iff_eq.1 h]; rfl
  have hstatus : ((bAt L 0).toList == [115, 116, 97, 116, 117, 115]) = false := by rw [beq_iff_eq.1 h]; rfl
  have hget : ((bAt L 0).toList == [103, 101, 116]) = false := by rw [beq_iff_eq.1 h]; rfl
  have hlist : ((bAt L 0).toList == [108, 105, 115, 116]) = false := by rw [beq_iff_eq.1 h]; rfl
  have hstep : ((bAt L 0).toList == [115, 116, 101, 112]) = false := by rw [beq_iff_eq.1 h]; rfl
  have harm : ((bAt L 0).toList == [97, 114, 109]) = false := by rw [beq_iff_eq.1 h]; rfl
  have hcrash : ((bAt L 0).toList == [99, 114, 97, 115, 104]) = false := by rw [beq_iff_eq.1 h]; rfl
  have hrot : ((bAt L 0).toList == [114, 111, 116]) = false := by rw [beq_iff_eq.1 h]; rfl
  unfold plF plO
  rw [if_neg (by rw [hmulti]; decide), opO_none hcreate hseq hdelete hset hcheck]
  show pl1 L = _
  unfold pl1 pl2
  rw [plN_none hstep harm hcrash hrot]
  by_cases h1 : L.length = 1
  · simp [h1, h, hflush, hdump, hsnap, hstatus]
  · simp [h1, hget, hlist]
theorem plF_status {L : List ByteArray} (h : ((bAt L 0).toList == [115, 116, 97, 116, 117, 115]) = true) : plF L = if L.length = 1 then ⟨12, [], false, ⟨#[]⟩, []⟩ else ln0 := by
  have hmulti : ((bAt L 0).toList == [109, 117, 108, 116, 105]) = false := by rw [beq_iff_eq.1 h]; rfl
  have hcreate : ((bAt L 0).toList == [99, 114, 101, 97, 116, 101]) = false := by rw [beq_iff_eq.1 h]; rfl
  have hseq : ((bAt L 0).toList == [115, 101, 113]) = false := by rw [beq_iff_eq.1 h]; rfl
  have hdelete : ((bAt L 0).toList == [100, 101, 108, 101, 116, 101]) = false := by rw [beq_iff_eq.1 h]; rfl
  have hset : ((bAt L 0).toList == [115, 101, 116]) = false := by rw [beq_iff_eq.1 h]; rfl
  have hcheck : ((bAt L 0).toList == [99, 104, 101, 99, 107]) = false := by rw [beq_iff_eq.1 h]; rfl
  have hflush : ((bAt L 0).toList == [102, 108, 117, 115, 104]) = false := by rw [beq_iff_eq.1 h]; rfl
  have hdump : ((bAt L 0).toList == [100, 117, 109, 112]) = false := by rw [beq_iff_eq.1 h]; rfl
  have hsnap : ((bAt L 0).toList == [115, 110, 97, 112]) = false := by rw [beq_iff_eq.1 h]; rfl
  have hrecover : ((bAt L 0).toList == [114, 101, 99, 111, 118, 101, 114]) = false := by rw [beq_iff_eq.1 h]; rfl
  have hget : ((bAt L 0).toList == [103, 101, 116]) = false := by rw [beq_iff_eq.1 h]; rfl
  have hlist : ((bAt L 0).toList == [108, 105, 115, 116]) = false := by rw [beq_iff_eq.1 h]; rfl
  have hstep : ((bAt L 0).toList == [115, 116, 101, 112]) = false := by rw [beq_iff_eq.1 h]; rfl
  have harm : ((bAt L 0).toList == [97, 114, 109]) = false := by rw [beq_iff_eq.1 h]; rfl
  have hcrash : ((bAt L 0).toList == [99, 114, 97, 115, 104]) = false := by rw [beq_iff_eq.1 h]; rfl
  have hrot : ((bAt L 0).toList == [114, 111, 116]) = false := by rw [beq_iff_eq.1 h]; rfl
  unfold plF plO
  rw [if_neg (by rw [hmulti]; decide), opO_none hcreate hseq hdelete hset hcheck]
  show pl1 L = _
  unfold pl1 pl2
  rw [plN_none hstep harm hcrash hrot]
  by_cases h1 : L.length = 1
  · simp [h1, h, hflush, hdump, hsnap, hrecover]
  · simp [h1, hget, hlist]
theorem plF_get {L : List ByteArray} (h : ((bAt L 0).toList == [103, 101, 116]) = true) : plF L = if L.length = 2 then ⟨3, [], false, bAt L 1, []⟩ else ln0 := by
  have hmulti : ((bAt L 0).toList == [109, 117, 108, 116, 105]) = false := by rw [beq_iff_eq.1 h]; rfl
  have hcreate : ((bAt L 0).toList == [99, 114, 101, 97, 116, 101]) = false := by rw [beq_iff_eq.1 h]; rfl
  have hseq : ((bAt L 0).toList == [115, 101, 113]) = false := by rw [beq_iff_eq.1 h]; rfl
  have hdelete : ((bAt L 0).toList == [100, 101, 108, 101, 116, 101]) = false := by rw [beq_iff_eq.1 h]; rfl
  have hset : ((bAt L 0).toList == [115, 101, 116]) = false := by rw [beq_iff_eq.1 h]; rfl
  have hcheck : ((bAt L 0).toList == [99, 104, 101, 99, 107]) = false := by rw [beq_iff_eq.1 h]; rfl
  have hflush : ((bAt L 0).toList == [102, 108, 117, 115, 104]) = false := by rw [beq_iff_eq.1 h]; rfl
  have hdump : ((bAt L 0).toList == [100, 117, 109, 112]) = false := by rw [beq_iff_eq.1 h]; rfl
  have hsnap : ((bAt L 0).toList == [115, 110, 97, 112]) = false := by rw [beq_iff_eq.1 h]; rfl
  have hrecover : ((bAt L 0).toList == [114, 101, 99, 111, 118, 101, 114]) = false := by rw [beq_iff_eq.1 h]; rfl
  have hstatus : ((bAt L 0).toList == [115, 116, 97, 116, 117, 115]) = false := by rw [beq_iff_eq.1 h]; rfl
  have hlist : ((bAt L 0).toList == [108, 105, 115, 116]) = false := by rw [beq_iff_eq.1 h]; rfl
  have hstep : ((bAt L 0).toList == [115, 116, 101, 112]) = false := by rw [beq_iff_eq.1 h]; rfl
  have harm : ((bAt L 0).toList == [97, 114, 109]) = false := by rw [beq_iff_eq.1 h]; rfl
  have hcrash : ((bAt L 0).toList == [99, 114, 97, 115, 104]) = false := by rw [beq_iff_eq.1 h]; rfl
  have hrot : ((bAt L 0).toList == [114, 111, 116]) = false := by rw [beq_iff_eq.1 h]; rfl
  unfold plF plO
  rw [if_neg (by rw [hmulti]; decide), opO_none hcreate hseq hdelete hset hcheck]
  show pl1 L = _
  unfold pl1 pl2
  rw [plN_none hstep harm hcrash hrot]
  by_cases h2 : L.length = 2
  · simp [h2, h, hflush, hdump, hsnap, hrecover, hstatus, hlist]
  · simp [h2, h, hflush, hdump, hsnap, hrecover, hstatus, hlist]
theorem plF_list {L : List ByteArray} (h : ((bAt L 0).toList == [108, 105, 115, 116]) = true) : plF L = if L.length = 2 then ⟨4, [], false, bAt L 1, []⟩ else ln0 := by
  have hmulti : ((bAt L 0).toList == [109, 117, 108, 116, 105]) = false := by rw [beq_iff_eq.1 h]; rfl
  have hcreate : ((bAt L 0).toList == [99, 114, 101, 97, 116, 101]) = false := by rw [beq_iff_eq.1 h]; rfl
  have hseq : ((bAt L 0).toList == [115, 101, 113]) = false := by rw [beq_iff_eq.1 h]; rfl
  have hdelete : ((bAt L 0).toList == [100, 101, 108, 101, 116, 101]) = false := by rw [beq_iff_eq.1 h]; rfl
  have hset : ((bAt L 0).toList == [115, 101, 116]) = false := by rw [beq_iff_eq.1 h]; rfl
  have hcheck : ((bAt L 0).toList == [99, 104, 101, 99, 107]) = false := by rw [beq_iff_eq.1 h]; rfl
  have hflush : ((bAt L 0).toList == [102, 108, 117, 115, 104]) = false := by rw [beq_iff_eq.1 h]; rfl
  have hdump : ((bAt L 0).toList == [100, 117, 109, 112]) = false := by rw [beq_iff_eq.1 h]; rfl
  have hsnap : ((bAt L 0).toList == [115, 110, 97, 112]) = false := by rw [beq_iff_eq.1 h]; rfl
  have hrecover : ((bAt L 0).toList == [114, 101, 99, 111, 118, 101, 114]) = false := by rw [beq_iff_eq.1 h]; rfl
  have hstatus : ((bAt L 0).toList == [115, 116, 97, 116, 117, 115]) = false := by rw [beq_iff_eq.1 h]; rfl
  have hget : ((bAt L 0).toList == [103, 101, 116]) = false := by rw [beq_iff_eq.1 h]; rfl
  have hstep : ((bAt L 0).toList == [115, 116, 101, 112]) = false := by rw [beq_iff_eq.1 h]; rfl
  have harm : ((bAt L 0).toList == [97, 114, 109]) = false := by rw [beq_iff_eq.1 h]; rfl
  have hcrash : ((bAt L 0).toList == [99, 114, 97, 115, 104]) = false := by rw [beq_iff_eq.1 h]; rfl
  have hrot : ((bAt L 0).toList == [114, 111, 116]) = false := by rw [beq_iff_eq.1 h]; rfl
  unfold plF plO
  rw [if_neg (by rw [hmulti]; decide), opO_none hcreate hseq hdelete hset hcheck]
  show pl1 L = _
  unfold pl1 pl2
  rw [plN_none hstep harm hcrash hrot]
  by_cases h2 : L.length = 2
  · simp [h2, h, hflush, hdump, hsnap, hrecover, hstatus, hget]
  · simp [h2, h, hflush, hdump, hsnap, hrecover, hstatus, hget]
theorem plF_step {L : List ByteArray} (h : ((bAt L 0).toList == [115, 116, 101, 112]) = true) : plF L = numLn 7 (L.drop 1) (stepOk) := by
  have hmulti : ((bAt L 0).toList == [109, 117, 108, 116, 105]) = false := by rw [beq_iff_eq.1 h]; rfl
  have hcreate : ((bAt L 0).toList == [99, 114, 101, 97, 116, 101]) = false := by rw [beq_iff_eq.1 h]; rfl
  have hseq : ((bAt L 0).toList == [115, 101, 113]) = false := by rw [beq_iff_eq.1 h]; rfl
  have hdelete : ((bAt L 0).toList == [100, 101, 108, 101, 116, 101]) = false := by rw [beq_iff_eq.1 h]; rfl
  have hset : ((bAt L 0).toList == [115, 101, 116]) = false := by rw [beq_iff_eq.1 h]; rfl
  have hcheck : ((bAt L 0).toList == [99, 104, 101, 99, 107]) = false := by rw [beq_iff_eq.1 h]; rfl
  have hflush : ((bAt L 0).toList == [102, 108, 117, 115, 104]) = false := by rw [beq_iff_eq.1 h]; rfl
  have hdump : ((bAt L 0).toList == [100, 117, 109, 112]) = false := by rw [beq_iff_eq.1 h]; rfl
  have hsnap : ((bAt L 0).toList == [115, 110, 97, 112]) = false := by rw [beq_iff_eq.1 h]; rfl
  have hrecover : ((bAt L 0).toList == [114, 101, 99, 111, 118, 101, 114]) = false := by rw [beq_iff_eq.1 h]; rfl
  have hstatus : ((bAt L 0).toList == [115, 116, 97, 116, 117, 115]) = false := by rw [beq_iff_eq.1 h]; rfl
  have hget : ((bAt L 0).toList == [103, 101, 116]) = false := by rw [beq_iff_eq.1 h]; rfl
  have hlist : ((bAt L 0).toList == [108, 105, 115, 116]) = false := by rw [beq_iff_eq.1 h]; rfl
  have harm : ((bAt L 0).toList == [97, 114, 109]) = false := by rw [beq_iff_eq.1 h]; rfl
  have hcrash : ((bAt L 0).toList == [99, 114, 97, 115, 104]) = false := by rw [beq_iff_eq.1 h]; rfl
  have hrot : ((bAt L 0).toList == [114, 111, 116]) = false := by rw [beq_iff_eq.1 h]; rfl
  unfold plF plO
  rw [if_neg (by rw [hmulti]; decide), opO_none hcreate hseq hdelete hset hcheck]
  show pl1 L = _
  unfold pl1 pl2
  simp only [hflush, hdump, hsnap, hrecover, hstatus, hget, hlist, Bool.false_eq_true, and_false, if_false]
  unfold plN numLn
  cases numsO (L.drop 1) with
  | none => rfl
  | some ns =>
    unfold plV stepOk
    by_cases h9 : (L.drop 1).length ≤ 2000
    · simp only [h9, true_and, if_true]
      simp [h, harm, hcrash, hrot]
    · simp only [h9, false_and, if_false]
theorem plF_arm {L : List ByteArray} (h : ((bAt L 0).toList == [97, 114, 109]) = true) : plF L = numLn 8 (L.drop 1) (armOk) := by
  have hmulti : ((bAt L 0).toList == [109, 117, 108, 116, 105]) = false := by rw [beq_iff_eq.1 h]; rfl
  have hcreate : ((bAt L 0).toList == [99, 114, 101, 97, 116, 101]) = false := by rw [beq_iff_eq.1 h]; rfl
  have hseq : ((bAt L 0).toList == [115, 101, 113]) = false := by rw [beq_iff_eq.1 h]; rfl
  have hdelete : ((bAt L 0).toList == [100, 101, 108, 101, 116, 101]) = false := by rw [beq_iff_eq.1 h]; rfl
  have hset : ((bAt L 0).toList == [115, 101, 116]) = false := by rw [beq_iff_eq.1 h]; rfl
  have hcheck : ((bAt L 0).toList == [99, 104, 101, 99, 107]) = false := by rw [beq_iff_eq.1 h]; rfl
  have hflush : ((bAt L 0).toList == [102, 108, 117, 115, 104]) = false := by rw [beq_iff_eq.1 h]; rfl
  have hdump : ((bAt L 0).toList == [100, 117, 109, 112]) = false := by rw [beq_iff_eq.1 h]; rfl
  have hsnap : ((bAt L 0).toList == [115, 110, 97, 112]) = false := by rw [beq_iff_eq.1 h]; rfl
  have hrecover : ((bAt L 0).toList == [114, 101, 99, 111, 118, 101, 114]) = false := by rw [beq_iff_eq.1 h]; rfl
  have hstatus : ((bAt L 0).toList == [115, 116, 97, 116, 117, 115]) = false := by rw [beq_iff_eq.1 h]; rfl
  have hget : ((bAt L 0).toList == [103, 101, 116]) = false := by rw [beq_iff_eq.1 h]; rfl
  have hlist : ((bAt L 0).toList == [108, 105, 115, 116]) = false := by rw [beq_iff_eq.1 h]; rfl
  have hstep : ((bAt L 0).toList == [115, 116, 101, 112]) = false := by rw [beq_iff_eq.1 h]; rfl
  have hcrash : ((bAt L 0).toList == [99, 114, 97, 115, 104]) = false := by rw [beq_iff_eq.1 h]; rfl
  have hrot : ((bAt L 0).toList == [114, 111, 116]) = false := by rw [beq_iff_eq.1 h]; rfl
  unfold plF plO
  rw [if_neg (by rw [hmulti]; decide), opO_none hcreate hseq hdelete hset hcheck]
  show pl1 L = _
  unfold pl1 pl2
  simp only [hflush, hdump, hsnap, hrecover, hstatus, hget, hlist, Bool.false_eq_true, and_false, if_false]
  unfold plN numLn
  cases numsO (L.drop 1) with
  | none => rfl
  | some ns =>
    unfold plV armOk
    by_cases h9 : (L.drop 1).length ≤ 2000
    · simp only [h9, true_and, if_true]
      simp [h, hstep, hcrash, hrot]
    · simp only [h9, false_and, if_false]
theorem plF_crash {L : List ByteArray} (h : ((bAt L 0).toList == [99, 114, 97, 115, 104]) = true) : plF L = numLn 9 (L.drop 1) (fun _ => true) := by
  have hmulti : ((bAt L 0).toList == [109, 117, 108, 116, 105]) = false := by rw [beq_iff_eq.1 h]; rfl
  have hcreate : ((bAt L 0).toList == [99, 114, 101, 97, 116, 101]) = false := by rw [beq_iff_eq.1 h]; rfl
  have hseq : ((bAt L 0).toList == [115, 101, 113]) = false := by rw [beq_iff_eq.1 h]; rfl
  have hdelete : ((bAt L 0).toList == [100, 101, 108, 101, 116, 101]) = false := by rw [beq_iff_eq.1 h]; rfl
  have hset : ((bAt L 0).toList == [115, 101, 116]) = false := by rw [beq_iff_eq.1 h]; rfl
  have hcheck : ((bAt L 0).toList == [99, 104, 101, 99, 107]) = false := by rw [beq_iff_eq.1 h]; rfl
  have hflush : ((bAt L 0).toList == [102, 108, 117, 115, 104]) = false := by rw [beq_iff_eq.1 h]; rfl
  have hdump : ((bAt L 0).toList == [100, 117, 109, 112]) = false := by rw [beq_iff_eq.1 h]; rfl
  have hsnap : ((bAt L 0).toList == [115, 110, 97, 112]) = false := by rw [beq_iff_eq.1 h]; rfl
  have hrecover : ((bAt L 0).toList == [114, 101, 99, 111, 118, 101, 114]) = false := by rw [beq_iff_eq.1 h]; rfl
  have hstatus : ((bAt L 0).toList == [115, 116, 97, 116, 117, 115]) = false := by rw [beq_iff_eq.1 h]; rfl
  have hget : ((bAt L 0).toList == [103, 101, 116]) = false := by rw [beq_iff_eq.1 h]; rfl
  have hlist : ((bAt L 0).toList == [108, 105, 115, 116]) = false := by rw [beq_iff_eq.1 h]; rfl
  have hstep : ((bAt L 0).toList == [115, 116, 101, 112]) = false := by rw [beq_iff_eq.1 h]; rfl
  have harm : ((bAt L 0).toList == [97, 114, 109]) = false := by rw [beq_iff_eq.1 h]; rfl
  have hrot : ((bAt L 0).toList == [114, 111, 116]) = false := by rw [beq_iff_eq.1 h]; rfl
  unfold plF plO
  rw [if_neg (by rw [hmulti]; decide), opO_none hcreate hseq hdelete hset hcheck]
  show pl1 L = _
  unfold pl1 pl2
  simp only [hflush, hdump, hsnap, hrecover, hstatus, hget, hlist, Bool.false_eq_true, and_false, if_false]
  unfold plN numLn
  cases numsO (L.drop 1) with
  | none => rfl
  | some ns =>
    unfold plV
    by_cases h9 : (L.drop 1).length ≤ 2000
    · simp only [h9, true_and, if_true]
      simp [h, hstep, harm, hrot]
    · simp only [h9, false_and, if_false]
theorem plF_rot {L : List ByteArray} (h : ((bAt L 0).toList == [114, 111, 116]) = true) : plF L = numLn 10 (L.drop 1) (rotOk) := by
  have hmulti : ((bAt L 0).toList == [109, 117, 108, 116, 105]) = false := by rw [beq_iff_eq.1 h]; rfl
  have hcreate : ((bAt L 0).toList == [99, 114, 101, 97, 116, 101]) = false := by rw [beq_iff_eq.1 h]; rfl
  have hseq : ((bAt L 0).toList == [115, 101, 113]) = false := by rw [beq_iff_eq.1 h]; rfl
  have hdelete : ((bAt L 0).toList == [100, 101, 108, 101, 116, 101]) = false := by rw [beq_iff_eq.1 h]; rfl
  have hset : ((bAt L 0).toList == [115, 101, 116]) = false := by rw [beq_iff_eq.1 h]; rfl
  have hcheck : ((bAt L 0).toList == [99, 104, 101, 99, 107]) = false := by rw [beq_iff_eq.1 h]; rfl
  have hflush : ((bAt L 0).toList == [102, 108, 117, 115, 104]) = false := by rw [beq_iff_eq.1 h]; rfl
  have hdump : ((bAt L 0).toList == [100, 117, 109, 112]) = false := by rw [beq_iff_eq.1 h]; rfl
  have hsnap : ((bAt L 0).toList == [115, 110, 97, 112]) = false := by rw [beq_iff_eq.1 h]; rfl
  have hrecover : ((bAt L 0).toList == [114, 101, 99, 111, 118, 101, 114]) = false := by rw [beq_iff_eq.1 h]; rfl
  have hstatus : ((bAt L 0).toList == [115, 116, 97, 116, 117, 115]) = false := by rw [beq_iff_eq.1 h]; rfl
  have hget : ((bAt L 0).toList == [103, 101, 116]) = false := by rw [beq_iff_eq.1 h]; rfl
  have hlist : ((bAt L 0).toList == [108, 105, 115, 116]) = false := by rw [beq_iff_eq.1 h]; rfl
  have hstep : ((bAt L 0).toList == [115, 116, 101, 112]) = false := by rw [beq_iff_eq.1 h]; rfl
  have harm : ((bAt L 0).toList == [97, 114, 109]) = false := by rw [beq_iff_eq.1 h]; rfl
  have hcrash : ((bAt L 0).toList == [99, 114, 97, 115, 104]) = false := by rw [beq_iff_eq.1 h]; rfl
  unfold plF plO
  rw [if_neg (by rw [hmulti]; decide), opO_none hcreate hseq hdelete hset hcheck]
  show pl1 L = _
  unfold pl1 pl2
  simp only [hflush, hdump, hsnap, hrecover, hstatus, hget, hlist, Bool.false_eq_true, and_false, if_false]
  unfold plN numLn
  cases numsO (L.drop 1) with
  | none => rfl
  | some ns =>
    unfold plV rotOk
    by_cases h9 : (L.drop 1).length ≤ 2000
    · simp only [h9, true_and, if_true]
      simp [h, hstep, harm, hcrash]
    · simp only [h9, false_and, if_false]
theorem plF_create {L : List ByteArray} (h : ((bAt L 0).toList == [99, 114, 101, 97, 116, 101]) = true) : plF L = match opO L with | some o => ⟨1, [o], false, ⟨#[]⟩, []⟩ | none => ln0 := by
  have hmulti : ((bAt L 0).toList == [109, 117, 108, 116, 105]) = false := by rw [beq_iff_eq.1 h]; rfl
  have hflush : ((bAt L 0).toList == [102, 108, 117, 115, 104]) = false := by rw [beq_iff_eq.1 h]; rfl
  have hdump : ((bAt L 0).toList == [100, 117, 109, 112]) = false := by rw [beq_iff_eq.1 h]; rfl
  have hsnap : ((bAt L 0).toList == [115, 110, 97, 112]) = false := by rw [beq_iff_eq.1 h]; rfl
  have hrecover : ((bAt L 0).toList == [114, 101, 99, 111, 118, 101, 114]) = false := by rw [beq_iff_eq.1 h]; rfl
  have hstatus : ((bAt L 0).toList == [115, 116, 97, 116, 117, 115]) = false := by rw [beq_iff_eq.1 h]; rfl
  have hget : ((bAt L 0).toList == [103, 101, 116]) = false := by rw [beq_iff_eq.1 h]; rfl
  have hlist : ((bAt L 0).toList == [108, 105, 115, 116]) = false := by rw [beq_iff_eq.1 h]; rfl
  have hstep : ((bAt L 0).toList == [115, 116, 101, 112]) = false := by rw [beq_iff_eq.1 h]; rfl
  have harm : ((bAt L 0).toList == [97, 114, 109]) = false := by rw [beq_iff_eq.1 h]; rfl
  have hcrash : ((bAt L 0).toList == [99, 114, 97, 115, 104]) = false := by rw [beq_iff_eq.1 h]; rfl
  have hrot : ((bAt L 0).toList == [114, 111, 116]) = false := by rw [beq_iff_eq.1 h]; rfl
  unfold plF plO
  rw [if_neg (by rw [hmulti]; decide)]
  cases opO L with
  | some o => rfl
  | none =>
    show pl1 L = ln0
    unfold pl1 pl2
    rw [plN_none hstep harm hcrash hrot]
    simp [hflush, hdump, hsnap, hrecover, hstatus, hget, hlist]
theorem plF_seq {L : List ByteArray} (h : ((bAt L 0).toList == [115, 101, 113]) = true) : plF L = match opO L with | some o => ⟨1, [o], false, ⟨#[]⟩, []⟩ | none => ln0 := by
  have hmulti : ((bAt L 0).toList == [109, 117, 108, 116, 105]) = false := by rw [beq_iff_eq.1 h]; rfl
  have hflush : ((bAt L 0).toList == [102, 108, 117, 115, 104]) = false := by rw [beq_iff_eq.1 h]; rfl
  have hdump : ((bAt L 0).toList == [100, 117, 109, 112]) = false := by rw [beq_iff_eq.1 h]; rfl
  have hsnap : ((bAt L 0).toList == [115, 110, 97, 112]) = false := by rw [beq_iff_eq.1 h]; rfl
  have hrecover : ((bAt L 0).toList == [114, 101, 99, 111, 118, 101, 114]) = false := by rw [beq_iff_eq.1 h]; rfl
  have hstatus : ((bAt L 0).toList == [115, 116, 97, 116, 117, 115]) = false := by rw [beq_iff_eq.1 h]; rfl
  have hget : ((bAt L 0).toList == [103, 101, 116]) = false := by rw [beq_iff_eq.1 h]; rfl
  have hlist : ((bAt L 0).toList == [108, 105, 115, 116]) = false := by rw [beq_iff_eq.1 h]; rfl
  have hstep : ((bAt L 0).toList == [115, 116, 101, 112]) = false := by rw [beq_iff_eq.1 h]; rfl
  have harm : ((bAt L 0).toList == [97, 114, 109]) = false := by rw [beq_iff_eq.1 h]; rfl
  have hcrash : ((bAt L 0).toList == [99, 114, 97, 115, 104]) = false := by rw [beq_iff_eq.1 h]; rfl
  have hrot : ((bAt L 0).toList == [114, 111, 116]) = false := by rw [beq_iff_eq.1 h]; rfl
  unfold plF plO
  rw [if_neg (by rw [hmulti]; decide)]
  cases opO L with
  | some o => rfl
  | none =>
    show pl1 L = ln0
    unfold pl1 pl2
    rw [plN_none hstep harm hcrash hrot]
    simp [hflush, hdump, hsnap, hrecover, hstatus, hget, hlist]
theorem plF_delete {L : List ByteArray} (h : ((bAt L 0).toList == [100, 101, 108, 101, 116, 101]) = true) : plF L = match opO L with | some o => ⟨1, [o], false, ⟨#[]⟩, []⟩ | none => ln0 := by
  have hmulti : ((bAt L 0).toList == [109, 117, 108, 116, 105]) = false := by rw [beq_iff_eq.1 h]; rfl
  have hflush : ((bAt L 0).toList == [102, 108, 117, 115, 104]) = false := by rw [beq_iff_eq.1 h]; rfl
  have hdump : ((bAt L 0).toList == [100, 117, 109, 112]) = false := by rw [beq_iff_eq.1 h]; rfl
  have hsnap : ((bAt L 0).toList == [115, 110, 97, 112]) = false := by rw [beq_iff_eq.1 h]; rfl
  have hrecover : ((bAt L 0).toList == [114, 101, 99, 111, 118, 101, 114]) = false := by rw [beq_iff_eq.1 h]; rfl
  have hstatus : ((bAt L 0).toList == [115, 116, 97, 116, 117, 115]) = false := by rw [beq_iff_eq.1 h]; rfl
  have hget : ((bAt L 0).toList == [103, 101, 116]) = false := by rw [beq_iff_eq.1 h]; rfl
  have hlist : ((bAt L 0).toList == [108, 105, 115, 116]) = false := by rw [beq_iff_eq.1 h]; rfl
  have hstep : ((bAt L 0).toList == [115, 116, 101, 112]) = false := by rw [beq_iff_eq.1 h]; rfl
  have harm : ((bAt L 0).toList == [97, 114, 109]) = false := by rw [beq_iff_eq.1 h]; rfl
  have hcrash : ((bAt L 0).toList == [99, 114, 97, 115, 104]) = false := by rw [beq_iff_eq.1 h]; rfl
  have hrot : ((bAt L 0).toList == [114, 111, 116]) = false := by rw [beq_iff_eq.1 h]; rfl
  unfold plF plO
  rw [if_neg (by rw [hmulti]; decide)]
  cases opO L with
  | some o => rfl
  | none =>
    show pl1 L = ln0
    unfold pl1 pl2
    rw [plN_none hstep harm hcrash hrot]
    simp [hflush, hdump, hsnap, hrecover, hstatus, hget, hlist]
theorem plF_set {L : List ByteArray} (h : ((bAt L 0).toList == [115, 101, 116]) = true) : plF L = match opO L with | some o => ⟨1, [o], false, ⟨#[]⟩, []⟩ | none => ln0 := by
  have hmulti : ((bAt L 0).toList == [109, 117, 108, 116, 105]) = false := by rw [beq_iff_eq.1 h]; rfl
  have hflush : ((bAt L 0).toList == [102, 108, 117, 115, 104]) = false := by rw [beq_iff_eq.1 h]; rfl
  have hdump : ((bAt L 0).toList == [100, 117, 109, 112]) = false := by rw [beq_iff_eq.1 h]; rfl
  have hsnap : ((bAt L 0).toList == [115, 110, 97, 112]) = false := by rw [beq_iff_eq.1 h]; rfl
  have hrecover : ((bAt L 0).toList == [114, 101, 99, 111, 118, 101, 114]) = false := by rw [beq_iff_eq.1 h]; rfl
  have hstatus : ((bAt L 0).toList == [115, 116, 97, 116, 117, 115]) = false := by rw [beq_iff_eq.1 h]; rfl
  have hget : ((bAt L 0).toList == [103, 101, 116]) = false := by rw [beq_iff_eq.1 h]; rfl
  have hlist : ((bAt L 0).toList == [108, 105, 115, 116]) = false := by rw [beq_iff_eq.1 h]; rfl
  have hstep : ((bAt L 0).toList == [115, 116, 101, 112]) = false := by rw [beq_iff_eq.1 h]; rfl
  have harm : ((bAt L 0).toList == [97, 114, 109]) = false := by rw [beq_iff_eq.1 h]; rfl
  have hcrash : ((bAt L 0).toList == [99, 114, 97, 115, 104]) = false := by rw [beq_iff_eq.1 h]; rfl
  have hrot : ((bAt L 0).toList == [114, 111, 116]) = false := by rw [beq_iff_eq.1 h]; rfl
  unfold plF plO
  rw [if_neg (by rw [hmulti]; decide)]
  cases opO L with
  | some o => rfl
  | none =>
    show pl1 L = ln0
    unfold pl1 pl2
    rw [plN_none hstep harm hcrash hrot]
    simp [hflush, hdump, hsnap, hrecover, hstatus, hget, hlist]
theorem plF_check {L : List ByteArray} (h : ((bAt L 0).toList == [99, 104, 101, 99, 107]) = true) : plF L = match opO L with | some o => ⟨1, [o], false, ⟨#[]⟩, []⟩ | none => ln0 := by
  have hmulti : ((bAt L 0).toList == [109, 117, 108, 116, 105]) = false := by rw [beq_iff_eq.1 h]; rfl
  have hflush : ((bAt L 0).toList == [102, 108, 117, 115, 104]) = false := by rw [beq_iff_eq.1 h]; rfl
  have hdump : ((bAt L 0).toList == [100, 117, 109, 112]) = false := by rw [beq_iff_eq.1 h]; rfl
  have hsnap : ((bAt L 0).toList == [115, 110, 97, 112]) = false := by rw [beq_iff_eq.1 h]; rfl
  have hrecover : ((bAt L 0).toList == [114, 101, 99, 111, 118, 101, 114]) = false := by rw [beq_iff_eq.1 h]; rfl
  have hstatus : ((bAt L 0).toList == [115, 116, 97, 116, 117, 115]) = false := by rw [beq_iff_eq.1 h]; rfl
  have hget : ((bAt L 0).toList == [103, 101, 116]) = false := by rw [beq_iff_eq.1 h]; rfl
  have hlist : ((bAt L 0).toList == [108, 105, 115, 116]) = false := by rw [beq_iff_eq.1 h]; rfl
  have hstep : ((bAt L 0).toList == [115, 116, 101, 112]) = false := by rw [beq_iff_eq.1 h]; rfl
  have harm : ((bAt L 0).toList == [97, 114, 109]) = false := by rw [beq_iff_eq.1 h]; rfl
  have hcrash : ((bAt L 0).toList == [99, 114, 97, 115, 104]) = false := by rw [beq_iff_eq.1 h]; rfl
  have hrot : ((bAt L 0).toList == [114, 111, 116]) = false := by rw [beq_iff_eq.1 h]; rfl
  unfold plF plO
  rw [if_neg (by rw [hmulti]; decide)]
  cases opO L with
  | some o => rfl
  | none =>
    show pl1 L = ln0
    unfold pl1 pl2
    rw [plN_none hstep harm hcrash hrot]
    simp [hflush, hdump, hsnap, hrecover, hstatus, hget, hlist]
theorem plF_other {L : List ByteArray} (hmulti : ((bAt L 0).toList == [109, 117, 108, 116, 105]) = false) (hcreate : ((bAt L 0).toList == [99, 114, 101, 97, 116, 101]) = false) (hseq : ((bAt L 0).toList == [115, 101, 113]) = false) (hdelete : ((bAt L 0).toList == [100, 101, 108, 101, 116, 101]) = false) (hset : ((bAt L 0).toList == [115, 101, 116]) = false) (hcheck : ((bAt L 0).toList == [99, 104, 101, 99, 107]) = false) (hflush : ((bAt L 0).toList == [102, 108, 117, 115, 104]) = false) (hdump : ((bAt L 0).toList == [100, 117, 109, 112]) = false) (hsnap : ((bAt L 0).toList == [115, 110, 97, 112]) = false) (hrecover : ((bAt L 0).toList == [114, 101, 99, 111, 118, 101, 114]) = false) (hstatus : ((bAt L 0).toList == [115, 116, 97, 116, 117, 115]) = false) (hget : ((bAt L 0).toList == [103, 101, 116]) = false) (hlist : ((bAt L 0).toList == [108, 105, 115, 116]) = false) (hstep : ((bAt L 0).toList == [115, 116, 101, 112]) = false) (harm : ((bAt L 0).toList == [97, 114, 109]) = false) (hcrash : ((bAt L 0).toList == [99, 114, 97, 115, 104]) = false) (hrot : ((bAt L 0).toList == [114, 111, 116]) = false) : plF L = ln0 := by
  unfold plF plO
  rw [if_neg (by rw [hmulti]; decide), opO_none hcreate hseq hdelete hset hcheck]
  show pl1 L = _
  unfold pl1 pl2
  rw [plN_none hstep harm hcrash hrot]
  simp [hflush, hdump, hsnap, hrecover, hstatus, hget, hlist]


set_option linter.unusedSimpArgs false in
set_option maxRecDepth 100000 in
set_option maxHeartbeats 8000000 in
theorem single_of (w : World) (a : Option Addr) (c : Nat) (L : List ByteArray) (hop : ∀ W, Below w.heap.size w W → Calls Tryz.prog 50 #[.slice a L.length c] W fun e w' => OpP W L e w') (l : Ln) (hl : l = match opO L with | some o => ⟨1, [o], false, ⟨#[]⟩, []⟩ | none => ln0) :
    Calls Tryz.prog 34 #[.slice a L.length c] w fun e w' => LnP w l e w' := by
  have hA : Below w.heap.size w (w.alloc (.cells #[.int .i64 0, .slice none 0 0, .bool false, .string ⟨#[]⟩, .slice none 0 0] 28)) := (Below.refl _ _).alloc (Nat.le_refl _) _
  have BA := hd9 hA
  have X := hd9 (St.new w #[.int .i64 0, .slice none 0 0, .bool false, .string ⟨#[]⟩, .slice none 0 0] 28)
  have HC := hd9 (hop _ hA)
  have HLN := hd9 hl
  clear hop hl hA
  go_enter Tryz.func34, Tryz.ntmps34
  go_wp2_with fail
  refine HC.out.mono ?_
  rintro e w3 ⟨oo, ok, rfl, b3, hok, hoo⟩
  have HQ := hd9 (And.intro hok hoo)
  have s3 : w.heap.size + 1 ≤ w3.heap.size := Nat.le_trans (by simp) b3.size
  have bA : Below w3.heap.size w3 (w3.alloc (.cells #[.int .i64 oo.kind, .string oo.path, .string oo.data, .int .i64 oo.ver, .bool oo.seq] 41)) := (Below.refl _ _).alloc (Nat.le_refl _) _
  have b34 := b3.trans (bA.mono b3.size)
  replace X := hd9 (X.out.below b34)
  replace BA := hd9 (BA.out.trans (b34.mono BA.out.size))
  have O3 := hd9 (ownO_one (w3.alloc (.cells #[.int .i64 oo.kind, .string oo.path, .string oo.data, .int .i64 oo.ver, .bool oo.seq] 41)) (w.heap.size + 1) (by simp; omega) oo)
  rw [show (w3.alloc (.cells #[.int .i64 oo.kind, .string oo.path, .string oo.data, .int .i64 oo.ver, .bool oo.seq] 41)).heap.size = w3.heap.size + 1 by simp] at O3
  clear HC bA b3 b34 hok hoo
  unfold opV
  cases ok with
  | true =>
    have HNO : Hid (l = ⟨1, [oo], false, ⟨#[]⟩, []⟩) := by
      show _ = _
      rw [HLN.out]
      obtain ⟨x, hx⟩ := Option.isSome_iff_exists.1 HQ.out.1.symm
      rw [hx, HQ.out.2 x hx]
    replace X := hd9 (X.out.below ((Below.refl _ _).alloc (Nat.le_refl _) (.cells #[.int .i64 oo.kind, .string oo.path, .string oo.data, .int .i64 oo.ver, .bool oo.seq] 41)))
    replace BA := hd9 (BA.out.alloc (by simp; omega) (.cells #[.int .i64 oo.kind, .string oo.path, .string oo.data, .int .i64 oo.ver, .bool oo.seq] 41))
    clear HLN HQ
    have x0 := X.out.fz
    have y0 := X.out.cl 0 _ rfl
    have y1 := X.out.cl 1 _ rfl
    have y2 := X.out.cl 2 _ rfl
    have y3 := X.out.cl 3 _ rfl
    have y4 := X.out.cl 4 _ rfl
    go_wp2_with fail
    obtain ⟨b9, x9, o9, n9⟩ := ln_box BA.out X.out 1 false ⟨#[]⟩ (vo := .slice (some ⟨w3.heap.size + 1, 0, none⟩) 1 1) (vn := .slice none 0 0) (show OwnO _ _ _ _ [oo] from O3.out) (show Own _ _ _ _ _ [] from World.ownsRow_nil _ _ _ _)
    have d0 := x9.cl 0 _ rfl
    have d1 := x9.cl 1 _ rfl
    have d2 := x9.cl 2 _ rfl
    have d3 := x9.cl 3 _ rfl
    have d4 := x9.cl 4 _ rfl
    exact bodyPost_ret (v := .agg #[.int .i64 1, .slice (some ⟨w3.heap.size + 1, 0, none⟩) 1 1, .bool false, .string ⟨#[]⟩, .slice none 0 0]) (by simp [results, Tryz.results34, go_sem, d0, d1, d2, d3, d4]) rfl (by rw [HNO.out]; exact ⟨_, _, rfl, o9, n9, b9⟩)
  | false =>
    have HNO : Hid (l = ln0) := by
      show _ = _
      rw [HLN.out]
      cases hx : opO L with
      | none => rfl
      | some x => have := HQ.out.1; rw [hx] at this; cases this
    clear HLN HQ O3
    have x0 := X.out.fz
    have y0 := X.out.cl 0 _ rfl
    have y1 := X.out.cl 1 _ rfl
    have y2 := X.out.cl 2 _ rfl
    have y3 := X.out.cl 3 _ rfl
    have y4 := X.out.cl 4 _ rfl
    go_wp2_with fail
    obtain ⟨b9, x9, o9, n9⟩ := ln_box BA.out X.out 0 false ⟨#[]⟩ (vo := .slice none 0 0) (vn := .slice none 0 0) (show OwnO _ _ _ _ [] from World.ownsRow_nil _ _ _ _) (show Own _ _ _ _ _ [] from World.ownsRow_nil _ _ _ _)
    have d0 := x9.cl 0 _ rfl
    have d1 := x9.cl 1 _ rfl
    have d2 := x9.cl 2 _ rfl
    have d3 := x9.cl 3 _ rfl
    have d4 := x9.cl 4 _ rfl
    exact bodyPost_ret (v := .agg #[.int .i64 0, .slice none 0 0, .bool false, .string ⟨#[]⟩, .slice none 0 0]) (by simp [results, Tryz.results34, go_sem, d0, d1, d2, d3, d4]) rfl (by rw [HNO.out]; exact ⟨_, _, rfl, o9, n9, b9⟩)

end Go.Proofs.YtmjliomhhgahkaaGreatDoor


