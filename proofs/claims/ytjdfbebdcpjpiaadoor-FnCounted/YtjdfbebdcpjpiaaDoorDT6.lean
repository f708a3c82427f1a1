import Derived.Test.YtjdfbebdcpjpiaaDoorDT5
namespace Go.Proofs.YtjdfbebdcpjpiaaDoor
open Go.RowKit

set_option maxRecDepth 10000 in
set_option maxHeartbeats 4000000 in
theorem implTimeText_any (t : Int) (w : World) (hT : TabW w) (hP : PowW w) : Calls Tryd.prog 15 #[.int .i64 t] w (TTPost t w) := by
  have HTB : Hid (TabW w) := hT
  have HPW : Hid (PowW w) := hP
  clear hT hP
  by_cases ht : 0 ≤ t ∧ t ≤ 253402300799
  · have HT : Hid (0 ≤ t ∧ t ≤ 253402300799) := ht
    obtain ⟨ht0, ht1⟩ := ht
    go_enter Tryd.func15, Tryd.ntmps15
    go_wp2_with fail
    refine (inBounds_t t 0 253402300799 _ HT.out).mono ?_
    rintro e w1 ⟨rfl, hw1⟩
    replace hw1 := hw1.symm
    subst hw1
    have hd0 : 0 ≤ t / 86400 := by omega
    have hd1 : t / 86400 ≤ 2932896 := by omega
    go_wp2_with fail
    refine (dateOf_any (t / 86400) _ HTB.out hd0 hd1).mono ?_
    rintro e w2 ⟨y, m, z, rfl, HD, hw2⟩
    subst hw2
    obtain ⟨q1, q2, q3, q4, q5, q6⟩ := dateR_bd HD.out hd1
    go_wp2_with fail
    refine (digits_any y 4 _ HPW.out (by omega) (by omega) (by decide) (by omega)).mono ?_
    rintro e v1 ⟨x1, rfl, z1, H1, b1⟩
    have B1 : Below w.heap.size w v1 := b1
    clear b1
    go_wp2_with fail
    refine (digits_any m 2 _ (HPW.out.kept B1) (by omega) (by omega) (by decide) (by omega)).mono ?_
    rintro e v2 ⟨x2, rfl, z2, H2, b2⟩
    have B2 : Below w.heap.size w v2 := B1.trans (b2.mono B1.size)
    clear b2 B1
    go_wp2_with fail
    refine (digits_any z 2 _ (HPW.out.kept B2) (by omega) (by omega) (by decide) (by omega)).mono ?_
    rintro e v3 ⟨x3, rfl, z3, H3, b3⟩
    have B3 : Below w.heap.size w v3 := B2.trans (b3.mono B2.size)
    clear b3 B2
    have k0 : 0 ≤ t % 86400 / 3600 := by omega
    have k2 : t % 86400 / 3600 < 24 := by omega
    obtain ⟨hh, hhh⟩ : ∃ hh : Int, hh = t % 86400 / 3600 := ⟨_, rfl⟩
    go_wp2_with fail
    rw [← hhh] at k0 k2 ⊢
    have Hhh : Hid (hh = t % 86400 / 3600) := hhh
    clear hhh
    refine (digits_any hh 2 _ (HPW.out.kept B3) (by omega) (by omega) (by decide) (by omega)).mono ?_
    rintro e v4 ⟨x4, rfl, z4, H4, b4⟩
    have B4 : Below w.heap.size w v4 := B3.trans (b4.mono B3.size)
    clear b4 B3 k0 k2
    have k0 : 0 ≤ t % 86400 / 60 % 60 := by omega
    have k2 : t % 86400 / 60 % 60 < 60 := by omega
    obtain ⟨mm, hmm⟩ : ∃ mm : Int, mm = t % 86400 / 60 % 60 := ⟨_, rfl⟩
    go_wp2_with fail
    rw [← hmm] at k0 k2 ⊢
    have Hmm : Hid (mm = t % 86400 / 60 % 60) := hmm
    clear hmm
    refine (digits_any mm 2 _ (HPW.out.kept B4) (by omega) (by omega) (by decide) (by omega)).mono ?_
    rintro e v5 ⟨x5, rfl, z5, H5, b5⟩
    have B5 : Below w.heap.size w v5 := B4.trans (b5.mono B4.size)
    clear b5 B4 k0 k2
    have k0 : 0 ≤ t % 60 := by omega
    have k2 : t % 60 < 60 := by omega
    obtain ⟨ss, hss⟩ : ∃ ss : Int, ss = t % 60 := ⟨_, rfl⟩
    go_wp2_with fail
    rw [← hss] at k0 k2 ⊢
    have Hss : Hid (ss = t % 60) := hss
    clear hss
    refine (digits_any ss 2 _ (HPW.out.kept B5) (by omega) (by omega) (by decide) (by omega)).mono ?_
    rintro e v6 ⟨x6, rfl, z6, H6, b6⟩
    have B6 : Below w.heap.size w v6 := B5.trans (b6.mono B5.size)
    clear b6 B5 k0 k2
    go_wp2
    go_ret2
    refine ⟨_, true, rfl, .inl ⟨rfl, HT.out, y, m, z, HD.out, ?_⟩, B6⟩
    unfold timeTx
    have e60 : t % 86400 % 60 = ss := by rw [Hss.out]; omega
    rw [e60, ← Hhh.out, ← Hmm.out, ← H1.out, ← H2.out, ← H3.out, ← H4.out, ← H5.out, ← H6.out]
  · have HT : Hid (¬ (0 ≤ t ∧ t ≤ 253402300799)) := ht
    clear ht
    go_enter Tryd.func15, Tryd.ntmps15
    go_wp2_with fail
    refine (inBounds_f t 0 253402300799 _ HT.out).mono ?_
    rintro e w1 ⟨rfl, hw1⟩
    subst hw1
    go_wp2
    go_ret2
    exact ⟨ByteArray.empty, false, rfl, .inr ⟨rfl, HT.out, rfl⟩, Below.refl _ _⟩

end Go.Proofs.YtjdfbebdcpjpiaaDoor
