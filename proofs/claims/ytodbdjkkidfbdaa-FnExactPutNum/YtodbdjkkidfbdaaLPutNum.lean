import Derived.Test.YtodbdjkkidfbdaaRows
import Derived.Test.YtodbdjkkidfbdaaW3
import Derived.WalkKit
import Derived.ProofKit
import Derived.OpenShut
import Derived.ShutString
import Derived.ChangeOld
namespace Go.Proofs.Ytodbdjkkidfbdaa
open Go.RowKit

def putI (n : Int) : List Int := if n < 0 then [] else putN n.toNat
theorem putI_len (n : Int) (h : n ≤ 9223372036854775807) : (putI n).length ≤ 9 := by
  unfold putI
  split
  · simp
  · rw [putN, putL_len]; exact cnt_le _ (by omega)

theorem specPutNum_any (n : Int) (w : World) (h : n ≤ 9223372036854775807) :
    Calls Try.prog 18 #[.int .i64 n] w fun e w' => ∃ a cap, e = .returned (.slice a (putI n).length cap) ∧ Own w.heap.size w' a (putI n).length cap (putI n) ∧ Below w.heap.size w w' := by
  by_cases hn : n < 0
  · refine (specPutNum_neg n w hn).mono ?_
    rintro e w' ⟨a, rfl, ho, hb⟩
    simp only [putI, if_pos hn]
    exact ⟨a, 0, rfl, ho, hb⟩
  · obtain ⟨m, rfl⟩ := Int.eq_ofNat_of_zero_le (show 0 ≤ n by omega)
    simp only [putI, if_neg hn, Int.toNat_natCast]
    exact specPutNum_pos m w (by omega)

theorem implPutNum_any (n : Int) (w : World) (h : n ≤ 9223372036854775807) :
    Calls Try.prog 19 #[.int .i64 n] w fun e w' => ∃ a cap, e = .returned (.slice a (putI n).length cap) ∧ Own w.heap.size w' a (putI n).length cap (putI n) ∧ Below w.heap.size w w' := by
  by_cases hn : n < 0
  · refine (implPutNum_neg n w hn).mono ?_
    rintro e w' ⟨a, rfl, ho, hb⟩
    simp only [putI, if_pos hn]
    exact ⟨a, 0, rfl, ho, hb⟩
  · obtain ⟨m, rfl⟩ := Int.eq_ofNat_of_zero_le (show 0 ≤ n by omega)
    simp only [putI, if_neg hn, Int.toNat_natCast]
    exact implPutNum_pos m w (by omega)

/-- What lies below a row of our own reads on while that row is written. -/
theorem Row.grown {B : Nat} {w w' : World} {a a' : Option Addr} {n n' cap' : Nat} {bs bs' : List Int} (h : Row w a n bs) (hlt : ∀ b off, a = some ⟨b, off, none⟩ → 0 < n → b < B) (ho : Own B w a' n' cap' bs') (hg : w.grownBy w' (Value.slice a' n' cap').ownBlock) : Row w' a n bs := by
  refine ⟨h.len, fun k hk => ?_, h.byte⟩
  obtain ⟨b, off, ha, hb, hc⟩ := h.get k hk
  refine ⟨b, off, ha, Nat.lt_of_lt_of_le hb hg.size, hg.cell hc ?_⟩
  intro e
  have h1 := hlt b off ha (by omega)
  have h2 := (ho.row.lt b e.symm).1
  omega

theorem Row.under {B : Nat} {w : World} {a : Option Addr} {n : Nat} {bs : List Int} (h : Row w a n bs) (hB : w.heap.size ≤ B) : ∀ b off, a = some ⟨b, off, none⟩ → 0 < n → b < B := by
  intro b off ha hn
  obtain ⟨b', off', ha', hb, _⟩ := h.get 0 hn
  rw [ha'] at ha
  simp at ha
  omega

set_option maxHeartbeats 1000000 in
theorem lawPutNum_walk (a0 : Int) (hhi : a0 ≤ 9223372036854775807) (w : World) :
    Calls Try.prog 5 #[.int .i64 a0] w fun e w' => e = .returned (.bool true) ∧ Below w.heap.size w w' := by
  have hl := putI_len a0 hhi
  obtain ⟨bs, hbs⟩ : ∃ bs, bs = putI a0 := ⟨_, rfl⟩
  obtain ⟨n, hn⟩ : ∃ n, n = (putI a0).length := ⟨_, rfl⟩
  rw [← hn] at hl
  have s18 := fun w => specPutNum_any a0 w hhi
  have s19 := fun w => implPutNum_any a0 w hhi
  rw [← hn, ← hbs] at s18 s19
  have S18 : Hid (∀ w, _) := s18
  have S19 : Hid (∀ w, _) := s19
  clear s18 s19 hbs hn
  have hm : n ≤ maxLen := by unfold maxLen; omega
  go_enter Try.func5, Try.ntmps5
  go_wp2_with fail
  refine (S18.out _).mono ?_
  rintro e w1 ⟨a, cap, rfl, ho1, hb1⟩
  go_wp2_with fail
  refine (S19.out _).mono ?_
  rintro e w2 ⟨a2, cap2, rfl, ho2, hb2⟩
  go_wp2_with fail
  refine (eqByteS_any a2 a n n cap2 cap bs bs _ ho2.toRow (ho1.kept hb2).toRow hm hm).mono ?_
  rintro e w3 ⟨rfl, hb3⟩
  rw [decide_eq_true (rfl : bs = bs)]
  go_wp2_with fail
  have ho2' := ho2.kept hb3
  refine (markByteS_int w1.heap.size a2 n cap2 1 bs _ ho2' (by omega) (by decide) (by decide)).mono ?_
  rintro e w4 ⟨rfl, ho4, hg4⟩
  have hr1 : Row w4 a n bs := ((ho1.kept hb2).kept hb3).toRow.grown (ho1.toRow.under (Nat.le_refl _)) ho2' hg4
  have hb14 : Below w1.heap.size w1 w4 := ((hb2.trans (hb3.mono hb2.size)).grown hg4 (by have := hb2.size; have := hb3.size; omega) (fun k hk => (ho2'.row.lt k hk).1))
  go_wp2_with fail
  refine (heldByteS_int a2 n cap2 1 _ ho4.toRow (by omega) (by decide) (by decide)).mono ?_
  rintro e w5 ⟨rfl, hw5⟩
  subst hw5
  have t1 : ((1 : Int) + (n : Int) != 1 + (n : Int)) = false := by simp
  go_wp2_with fail
  refine (S19.out _).mono ?_
  rintro e w6 ⟨a6, cap6, rfl, ho6, hb6⟩
  go_wp2_with fail
  refine (eqByteS_any a6 a n n cap6 cap bs bs _ ho6.toRow (hr1.kept hb6) hm hm).mono ?_
  rintro e w7 ⟨rfl, hb7⟩
  rw [decide_eq_true (rfl : bs = bs)]
  go_wp2_with fail
  refine (heldByteS_int a2 n cap2 1 _ ((ho4.toRow.kept hb6).kept hb7) (by omega) (by decide) (by decide)).mono ?_
  rintro e w8 ⟨rfl, hw8⟩
  subst hw8
  go_wp2_with fail
  go_ret
  refine ⟨rfl, ?_⟩
  have q1 := hb1.size
  have q2 := hb14.size
  have q3 := hb6.size
  exact hb1.trans ((hb14.mono q1).trans ((hb6.mono (by omega)).trans (hb7.mono (by omega))))

end Go.Proofs.Ytodbdjkkidfbdaa
