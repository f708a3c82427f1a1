import Derived.Test.YtjdfbebdcpjpiaaDoorDT3
import Derived.Test.YtjdfbebdcpjpiaaDoorShelf
import Derived.Lib.AppendIntMem
namespace Go.Proofs.YtjdfbebdcpjpiaaDoor
open Go.RowKit

def PowW (w : World) : Prop := Lib.TabIs Tryd.prog w "internal/strconv.uint64pow10" .u64 Lib.pow10Tab
theorem PowW.kept {w w' : World} (h : PowW w) (hb : Below w.heap.size w w') : PowW w' := Lib.tabBelow_of_tabIs h w' hb
theorem repeat_one (c : Nat) : Lib.repeatL [48] c = List.replicate c 48 := by
  induction c with
  | zero => rfl
  | succ c ih => rw [Lib.repeatL, ih]; rfl

set_option maxRecDepth 10000 in
set_option maxHeartbeats 2000000 in
theorem digits_any (n : Int) (k : Nat) (w : World) (hP : PowW w) (h0 : 0 ≤ n) (h1 : n.toNat < 10 ^ k) (hk : 1 ≤ k ∧ k ≤ 4) (hn : n < 10000) :
    Calls Tryd.prog 35 #[.int .i64 n, .int .i64 k] w fun e w' => ∃ x, e = .returned (.string x) ∧ x.size = k ∧ Hid (x = pad n k) ∧ Below w.heap.size w w' := by
  have HW : Hid (PowW w) := hP
  have hl := (dec_len (n := n.toNat) (k := k) hk.1 h1)
  have HPS : Hid ((pad n k).size = k) := pad_size hl.2
  clear hP h1
  go_enter Tryd.func35, Tryd.ntmps35
  go_wp2_with fail
  refine (Tryd.strconv_FormatInt_10 n (by omega) (by omega) _ HW.out).mono ?_
  rintro e w1 ⟨rfl, kk, os, rfl⟩
  have hb1 : Below w.heap.size w (Go.Sort.grow (w.drewN kk) os) := Lib.below_grow _ w (Nat.le_refl _) kk os
  obtain ⟨w1, hw1⟩ : ∃ w1, w1 = Go.Sort.grow (w.drewN kk) os := ⟨_, rfl⟩
  rw [← hw1] at hb1 ⊢
  clear hw1
  have hit : Lib.itoa n = Lib.decDigits n.toNat := by unfold Lib.itoa; rw [if_neg (by omega)]
  rw [hit]
  obtain ⟨t, ht⟩ : ∃ t : ByteArray, t = ⟨(Lib.decDigits n.toNat).toArray⟩ := ⟨_, rfl⟩
  rw [← ht]
  have hts : t.size = (Lib.decDigits n.toNat).length := by rw [ht, Lib.size_eq]
  rw [← hts] at hl
  obtain ⟨hl1, hl2⟩ := hl
  obtain ⟨c, hc⟩ : ∃ c : Nat, c = k - t.size := ⟨_, rfl⟩
  have hcc : (k : Int) - (t.size : Int) = (c : Int) := by omega
  have HE : Hid (∀ r : ByteArray, r = ⟨(Lib.repeatL [48] c).toArray⟩ → r ++ t = pad n k ∧ r.size = c) := fun r hr => by
    rw [repeat_one] at hr
    refine ⟨?_, by rw [hr, Lib.size_eq]; simp⟩
    have e : (r ++ t).data.toList = padL n.toNat k := by
      rw [app_data, hr, ht]
      unfold padL
      rw [hc, hts]
    have e2 := Lib.mk_data (r ++ t)
    rw [e] at e2
    exact e2.symm
  have hc4 : c ≤ 4 := by omega
  clear hc ht hts hit
  go_wp2_with fail
  refine (Tryd.strings_Repeat ⟨#[48]⟩ c _ (by omega) (by show 1 * c ≤ _; omega)).mono ?_
  rintro e w2 ⟨rfl, hb2⟩
  obtain ⟨r, hr⟩ : ∃ r : ByteArray, r = ⟨(Lib.repeatL (⟨#[48]⟩ : ByteArray).data.toList c).toArray⟩ := ⟨_, rfl⟩
  rw [← hr]
  obtain ⟨q1, q2⟩ := HE.out r hr
  have HQ : Hid (r ++ t = pad n k) := q1
  have B2 : Below w.heap.size w w2 := hb1.trans (hb2.mono hb1.size)
  clear hr HE q1 hb1 hb2
  go_wp2
  go_ret
  exact ⟨r ++ t, rfl, by rw [HQ.out]; exact HPS.out, HQ, B2⟩

end Go.Proofs.YtjdfbebdcpjpiaaDoor
