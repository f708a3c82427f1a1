import Derived.Test.YtlcojjcgaibbiaaTR3
set_option linter.unusedVariables false
namespace Go.Proofs.Ytlcojjcgaibbiaa
open Go.RowKit

theorem ownsRow_below'T {B e size n lo : Nat} {w w' : World} {v : Value} {xs : List Value} (h : w.ownsRow B e size v n xs) (hb : Below lo w w') (hl : ∀ k, v.ownBlock = some k → k < lo) : w'.ownsRow B e size v n xs := by
  refine ⟨h.1, ?_⟩
  rcases h.2 with hn | ⟨g, cap, cur, rfl, hbb, hgg, rest⟩
  · exact .inl hn
  · exact .inr ⟨g, cap, cur, rfl, hbb, (hb.block g (hl g rfl)).trans hgg, rest⟩

/-- The cells of a signer are stored. -/
def set5T (w : World) (g i : Nat) (u0 u1 u3 u4 : Value) : World := (((w.setCell ⟨g, i * 4, none⟩ u0).setCell ⟨g, i * 4 + 1, none⟩ u1).setCell ⟨g, i * 4 + 2, none⟩ u3).setCell ⟨g, i * 4 + 3, none⟩ u4

structure Set5T (B : Nat) (w w' : World) (g n cap i : Nat) (u0 u1 u3 u4 : Value) : Prop where
  own : ∃ vs, w'.ownsRow B 59 4 (.slice (some ⟨g, 0, none⟩) n cap) n vs
  touch : Touch g (g + 1) w w'
  size : w'.heap.size = w.heap.size
  old : ∀ j, j < n * 4 → j < i * 4 ∨ i * 4 + 4 ≤ j → w'.cell? ⟨g, j, none⟩ = w.cell? ⟨g, j, none⟩
  c0 : w'.cell? ⟨g, i * 4, none⟩ = some u0
  c1 : w'.cell? ⟨g, i * 4 + 1, none⟩ = some u1
  c3 : w'.cell? ⟨g, i * 4 + 2, none⟩ = some u3
  c4 : w'.cell? ⟨g, i * 4 + 3, none⟩ = some u4

theorem set5_isT {B : Nat} {w : World} {g n cap : Nat} {vs : List Value} (h : w.ownsRow B 59 4 (.slice (some ⟨g, 0, none⟩) n cap) n vs) (i : Nat) (hi : i < n) (u0 u1 u3 u4 : Value) : Set5T B w (set5T w g i u0 u1 u3 u4) g n cap i u0 u1 u3 u4 := by
  have h1 := ((((h.stored (i * 4) u0).1.stored (i * 4 + 1) u1).1.stored (i * 4 + 2) u3).1.stored (i * 4 + 3) u4).1
  have hl : vs.length = n * 4 := h.1
  have cc : ∀ j, j < n * 4 → (set5T w g i u0 u1 u3 u4).cell? ⟨g, j, none⟩ = ((((vs.set (i * 4) u0).set (i * 4 + 1) u1).set (i * 4 + 2) u3).set (i * 4 + 3) u4)[j]? := fun j hj => h1.cellAt j hj
  refine ⟨⟨_, h1⟩, ?_, by simp [set5T], fun j hj ho => ?_, ?_, ?_, ?_, ?_⟩
  · exact (((touch_setT _ _ _ _ (Nat.le_refl _) (Nat.lt_succ_self _)).trans (touch_setT _ _ _ _ (Nat.le_refl _) (Nat.lt_succ_self _))).trans (touch_setT _ _ _ _ (Nat.le_refl _) (Nat.lt_succ_self _))).trans (touch_setT _ _ _ _ (Nat.le_refl _) (Nat.lt_succ_self _))
  · rw [cc j hj, h.cellAt j hj]
    rw [List.getElem?_set_ne (by omega), List.getElem?_set_ne (by omega), List.getElem?_set_ne (by omega), List.getElem?_set_ne (by omega)]
  · rw [cc _ (by omega), List.getElem?_set_ne (by omega), List.getElem?_set_ne (by omega), List.getElem?_set_ne (by omega), List.getElem?_set_self (by omega)]
  · rw [cc _ (by omega), List.getElem?_set_ne (by omega), List.getElem?_set_ne (by omega), List.getElem?_set_self (by simp; omega)]
  · rw [cc _ (by omega), List.getElem?_set_ne (by omega), List.getElem?_set_self (by simp; omega)]
  · rw [cc _ (by omega), List.getElem?_set_self (by simp; omega)]

set_option maxRecDepth 10000 in
set_option maxHeartbeats 1000000 in
theorem toSignerS_anyT (d : Nat) (ih : ToST d) : ToST (d + 1) := by
  intro a n cap xs w hk hw
  obtain ⟨i0, hi, hz0, hz1, hz2⟩ := info_parts Try.infoItem
  have HK : Hid (KidsT (d + 1) w a n xs) := hk
  have hlen : Hid (xs.length = n) := hk.1
  have HW : Hid (n + wtPT d xs n ≤ 1048576) := by show _ ≤ _; rw [wtS_succT, hk.1] at hw; exact hw
  have hn : n ≤ 1048576 := by have := HW.out; omega
  clear hk hw
  go_enter Try.func19, Try.ntmps19
  go_wp2_with (first | (at_make; refine wpList_make_full _ rfl _ _ 29 rfl w.heap.size 59 i0 _ 4 Try.underlying29 hi hz0 hz1 _ _ _ _ n rfl rfl rfl rfl (by rw [hz2]; omega) (by unfold maxLen; omega) (by exact Nat.le_refl _) ?_; intro w1 hown hgrow))
  have hbl : Below w.heap.size w w1 := (Below.refl _ _).grown hgrow (Nat.le_refl _) (by simp)
  have hlt1 := (hown.lt _ rfl).2
  clear hgrow hi hz0 hz1 hz2
  go_loopw [4] (fun i wr => ∃ k : Nat, k ≤ n ∧ i = .int .i64 k ∧ (∃ vs, wr.ownsRow w.heap.size 59 4 (.slice (some ⟨w.heap.size, 0, none⟩) n n) n vs) ∧ OwnPreT (OwnKidsT d) w.heap.size wr.heap.size wr w.heap.size k xs ∧ Below w.heap.size w wr) (fun i _ => n - (intOf i).toNat)
  case atStart => exact ⟨0, Nat.zero_le _, rfl, ⟨_, hown⟩, ownPre_zeroT _ _ _ _ _, hbl⟩
  case round =>
    obtain ⟨k, hk, rfl, ⟨vs, hor⟩, hpre, hbr⟩ := hrel
    by_cases hkn : k < n
    · obtain ⟨b, off, rfl, hlb, ab, nb, cb, ak, nk, ck, c0, c1, c3, c4, hr, hnil, hnb, hu, hkk⟩ := HK.out.2.2 k hkn
      have HN : Hid (_ = _) := wtP_nextT d xs k (by have := hlen.out; omega)
      have HL : Hid (_ ≤ _) := wtP_leT d xs (k + 1)
      obtain ⟨y, hy⟩ : ∃ y, y = xs.getD k default := ⟨_, rfl⟩
      rw [← hy] at c0 c1 hr hkk hu
      have HY : Hid (y = xs.getD k default) := hy
      have cc : ∀ j, wr.cell? ⟨b, j, none⟩ = w.cell? ⟨b, j, none⟩ := fun j => hbr.cell (p := ⟨b, j, none⟩) hlb
      rw [← cc] at c0 c1 c3 c4
      have hkni : (k : Int) < (n : Int) := by omega
      have hwt : nb + wtST d y.over ≤ 1048576 := by
        have h1 := HN.out
        have h2 := HL.out
        have h3 := HW.out
        rw [hlen.out] at h2
        rw [← hy, hr.len] at h1
        omega
      clear cc hy
      have hs := hbr.size
      have hrr := hr.kept hbr
      have hkr := hkk.kept hbr
      have hgl := (hor.lt _ rfl).2
      have HPRE : Hid (OwnPreT (OwnKidsT d) w.heap.size wr.heap.size wr w.heap.size k xs) := hpre
      have HOR : Hid (wr.ownsRow w.heap.size 59 4 (.slice (some ⟨w.heap.size, 0, none⟩) n n) n vs) := hor
      clear hpre hor hr hkk
      go_wp2_with fail
      refine (toSigner_anyT d ih y ab nb cb ak nk ck _ hrr hkr (by omega) (by omega)).mono ?_
      rintro e w2 ⟨ab2, ak2, M, rfl, m1, m2, ob2, ok2, hb2⟩
      have hor2 := ownsRow_below HOR.out hb2
      have hs2 := hb2.size
      have fr : ∀ j, w2.frozen? ⟨w.heap.size, j, none⟩ = false := fun j => hor2.frozenAt j
      have hvl : vs.length = n * 4 := hor2.1
      have cx : ∀ j, j < n * 4 → ∃ z, w2.cell? ⟨w.heap.size, j, none⟩ = some z := fun j hj => ⟨_, (hor2.cellAt j hj).trans (List.getElem?_eq_getElem (by omega))⟩
      obtain ⟨z0, x0⟩ := cx (k * 4) (by omega)
      obtain ⟨z1, x1⟩ := cx (k * 4 + 1) (by omega)
      obtain ⟨z3, x3⟩ := cx (k * 4 + 2) (by omega)
      obtain ⟨z4, x4⟩ := cx (k * 4 + 3) (by omega)
      have f0 := fr (k * 4)
      have f1 := fr (k * 4 + 1)
      have f3 := fr (k * 4 + 2)
      have f4 := fr (k * 4 + 3)
      clear fr cx
      unfold itvT
      have hS := set5_isT hor2 k hkn (.int .u64 y.ky) (.int .i64 y.at2) (.slice ab2 nb nb) (.slice ak2 nk nk)
      have HP2 : OwnPreT (OwnKidsT d) w.heap.size wr.heap.size w2 w.heap.size k xs := HPRE.out.move (ownKids_movesT d) (fun j hj => hb2.cell (p := ⟨w.heap.size, j, none⟩) (by simp; omega)) (.inr ⟨rfl, rfl⟩) (Touch.of_below hb2)
      have HP3 : OwnPreT (OwnKidsT d) w.heap.size wr.heap.size (set5T w2 w.heap.size k (.int .u64 y.ky) (.int .i64 y.at2) (.slice ab2 nb nb) (.slice ak2 nk nk)) w.heap.size k xs := HP2.move (ownKids_movesT d) (fun j hj => hS.old j (by omega) (.inl hj)) (.inr ⟨rfl, rfl⟩) hS.touch
      have HP4 := HP3.more (s := wr.heap.size) (hi' := w2.heap.size) (M := M) (Nat.le_refl _) hgl hs m1 m2 (by rw [← HY.out]; exact hS.c0) (by rw [← HY.out]; exact hS.c1) hS.c3 hS.c4 (by rw [← HY.out]; exact hu) (by rw [← HY.out]; exact ob2.touch (.inr (by omega)) hS.touch) (by rw [← HY.out]; exact ownKids_movesT d _ _ _ _ _ _ _ _ _ ok2 (.inr (by omega)) hS.touch)
      rw [← hS.size] at HP4
      have HB4 : Below w.heap.size w (set5T w2 w.heap.size k (.int .u64 y.ky) (.int .i64 y.at2) (.slice ab2 nb nb) (.slice ak2 nk nk)) := (hbr.trans (hb2.mono hs)).trans (hS.touch.below (Nat.le_refl _) (by omega))
      have HP5 : Hid (_ ∧ _ ∧ _) := ⟨hS.own, HP4, HB4⟩
      clear hS HP2 HP3 HP4 HB4
      go_wp2
      go_roundw
      case rel => exact ⟨k + 1, by omega, by go_num, HP5.out.1, HP5.out.2.1, HP5.out.2.2⟩
      case measure => simp [intOf]; omega
    · obtain rfl : n = k := by omega
      go_wp2
      go_ret
      refine ⟨_, rfl, ⟨hlen.out, by omega, ?_⟩, hbr⟩
      rcases Nat.eq_zero_or_pos n with h0 | h0
      · exact .inl h0
      · exact .inr ⟨w.heap.size, n, vs, rfl, Nat.le_refl _, (hor.lt _ rfl).2, hor, hpre⟩

theorem toS_allT (d : Nat) : ToST d := by
  induction d with
  | zero => intro a n cap xs w h; exact h.elim
  | succ d ih => exact toSignerS_anyT d ih

end Go.Proofs.Ytlcojjcgaibbiaa
