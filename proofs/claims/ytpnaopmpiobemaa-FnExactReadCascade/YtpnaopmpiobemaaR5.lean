import Derived.Test.YtpnaopmpiobemaaR4
import Derived.Test.YtpnaopmpiobemaaW7
import Derived.Lib.Bytes
namespace Go.Proofs.Ytpnaopmpiobemaa
open Go.RowKit

theorem strOfNums_inj {xs ys : List Int} (hx : ∀ k, 0 ≤ xs.getD k 0 ∧ xs.getD k 0 ≤ 255) (hy : ∀ k, 0 ≤ ys.getD k 0 ∧ ys.getD k 0 ≤ 255) (h : strOfNums xs = strOfNums ys) : xs = ys := by
  have hl : xs.length = ys.length := by rw [← strOfNums_size xs, ← strOfNums_size ys, h]
  have hd : xs.map (fun n => UInt8.ofNat n.toNat) = ys.map (fun n => UInt8.ofNat n.toNat) := by rw [← strOfNums_data, ← strOfNums_data, h]
  apply List.ext_getElem hl
  intro i h1 h2
  have e : UInt8.ofNat (xs[i]).toNat = UInt8.ofNat (ys[i]).toNat := by
    have := congrArg (fun l => l[i]?) hd
    simpa [h1, h2] using this
  have e2 := congrArg UInt8.toNat e
  have bx := hx i
  have by' := hy i
  simp only [List.getD_eq_getElem?_getD, List.getElem?_eq_getElem h1, List.getElem?_eq_getElem h2, Option.getD_some] at bx by'
  simp only [UInt8.toNat_ofNat'] at e2
  omega

theorem strOfNums_of_toList {xs ys : List Int} (h : (strOfNums xs).toList = (strOfNums ys).toList) : strOfNums xs = strOfNums ys := by
  have h2 : (strOfNums xs).data.toList = (strOfNums ys).data.toList := by
    rw [strOfNums_data, strOfNums_data]
    first
      | (rw [strOfNums_toList, strOfNums_toList] at h; exact h)
      | (rw [Lib.strOfNums_toList, Lib.strOfNums_toList] at h; exact h)
  have h3 : (strOfNums xs).data = (strOfNums ys).data := Array.toList_inj.1 h2
  exact ByteArray.ext h3

set_option maxHeartbeats 1000000 in
theorem bytesEqual_any (B B' : Nat) (a b : Option Addr) (n m ca cb : Nat) (xs ys : List Int) (w : World) (hx : Own B w a n ca xs) (hy : Own B' w b m cb ys) :
    Calls Try.prog 49 #[.slice a n ca, .slice b m cb] w fun e w' => e = .returned (.bool (decide (xs = ys))) ∧ w' = w := by
  have h1 := convert_own hx
  have h2 := convert_own hy
  have HI : Hid (strOfNums xs = strOfNums ys → xs = ys) := strOfNums_inj hx.byte hy.byte
  clear hx hy
  by_cases e : xs = ys
  · subst e
    go_enter Try.func49, Try.ntmps49
    go_wp2
    go_ret
    exact ⟨by simp, rfl⟩
  · have hne : ¬ (strOfNums xs = strOfNums ys) := fun h => e (HI.out h)
    rw [decide_eq_false e]
    go_enter Try.func49, Try.ntmps49
    go_wp2
    go_ret
    exact ⟨by simp; exact fun h => hne (strOfNums_of_toList h), rfl⟩

set_option maxHeartbeats 1000000 in
theorem l1Same_any (B B' : Nat) (a b : Option Addr) (n m ca cb : Nat) (xs ys : List Int) (w : World) (hx : Own B w a n ca xs) (hy : Own B' w b m cb ys) :
    Calls Try.prog 47 #[.slice a n ca, .slice b m cb] w fun e w' => e = .returned (.bool (decide (xs = ys))) ∧ w' = w := by
  have h1 := convert_own hx
  have h2 := convert_own hy
  have HI : Hid (strOfNums xs = strOfNums ys → xs = ys) := strOfNums_inj hx.byte hy.byte
  clear hx hy
  by_cases e : xs = ys
  · subst e
    go_enter Try.func47, Try.ntmps47
    go_wp2
    go_ret
    exact ⟨by simp, rfl⟩
  · have hne : ¬ (strOfNums xs = strOfNums ys) := fun h => e (HI.out h)
    rw [decide_eq_false e]
    go_enter Try.func47, Try.ntmps47
    go_wp2
    go_ret
    exact ⟨by simp; exact fun h => hne (strOfNums_of_toList h), rfl⟩

theorem rcQ_one {bs : List Int} {b1 b2 : List (List Int)} (h : rcQ bs b1) (g : rcQ bs b2) : b1 = b2 := by
  obtain ⟨n, to, q, h1, _, h2⟩ := h
  obtain ⟨n', to', q', g1, _, g2⟩ := g
  rw [h1] at g1
  simp only [Prod.mk.injEq, and_true] at g1
  obtain ⟨rfl, rfl⟩ := g1
  rw [h2] at g2
  simp only [Option.some.injEq, Prod.mk.injEq] at g2
  exact g2.1
def rcF (bs : List Int) (bss : List (List Int)) : Prop := rcQ bs bss ∧ cbP bss ∧ cbL bss = bs
theorem rcF_one {bs : List Int} {b1 b2 : List (List Int)} (h : rcF bs b1) (g : rcF bs b2) : b1 = b2 := rcQ_one h.1 g.1
def RcR (bs : List Int) (w : World) (e : Ending) (w' : World) : Prop :=
  ((∀ bss, ¬ rcF bs bss) ∧ e = .returned (.tuple #[.agg #[.slice none 0 0], .int .i64 1]) ∧ Below w.heap.size w w') ∨
  ∃ (n cap : Nat) (a : Option Addr) (qs : List Rw) (bss : List (List Int)), rcF bs bss ∧ n ≤ 30 ∧ total bss ≤ 160000 ∧ e = .returned (.tuple #[.agg #[.slice a n cap], .int .i64 0]) ∧ OwnC w.heap.size w' a n cap qs bss ∧ Below w.heap.size w w'

set_option maxRecDepth 10000 in
set_option maxHeartbeats 4000000 in
theorem implReadCascade_any (B0 : Nat) (a : Option Addr) (n : Nat) (bs : List Int) (w : World) (h : Own B0 w a n n bs) (hn : n ≤ 1048576) :
    Calls Try.prog 26 #[.slice a n n] w (RcR bs w) := by
  have H0 : Hid (Own B0 w a n n bs) := h
  obtain ⟨wb, hwb⟩ : ∃ wb, wb = w.alloc (.cells #[.slice none 0 0] 25) := ⟨_, rfl⟩
  have hbb : Below w.heap.size w wb := by rw [hwb]; exact (Below.refl _ _).alloc (Nat.le_refl _) _
  have hbx : wb.heap[w.heap.size]? = some (.cells #[.slice none 0 0] 25) := by rw [hwb]; exact heap_alloc_new w _
  have hsz : w.heap.size < wb.heap.size := (Array.getElem?_eq_some_iff.1 hbx).1
  have HX : Hid (wb.heap[w.heap.size]? = some (.cells #[.slice none 0 0] 25)) := hbx
  have HWB : Hid (_ = _) := hwb
  have HBB : Hid (Below w.heap.size w wb) := hbb
  clear hwb hbx h hbb
  go_enter Try.func26, Try.ntmps26
  go_upto_region 1 with fail
  rw [← HWB.out]
  clear HWB
  go_wp2_with fail
  refine (readRows_any a n bs _ (H0.out.kept HBB.out).toRow hn).mono ?_
  rintro e w1 (⟨hno, rfl, hb1⟩ | ⟨m, cap, a1, qs, bss, hrq, hm, htt, rfl, ho1, hb1⟩)
  · have HN : Hid (∀ bss, ¬ rcF bs bss) := fun bss hf => hno bss hf.1
    have x1 : w1.heap[w.heap.size]? = some (.cells #[.slice none 0 0] 25) := (hb1.block _ hsz).trans HX.out
    have B1 : Below w.heap.size w w1 := keepT HBB.out hb1
    have s1 := hb1.size
    obtain ⟨w2, hw2⟩ : ∃ w2, w2 = w1.alloc (.cells #[.slice none 0 0] 25) := ⟨_, rfl⟩
    have B2 : Below w.heap.size w w2 := by rw [hw2]; exact B1.alloc B1.size _
    have x2 : w2.heap[w.heap.size]? = some (.cells #[.slice none 0 0] 25) := by rw [hw2]; exact (((Below.refl w1.heap.size w1).alloc (Nat.le_refl _) _).block _ (by omega)).trans x1
    have HX2 : Hid (_ = _) := x2
    have HW2 : Hid (_ = _) := hw2
    have k2 : w2.cell? ⟨w.heap.size, 0, none⟩ = some (.slice none 0 0) := (cell_of_row _ _ 0 _ 25 (0, 0) x2).trans rfl
    have f2 : w2.frozen? ⟨w.heap.size, 0, none⟩ = false := frozen_of_row w2 _ 0 _ 25 x2
    have s2 : w.heap.size < w2.heap.size := (Array.getElem?_eq_some_iff.1 x2).1
    clear hno hw2 x2 x1
    go_upto_region 2 with fail
    rw [← HW2.out]
    clear HW2
    go_wp2
    have q1 := heap_setCell_same w2 w.heap.size 0 _ 25 (.slice none 0 0) HX2.out
    try simp only [Exit.inBlock, Exit.then]
    exact bodyPost_ret (results_cs2 rfl _ w.heap.size rfl _ rfl _ _ q1) rfl (.inl ⟨HN.out, rfl, B2.setCell (Nat.le_refl _) _⟩)
  · have HRQ : Hid (rcQ bs bss) := hrq
    have HTT : Hid (total bss ≤ 5000000) := htt
    obtain ⟨w2, hw2⟩ : ∃ w2, w2 = w1.alloc (.cells #[.slice a1 m cap] 25) := ⟨_, rfl⟩
    have hb2 : Below w1.heap.size w1 w2 := by rw [hw2]; exact (Below.refl _ _).alloc (Nat.le_refl _) _
    have x2 : w2.heap[w1.heap.size]? = some (.cells #[.slice a1 m cap] 25) := by rw [hw2]; exact heap_alloc_new w1 _
    have HW2 : Hid (_ = _) := hw2
    have k2 : w2.cell? ⟨w1.heap.size, 0, none⟩ = some (.slice a1 m cap) := (cell_of_row _ _ 0 _ 25 (0, 0) x2).trans rfl
    have s2 : w1.heap.size < w2.heap.size := (Array.getElem?_eq_some_iff.1 x2).1
    have G2 : Below wb.heap.size wb w2 := keepT hb1 hb2
    have HO2 : Hid (OwnC wb.heap.size w2 a1 m cap qs bss) := ho1.kept hb2
    have HK2 : Hid (w2.heap[w1.heap.size]? = some (.cells #[.slice a1 m cap] 25)) := x2
    clear hrq htt hw2 ho1 hb1 hb2 x2
    go_upto_region 4 with fail
    rw [← HW2.out]
    clear HW2
    go_wp2_with fail
    refine (implCascadeBytes_any a1 m cap bss _ HO2.out.rows (by omega) HTT.out).mono ?_
    rintro e w3 ⟨a3, n3, c3, ls, ok, rfl, HR3, hn3, ho3, hb3⟩
    have G3 : Below wb.heap.size wb w3 := keepT G2 hb3
    have x3 : w3.heap[w.heap.size]? = some (.cells #[.slice none 0 0] 25) := (G3.block _ hsz).trans HX.out
    have HX3 : Hid (_ = _) := x3
    have k3 : w3.cell? ⟨w.heap.size, 0, none⟩ = some (.slice none 0 0) := (cell_of_row _ _ 0 _ 25 (0, 0) x3).trans rfl
    have f3 : w3.frozen? ⟨w.heap.size, 0, none⟩ = false := frozen_of_row w3 _ 0 _ 25 x3
    have s3 : w.heap.size < w3.heap.size := (Array.getElem?_eq_some_iff.1 x3).1
    have kc : w3.cell? ⟨w1.heap.size, 0, none⟩ = some (.slice a1 m cap) := (hb3.cell (p := ⟨w1.heap.size, 0, none⟩) s2).trans k2
    have sc : w1.heap.size < w3.heap.size := by have := hb3.size; omega
    have HO3 : Hid (OwnC wb.heap.size w3 a1 m cap qs bss) := HO2.out.kept hb3
    have HB3 : Hid (Below w.heap.size w w3) := keepT HBB.out G3
    have HOL : Hid (Own w2.heap.size w3 a3 n3 c3 ls) := ho3
    clear x3 k2 ho3 HO2 hb3 G2
    cases ok with
    | false =>
      have HN : Hid (∀ b2, ¬ rcF bs b2) := fun b2 hf => by
        obtain rfl := rcQ_one HRQ.out hf.1
        rcases HR3.out with ⟨q, _⟩ | ⟨_, q, _⟩
        · cases q
        · exact q hf.2.1
      clear HR3
      go_wp2
      have q1 := heap_setCell_same w3 w.heap.size 0 _ 25 (.slice none 0 0) HX3.out
      try simp only [Exit.inBlock, Exit.then]
      exact bodyPost_ret (results_cs2 rfl _ w.heap.size rfl _ rfl _ _ q1) rfl (.inl ⟨HN.out, rfl, HB3.out.setCell (Nat.le_refl _) _⟩)
    | true =>
      have HCP : Hid (cbP bss ∧ ls = cbL bss) := by
        rcases HR3.out with ⟨_, q, r⟩ | ⟨q, _⟩
        · exact ⟨q, r⟩
        · cases q
      clear HR3
      go_wp2_with fail
      refine (bytesEqual_any w2.heap.size B0 a3 a n3 n c3 n ls bs _ HOL.out (H0.out.kept HB3.out)).mono ?_
      rintro e w4 ⟨rfl, hw4⟩
      subst hw4
      by_cases hq : ls = bs
      · rw [decide_eq_true hq]
        have HF : Hid (rcF bs bss) := ⟨HRQ.out, HCP.out.1, by rw [← HCP.out.2]; exact hq⟩
        clear hq
        go_wp2
        have q1 := heap_setCell_same w4 w.heap.size 0 _ 25 (.slice a1 m cap) HX3.out
        try simp only [Exit.inBlock, Exit.then]
        refine bodyPost_ret (results_cs2 rfl _ w.heap.size rfl _ rfl _ _ q1) rfl (.inr ⟨m, cap, a1, qs, bss, HF.out, hm, HF.out.2.1.2.1, rfl, ?_, HB3.out.setCell (Nat.le_refl _) _⟩)
        exact (HO3.out.same fun l hl => Below.heap_setCell _ _ _ _ (by show l ≠ w.heap.size; omega)).mono (by omega)
      · rw [decide_eq_false hq]
        have HN : Hid (∀ b2, ¬ rcF bs b2) := fun b2 hf => by
          obtain rfl := rcQ_one HRQ.out hf.1
          exact hq (HCP.out.2.trans hf.2.2)
        clear hq
        go_wp2
        have q1 := heap_setCell_same w4 w.heap.size 0 _ 25 (.slice none 0 0) HX3.out
        try simp only [Exit.inBlock, Exit.then]
        exact bodyPost_ret (results_cs2 rfl _ w.heap.size rfl _ rfl _ _ q1) rfl (.inl ⟨HN.out, rfl, HB3.out.setCell (Nat.le_refl _) _⟩)

end Go.Proofs.Ytpnaopmpiobemaa
