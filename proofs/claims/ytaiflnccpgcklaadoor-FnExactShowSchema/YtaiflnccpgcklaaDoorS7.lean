import Derived.Test.YtaiflnccpgcklaaDoorS6
namespace Go.Proofs.YtaiflnccpgcklaaDoor
open Go.RowKit

/-- How often i stands among these. -/
def cntK : List Int → Nat → Int
  | [], _ => 0
  | k :: ks, i => cntK ks i + if k.toNat = i then 1 else 0
theorem cntK_append (a b : List Int) (i : Nat) : cntK (a ++ b) i = cntK a i + cntK b i := by
  induction a with
  | nil => simp [cntK]
  | cons k ks ih => simp only [List.cons_append, cntK, ih]; omega
theorem cntK_bounds (a : List Int) (i : Nat) : 0 ≤ cntK a i ∧ cntK a i ≤ a.length := by
  induction a with
  | nil => simp [cntK]
  | cons k ks ih =>
    simp only [cntK, List.length_cons]
    split <;> omega
theorem cntK_take (ks : List Int) (k i : Nat) (h : k < ks.length) : cntK (ks.take (k + 1)) i = cntK (ks.take k) i + if (ks.getD k 0).toNat = i then 1 else 0 := by
  rw [List.take_succ_eq_append_getElem h, cntK_append]
  simp [cntK, h]

/-- How often i is a kid of the first t types, of those that are seqs (b) or are not. -/
def cN (b : Bool) (xs : List ST) : Nat → Nat → Int
  | 0, _ => 0
  | t + 1, i => cN b xs t i + if ((xs.getD t default).kind == 6) = b then cntK (xs.getD t default).kids i else 0
/-- And of the first k kids of the next one. -/
def cAt (b : Bool) (xs : List ST) (t k i : Nat) : Int := cN b xs t i + if ((xs.getD t default).kind == 6) = b then cntK ((xs.getD t default).kids.take k) i else 0

theorem cAt_zero (b : Bool) (xs : List ST) (t : Nat) : cAt b xs t 0 = cN b xs t := by
  funext i
  simp [cAt, cntK]
theorem cAt_all (b : Bool) (xs : List ST) (t k : Nat) (h : (xs.getD t default).kids.length ≤ k) : cAt b xs t k = cN b xs (t + 1) := by
  funext i
  simp only [cAt, cN, List.take_of_length_le h]
theorem cAt_next (b : Bool) (xs : List ST) (t k p : Nat) (h : k < (xs.getD t default).kids.length) (hp : ((xs.getD t default).kids.getD k 0).toNat = p) (hb : ((xs.getD t default).kind == 6) = b) : cAt b xs t (k + 1) = upd (cAt b xs t k) p (cAt b xs t k p + 1) := by
  funext i
  have e1 : cAt b xs t (k + 1) i = cAt b xs t k i + if p = i then 1 else 0 := by
    unfold cAt
    rw [if_pos hb, if_pos hb, cntK_take _ _ _ h, hp]
    omega
  rw [e1]
  unfold upd
  by_cases hi : i = p
  · rw [if_pos hi, if_pos hi.symm, hi]
  · rw [if_neg hi, if_neg (fun e => hi e.symm)]
    omega
theorem cAt_stay (b : Bool) (xs : List ST) (t k : Nat) (hb : ((xs.getD t default).kind == 6) ≠ b) : cAt b xs t (k + 1) = cAt b xs t k := by
  funext i
  simp only [cAt, if_neg hb]
theorem cN_bounds (b : Bool) (xs : List ST) (n : Nat) (h12 : ∀ t, t < n → (xs.getD t default).kids.length ≤ 12) : ∀ t i, t ≤ n → 0 ≤ cN b xs t i ∧ cN b xs t i ≤ 12 * t := by
  intro t
  induction t with
  | zero => intro i _; simp [cN]
  | succ t ih =>
    intro i ht
    have h1 := ih i (by omega)
    have h2 := cntK_bounds (xs.getD t default).kids i
    have h3 := h12 t (by omega)
    unfold cN
    split <;> omega
theorem cAt_bounds (b : Bool) (xs : List ST) (n : Nat) (h12 : ∀ t, t < n → (xs.getD t default).kids.length ≤ 12) (t k i : Nat) (ht : t < n) (hn : n ≤ 40) : 0 ≤ cAt b xs t k i ∧ cAt b xs t k i ≤ 1000 := by
  have h1 := cN_bounds b xs n h12 t i (by omega)
  have h2 := cntK_bounds ((xs.getD t default).kids.take k) i
  have h3 := h12 t ht
  have h4 : ((xs.getD t default).kids.take k).length ≤ 12 := by rw [List.length_take]; omega
  unfold cAt
  split <;> omega

/-- The open kid at place k of the type t hangs on a field ahead. -/
def opn (xs : List ST) (t k : Nat) : Prop := (xs.getD t default).kind = 6 → (xs.getD ((xs.getD t default).kids.getD k 0).toNat default).kind = 9 → aheadP xs (xs.getD t default).kids k (xs.getD ((xs.getD t default).kids.getD k 0).toNat default).lo
def useP (xs : List ST) (S O : Nat → Int) (t : Nat) : Prop := ((xs.getD t default).opt = true → S t ≠ 0 ∧ O t = 0) ∧ ((xs.getD t default).kind = 9 → S t = 1 ∧ O t = 0)
def parP (xs : List ST) : Prop := (∀ t, t < xs.length → ∀ k, k < (xs.getD t default).kids.length → opn xs t k) ∧ ∀ t, t < xs.length → useP xs (cN true xs xs.length) (cN false xs xs.length) t

set_option maxRecDepth 10000 in
set_option maxHeartbeats 8000000 in
theorem parentsOk_any (a : Option Addr) (n c : Nat) (xs : List ST) (w : World) (h : Sts w a n xs) (h1 : 1 ≤ n) (h40 : n ≤ 40) (hb : ∀ t, t < n → behindP (xs.getD t default).kids t n) (h12 : ∀ t, t < n → (xs.getD t default).kids.length ≤ 12) :
    Calls Tryd.prog 24 #[.slice a n c] w fun e w' => Tells (parP xs) w e w' := by
  have HS : Hid (Sts w a n xs) := h
  have HL : Hid (xs.length = n) := h.len
  have HB : Hid (_) := hb
  have H12 : Hid (_) := h12
  have hbl : ∀ o o', Below w.heap.size w ((w.alloc o).alloc o') := fun o o' => ((Below.refl _ _).alloc (Nat.le_refl _) o).alloc (by simp) o'
  have HA0 : Hid (Arr ((w.alloc (.cells #[.int .i64 0, .int .i64 0, .int .i64 0, .int .i64 0, .int .i64 0, .int .i64 0, .int .i64 0, .int .i64 0, .int .i64 0, .int .i64 0, .int .i64 0, .int .i64 0, .int .i64 0, .int .i64 0, .int .i64 0, .int .i64 0, .int .i64 0, .int .i64 0, .int .i64 0, .int .i64 0, .int .i64 0, .int .i64 0, .int .i64 0, .int .i64 0, .int .i64 0, .int .i64 0, .int .i64 0, .int .i64 0, .int .i64 0, .int .i64 0, .int .i64 0, .int .i64 0, .int .i64 0, .int .i64 0, .int .i64 0, .int .i64 0, .int .i64 0, .int .i64 0, .int .i64 0, .int .i64 0] 67)).alloc (.cells #[.int .i64 0, .int .i64 0, .int .i64 0, .int .i64 0, .int .i64 0, .int .i64 0, .int .i64 0, .int .i64 0, .int .i64 0, .int .i64 0, .int .i64 0, .int .i64 0, .int .i64 0, .int .i64 0, .int .i64 0, .int .i64 0, .int .i64 0, .int .i64 0, .int .i64 0, .int .i64 0, .int .i64 0, .int .i64 0, .int .i64 0, .int .i64 0, .int .i64 0, .int .i64 0, .int .i64 0, .int .i64 0, .int .i64 0, .int .i64 0, .int .i64 0, .int .i64 0, .int .i64 0, .int .i64 0, .int .i64 0, .int .i64 0, .int .i64 0, .int .i64 0, .int .i64 0, .int .i64 0] 67)) w.heap.size (fun _ => 0)) := (arr_new w).kept (alloc_old _ _ _ (by simp))
  have HA1 : Hid (Arr ((w.alloc (.cells #[.int .i64 0, .int .i64 0, .int .i64 0, .int .i64 0, .int .i64 0, .int .i64 0, .int .i64 0, .int .i64 0, .int .i64 0, .int .i64 0, .int .i64 0, .int .i64 0, .int .i64 0, .int .i64 0, .int .i64 0, .int .i64 0, .int .i64 0, .int .i64 0, .int .i64 0, .int .i64 0, .int .i64 0, .int .i64 0, .int .i64 0, .int .i64 0, .int .i64 0, .int .i64 0, .int .i64 0, .int .i64 0, .int .i64 0, .int .i64 0, .int .i64 0, .int .i64 0, .int .i64 0, .int .i64 0, .int .i64 0, .int .i64 0, .int .i64 0, .int .i64 0, .int .i64 0, .int .i64 0] 67)).alloc (.cells #[.int .i64 0, .int .i64 0, .int .i64 0, .int .i64 0, .int .i64 0, .int .i64 0, .int .i64 0, .int .i64 0, .int .i64 0, .int .i64 0, .int .i64 0, .int .i64 0, .int .i64 0, .int .i64 0, .int .i64 0, .int .i64 0, .int .i64 0, .int .i64 0, .int .i64 0, .int .i64 0, .int .i64 0, .int .i64 0, .int .i64 0, .int .i64 0, .int .i64 0, .int .i64 0, .int .i64 0, .int .i64 0, .int .i64 0, .int .i64 0, .int .i64 0, .int .i64 0, .int .i64 0, .int .i64 0, .int .i64 0, .int .i64 0, .int .i64 0, .int .i64 0, .int .i64 0, .int .i64 0] 67)) (w.heap.size + 1) (fun _ => 0)) := by
    have := arr_new (w.alloc (.cells #[.int .i64 0, .int .i64 0, .int .i64 0, .int .i64 0, .int .i64 0, .int .i64 0, .int .i64 0, .int .i64 0, .int .i64 0, .int .i64 0, .int .i64 0, .int .i64 0, .int .i64 0, .int .i64 0, .int .i64 0, .int .i64 0, .int .i64 0, .int .i64 0, .int .i64 0, .int .i64 0, .int .i64 0, .int .i64 0, .int .i64 0, .int .i64 0, .int .i64 0, .int .i64 0, .int .i64 0, .int .i64 0, .int .i64 0, .int .i64 0, .int .i64 0, .int .i64 0, .int .i64 0, .int .i64 0, .int .i64 0, .int .i64 0, .int .i64 0, .int .i64 0, .int .i64 0, .int .i64 0] 67))
    rw [show (w.alloc (.cells #[.int .i64 0, .int .i64 0, .int .i64 0, .int .i64 0, .int .i64 0, .int .i64 0, .int .i64 0, .int .i64 0, .int .i64 0, .int .i64 0, .int .i64 0, .int .i64 0, .int .i64 0, .int .i64 0, .int .i64 0, .int .i64 0, .int .i64 0, .int .i64 0, .int .i64 0, .int .i64 0, .int .i64 0, .int .i64 0, .int .i64 0, .int .i64 0, .int .i64 0, .int .i64 0, .int .i64 0, .int .i64 0, .int .i64 0, .int .i64 0, .int .i64 0, .int .i64 0, .int .i64 0, .int .i64 0, .int .i64 0, .int .i64 0, .int .i64 0, .int .i64 0, .int .i64 0, .int .i64 0] 67)).heap.size = w.heap.size + 1 by simp] at this
    exact this
  clear h hb h12
  go_enter Tryd.func24, Tryd.ntmps24
  go_wp2
  go_loopw [13] (fun i wr => ∃ t : Nat, t ≤ n ∧ i = .int .i64 t ∧ Arr wr w.heap.size (cN true xs t) ∧ Arr wr (w.heap.size + 1) (cN false xs t) ∧ Hid (∀ t', t' < t → ∀ k, k < (xs.getD t' default).kids.length → opn xs t' k) ∧ Below w.heap.size w wr) (fun i _ => n - (intOf i).toNat)
  case atStart => exact ⟨0, Nat.zero_le _, rfl, HA0.out, HA1.out, fun t' ht => absurd ht (Nat.not_lt_zero _), hbl _ _⟩
  case round =>
    obtain ⟨t, ht, rfl, har0, har1, HO, hbr⟩ := hrel
    by_cases htn : t < n
    · obtain ⟨b, off, rfl, hlb, ak, nk, ck, hcs, hr, hnk⟩ := HS.out.get t htn
      obtain ⟨x, hx⟩ : ∃ x, x = xs.getD t default := ⟨_, rfl⟩
      rw [← hx] at hcs hr
      have HX : Hid (x = xs.getD t default) := hx
      obtain ⟨c0, c1, c2, c3, c4, c5⟩ := hcs.of (w' := wr) (fun i => hbr.cell (p := ⟨b, i, none⟩) hlb)
      have t2 : (t : Int) < (n : Int) := by omega
      have hs := hbr.size
      have l0 := har0.lt
      have l1 := har1.lt
      have hBA : Below w.heap.size w (wr.alloc (.cells #[.int .i64 x.kind, .int .i64 x.lo, .int .i64 x.hi, .bool x.ext, .bool x.opt, .slice ak nk ck] 35)) := hbr.alloc hs _
      have A0 : Hid (Arr (wr.alloc (.cells #[.int .i64 x.kind, .int .i64 x.lo, .int .i64 x.hi, .bool x.ext, .bool x.opt, .slice ak nk ck] 35)) w.heap.size (cAt true xs t 0)) := by show Arr _ _ _; rw [cAt_zero]; exact har0.kept (alloc_old _ _ _ l0)
      have A1 : Hid (Arr (wr.alloc (.cells #[.int .i64 x.kind, .int .i64 x.lo, .int .i64 x.hi, .bool x.ext, .bool x.opt, .slice ak nk ck] 35)) (w.heap.size + 1) (cAt false xs t 0)) := by show Arr _ _ _; rw [cAt_zero]; exact har1.kept (alloc_old _ _ _ l1)
      have BX : Hid (_) := boxS_new 35 wr x ak nk ck
      have HR : Hid (Row64 w ak nk x.kids) := hr
      obtain ⟨gb, hgb⟩ : ∃ gb, gb = wr.heap.size := ⟨_, rfl⟩
      have hgb2 : w.heap.size + 1 < gb := by omega
      clear hcs hx hr har0 har1
      go_wp2
      rw [← hgb] at BX ⊢
      clear hgb
      have T12 : Hid (_) := cAt_bounds true xs n H12.out t
      have F12 : Hid (_) := cAt_bounds false xs n H12.out t
      go_loopw [20] (fun i wq => ∃ k : Nat, k ≤ nk ∧ i = .int .i64 k ∧ Arr wq w.heap.size (cAt true xs t k) ∧ Arr wq (w.heap.size + 1) (cAt false xs t k) ∧ BoxS 35 gb wq x ak nk ck ∧ Hid (∀ k', k' < k → opn xs t k') ∧ Below w.heap.size w wq) (fun i _ => nk - (intOf i).toNat)
      case atStart => exact ⟨0, Nat.zero_le _, rfl, A0.out, A1.out, BX.out, fun k' hk => absurd hk (Nat.not_lt_zero _), hBA⟩
      case round =>
        obtain ⟨k, hk, rfl, har0, har1, hbx, HK, hbq⟩ := hrel
        by_cases hkn : k < nk
        · obtain ⟨b2, off2, rfl, hl2, hc2⟩ := HR.out.get k hkn
          have hcr := (hbq.cell (p := ⟨b2, off2 + k, none⟩) hl2).trans hc2
          have hbt := HB.out t htn
          unfold behindP at hbt
          rw [← HX.out, HR.out.len] at hbt
          have hin := hbt k hkn
          obtain ⟨p, hp⟩ : ∃ p : Nat, (p : Int) = x.kids.getD k 0 := ⟨(x.kids.getD k 0).toNat, by omega⟩
          rw [← hp] at hcr hin
          have hpn : p < n := by omega
          have p1 : (p : Int) < 40 := by omega
          have p2 : (k : Int) < (nk : Int) := by omega
          have p3 : (0 : Int) ≤ (p : Int) := by omega
          have p4 : (p : Int) < (n : Int) := by omega
          have hkl : k < (xs.getD t default).kids.length := by rw [← HX.out, HR.out.len]; exact hkn
          have hpt : ((xs.getD t default).kids.getD k 0).toNat = p := by rw [← HX.out, ← hp, Int.toNat_natCast]
          have d0 := hbx.cells.c0
          have v0 := T12.out k p htn h40
          have v1 := F12.out k p htn h40
          have q0 := har0.cell p (by omega)
          have q1 := har1.cell p (by omega)
          have f0 := har0.frozen p
          have f1 := har1.frozen p
          have BXq : Hid (_) := hbx
          by_cases h6 : x.kind = 6
          · have z6 : (x.kind != 6) = false := by simp [h6]
            have e6 : ((xs.getD t default).kind == 6) = true := by rw [← HX.out]; simp [h6]
            have nx := cAt_next true xs t k p hkl hpt e6
            have ny := cAt_stay false xs t k (by rw [e6]; decide)
            obtain ⟨v, hv⟩ : ∃ v, v = cAt true xs t k p := ⟨_, rfl⟩
            rw [← hv] at nx q0 v0
            have B0 := har0.set p (v + 1)
            rw [← nx] at B0
            have B1 := har1.kept (w' := wr.setCell ⟨w.heap.size, p, none⟩ (.int .i64 (v + 1))) (heap_setCell_other wr ⟨w.heap.size, p, none⟩ (w.heap.size + 1) _ (by simp))
            rw [← ny] at B1
            have Bx : BoxS 35 gb (wr.setCell ⟨w.heap.size, p, none⟩ (.int .i64 (v + 1))) x (some ⟨b2, off2, none⟩) nk ck := ⟨(heap_setCell_other wr ⟨w.heap.size, p, none⟩ gb _ (by simp; omega)).trans hbx.heap⟩
            have hBW : Below w.heap.size w (wr.setCell ⟨w.heap.size, p, none⟩ (.int .i64 (v + 1))) := hbq.setCell (Nat.le_refl _) _
            obtain ⟨b3, off3, he3, hl3, ak3, nk3, ck3, hcs3, _, _⟩ := HS.out.get p hpn
            simp at he3
            obtain ⟨rfl, rfl⟩ := he3
            obtain ⟨y, hy⟩ : ∃ y, y = xs.getD p default := ⟨_, rfl⟩
            rw [← hy] at hcs3
            have HOPN : Hid (opn xs t k ↔ (y.kind = 9 → aheadP xs x.kids k y.lo)) := by
              show _ ↔ _
              unfold opn
              rw [hpt, ← hy, ← HX.out]
              exact ⟨fun h => h h6, fun h _ => h⟩
            have hinA : ∀ j, j < nk → 0 ≤ x.kids.getD j 0 ∧ x.kids.getD j 0 < n := fun j hj => by have := hbt j hj; omega
            clear hc2 hp hin nx ny hv hy hbt h6 har0 har1 hbx q1 f1 v1
            go_wp2_with fail
            obtain ⟨W1, hW1⟩ : ∃ W1, W1 = wr.setCell ⟨w.heap.size, p, none⟩ (.int .i64 (v + 1)) := ⟨_, rfl⟩
            rw [← hW1] at B0 B1 Bx hBW ⊢
            obtain ⟨e0, e1, e2, e3, e4, e5⟩ := hcs3.of (w' := W1) (fun i => hBW.cell (p := ⟨b, i, none⟩) hl3)
            obtain ⟨d0', d1, d2, d3, d4, d5⟩ := Bx.cells
            have hdd : Below W1.heap.size W1 W1.drew := (Below.refl _ _).drew
            have hBd : Below w.heap.size w W1.drew := hBW.drew
            have FB : Hid (_ ∧ _ ∧ _) := ⟨B0, B1, Bx⟩
            clear hW1 hcs3 d0 q0 f0 hcr B0 B1 Bx
            by_cases h9 : y.kind = 9
            · have z9 : (y.kind == 9) = true := by simp [h9]
              have FA : Hid (_) := fieldAhead_any (some ⟨b, off, none⟩) n c xs x (some ⟨b2, off2, none⟩) nk ck k y.lo W1.drew (HS.out.kept hBd) (HR.out.kept hBd) hnk (by omega) hinA
              have HOP2 : Hid (opn xs t k ↔ aheadP xs x.kids k y.lo) := by show _ ↔ _; rw [HOPN.out]; exact ⟨fun h => h h9, fun h _ => h⟩
              clear h9 hinA HOPN
              go_region_with (go_at_call 34; refine Calls.mono FA.out ?_; rintro e w5 ⟨bv, rfl, hbv, hb5⟩)
              all_goals
                have H5 : Below W1.heap.size W1 w5 := hdd.trans (hb5.mono (by simp))
                have hB5 : Below w.heap.size w w5 := hBW.trans (H5.mono hBW.size)
                have A50 := FB.out.1.kept (H5.block _ FB.out.1.lt)
                have A51 := FB.out.2.1.kept (H5.block _ FB.out.2.1.lt)
                have A5x := FB.out.2.2.kept H5
                have F5 : Hid (_ ∧ _ ∧ _) := ⟨A50, A51, A5x⟩
                clear A50 A51 A5x H5 hb5 e0 e1 e2 e3 e4 e5 d0' d1 d2 d3 d4 d5
                cases bv with
                | false =>
                  go_wp2
                  go_ret
                  refine ⟨false, rfl, ?_, hB5⟩
                  show _ ↔ _
                  simp only [Bool.false_eq_true, false_iff]
                  intro hP
                  have h9 := hbv.out.mpr (HOP2.out.mp (hP.1 t (by rw [HL.out]; exact htn) k hkl))
                  cases h9
                | true =>
                  have HOK : Hid (opn xs t k) := HOP2.out.mpr (hbv.out.mp rfl)
                  go_wp2
                  go_roundw
                  case rel =>
                    refine ⟨k + 1, by omega, by go_num, F5.out.1, F5.out.2.1, F5.out.2.2, fun k' hk' => ?_, hB5⟩
                    by_cases hkk : k' = k
                    · subst hkk; exact HOK.out
                    · exact HK.out k' (by omega)
                  case measure => simp [intOf]; omega
            · have z9 : (y.kind == 9) = false := by simp [h9]
              have HOP2 : Hid (opn xs t k) := by show opn xs t k; rw [HOPN.out]; exact fun h => absurd h h9
              clear h9 hinA HOPN
              go_quiet (fail)
              have H5 : Below W1.heap.size W1 (W1.drewN nq) := below_drewN (Below.refl _ _) nq
              have hB5 : Below w.heap.size w (W1.drewN nq) := hBW.trans (H5.mono hBW.size)
              have A50 := FB.out.1.kept (H5.block _ FB.out.1.lt)
              have A51 := FB.out.2.1.kept (H5.block _ FB.out.2.1.lt)
              have A5x := FB.out.2.2.kept H5
              have F5 : Hid (_ ∧ _ ∧ _) := ⟨A50, A51, A5x⟩
              clear A50 A51 A5x H5 e0 e1 e2 e3 e4 e5 d0' d1 d2 d3 d4 d5
              go_wp2
              go_roundw
              case rel =>
                refine ⟨k + 1, by omega, by go_num, F5.out.1, F5.out.2.1, F5.out.2.2, fun k' hk' => ?_, hB5⟩
                by_cases hkk : k' = k
                · subst hkk; exact HOP2.out
                · exact HK.out k' (by omega)
              case measure => simp [intOf]; omega
          · have z6 : (x.kind != 6) = true := by simp [h6]
            have e6 : ((xs.getD t default).kind == 6) = false := by rw [← HX.out]; simp [h6]
            have nx := cAt_next false xs t k p hkl hpt e6
            have ny := cAt_stay true xs t k (by rw [e6]; decide)
            obtain ⟨v, hv⟩ : ∃ v, v = cAt false xs t k p := ⟨_, rfl⟩
            rw [← hv] at nx q1 v1
            have B0 := har1.set p (v + 1)
            rw [← nx] at B0
            have B1 := har0.kept (w' := wr.setCell ⟨w.heap.size + 1, p, none⟩ (.int .i64 (v + 1))) (heap_setCell_other wr ⟨w.heap.size + 1, p, none⟩ w.heap.size _ (by simp))
            rw [← ny] at B1
            have Bx : BoxS 35 gb (wr.setCell ⟨w.heap.size + 1, p, none⟩ (.int .i64 (v + 1))) x (some ⟨b2, off2, none⟩) nk ck := ⟨(heap_setCell_other wr ⟨w.heap.size + 1, p, none⟩ gb _ (by simp; omega)).trans hbx.heap⟩
            have hBW : Below w.heap.size w (wr.setCell ⟨w.heap.size + 1, p, none⟩ (.int .i64 (v + 1))) := hbq.setCell (by simp) _
            have HOK : Hid (opn xs t k) := by show opn xs t k; unfold opn; intro h; rw [← HX.out] at h; exact absurd h h6
            have F5 : Hid (_ ∧ _ ∧ _ ∧ _) := ⟨B1, B0, Bx, hBW⟩
            clear hc2 hp hin nx ny hv hbt h6 har0 har1 hbx q0 f0 v0 B0 B1 Bx hBW
            go_wp2
            go_roundw
            case rel =>
              refine ⟨k + 1, by omega, by go_num, F5.out.1, F5.out.2.1, F5.out.2.2.1, fun k' hk' => ?_, F5.out.2.2.2⟩
              by_cases hkk : k' = k
              · subst hkk; exact HOK.out
              · exact HK.out k' (by omega)
            case measure => simp [intOf]; omega
        · obtain rfl : nk = k := by omega
          have hle : (xs.getD t default).kids.length ≤ nk := by rw [← HX.out, HR.out.len]; exact Nat.le_refl _
          rw [cAt_all true xs t nk hle] at har0
          rw [cAt_all false xs t nk hle] at har1
          have F5 : Hid (_ ∧ _ ∧ _) := ⟨har0, har1, hbq⟩
          have HLE : Hid ((xs.getD t default).kids.length ≤ nk) := hle
          clear har0 har1 hbq hle hbx
          go_wp2
          go_roundw
          case rel =>
            refine ⟨t + 1, by omega, by go_num, F5.out.1, F5.out.2.1, fun t' ht' k' hk' => ?_, F5.out.2.2⟩
            by_cases htt : t' = t
            · subst htt; exact HK.out k' (Nat.lt_of_lt_of_le hk' HLE.out)
            · exact HO.out t' (by omega) k' hk'
          case measure => simp [intOf]; omega
    · obtain rfl : n = t := by omega
      have F0 : Hid (_ ∧ _ ∧ _) := ⟨har0, har1, hbr⟩
      have BS : Hid (_) := cN_bounds true xs n H12.out n
      have BO : Hid (_) := cN_bounds false xs n H12.out n
      clear har0 har1 hbr
      go_wp2
      go_loopw [60] (fun i wq => ∃ t2 : Nat, t2 ≤ n ∧ i = .int .i64 t2 ∧ Arr wq w.heap.size (cN true xs n) ∧ Arr wq (w.heap.size + 1) (cN false xs n) ∧ Hid (∀ t', t' < t2 → useP xs (cN true xs n) (cN false xs n) t') ∧ Below w.heap.size w wq) (fun i _ => n - (intOf i).toNat)
      case atStart => exact ⟨0, Nat.zero_le _, rfl, F0.out.1, F0.out.2.1, fun t' h' => absurd h' (Nat.not_lt_zero _), F0.out.2.2⟩
      case round =>
        obtain ⟨t2, ht2, rfl, har0, har1, HU, hbq⟩ := hrel
        by_cases htn2 : t2 < n
        · obtain ⟨b, off, rfl, hlb, ak, nk, ck, hcs, _, _⟩ := HS.out.get t2 htn2
          obtain ⟨x, hx⟩ : ∃ x, x = xs.getD t2 default := ⟨_, rfl⟩
          rw [← hx] at hcs
          have HX : Hid (x = xs.getD t2 default) := hx
          obtain ⟨c0, c1, c2, c3, c4, c5⟩ := hcs.of (w' := wr) (fun i => hbq.cell (p := ⟨b, i, none⟩) hlb)
          have hs := hbq.size
          have l0 := har0.lt
          have l1 := har1.lt
          have i1 : (t2 : Int) < (n : Int) := by omega
          have i2 : (t2 : Int) < 40 := by omega
          have q0 := har0.cell t2 (by omega)
          have q1 := har1.cell t2 (by omega)
          have v0 := BS.out t2 (Nat.le_refl _)
          have v1 := BO.out t2 (Nat.le_refl _)
          obtain ⟨sv, hsv⟩ : ∃ sv, sv = cN true xs n t2 := ⟨_, rfl⟩
          obtain ⟨ov, hov⟩ : ∃ ov, ov = cN false xs n t2 := ⟨_, rfl⟩
          rw [← hsv] at q0 v0
          rw [← hov] at q1 v1
          have HUS : Hid (useP xs (cN true xs n) (cN false xs n) t2 ↔ ((x.opt = true → sv ≠ 0 ∧ ov = 0) ∧ (x.kind = 9 → sv = 1 ∧ ov = 0))) := by show _ ↔ _; unfold useP; rw [← hx, ← hsv, ← hov]
          have hBA : ∀ o, Below w.heap.size w (wr.alloc o) := fun o => hbq.alloc hs o
          have A0 : ∀ o, Arr (wr.alloc o) w.heap.size (cN true xs n) := fun o => har0.kept (alloc_old _ _ _ l0)
          have A1 : ∀ o, Arr (wr.alloc o) (w.heap.size + 1) (cN false xs n) := fun o => har1.kept (alloc_old _ _ _ l1)
          have F5 : Hid (_ ∧ _) := ⟨A0, A1⟩
          obtain ⟨op, hop⟩ : ∃ op, op = x.opt := ⟨_, rfl⟩
          rw [← hop] at c4 HUS
          clear hcs hx hsv hov har0 har1 A0 A1 hop
          cases op with
          | true =>
            by_cases hs0 : sv = 0
            · have z0 : (sv == 0) = true := by simp [hs0]
              have HN : Hid (¬ useP xs (cN true xs n) (cN false xs n) t2) := by show ¬ _; rw [HUS.out]; simp; omega
              clear HUS
              go_wp2
              go_ret
              refine ⟨false, rfl, ?_, hBA _⟩
              show _ ↔ _
              simp only [Bool.false_eq_true, false_iff]
              intro hP
              have := hP.2 t2 (by rw [HL.out]; exact htn2)
              rw [HL.out] at this
              exact HN.out this
            · have z0 : (sv == 0) = false := by simp [hs0]
              by_cases ho : ov > 0
              · skip
                have HN : Hid (¬ useP xs (cN true xs n) (cN false xs n) t2) := by show ¬ _; rw [HUS.out]; simp; omega
                clear HUS
                go_wp2
                go_ret
                refine ⟨false, rfl, ?_, hBA _⟩
                show _ ↔ _
                simp only [Bool.false_eq_true, false_iff]
                intro hP
                have := hP.2 t2 (by rw [HL.out]; exact htn2)
                rw [HL.out] at this
                exact HN.out this
              · skip
                by_cases h9 : x.kind = 9
                · have z9 : (x.kind == 9) = true := by simp [h9]
                  by_cases hs1 : sv = 1
                  · have z1 : (sv != 1) = false := by simp [hs1]
                    have HN : Hid (useP xs (cN true xs n) (cN false xs n) t2) := by show useP _ _ _ _; rw [HUS.out]; simp; omega
                    clear HUS
                    go_wp2
                    go_roundw
                    case rel =>
                      refine ⟨t2 + 1, by omega, by go_num, F5.out.1 _, F5.out.2 _, fun t' ht' => ?_, hBA _⟩
                      by_cases htt : t' = t2
                      · subst htt; exact HN.out
                      · exact HU.out t' (by omega)
                    case measure => simp [intOf]; omega
                  · have z1 : (sv != 1) = true := by simp [hs1]
                    have HN : Hid (¬ useP xs (cN true xs n) (cN false xs n) t2) := by show ¬ _; rw [HUS.out]; simp; omega
                    clear HUS
                    go_wp2
                    go_ret
                    refine ⟨false, rfl, ?_, hBA _⟩
                    show _ ↔ _
                    simp only [Bool.false_eq_true, false_iff]
                    intro hP
                    have := hP.2 t2 (by rw [HL.out]; exact htn2)
                    rw [HL.out] at this
                    exact HN.out this
                · have z9 : (x.kind == 9) = false := by simp [h9]
                  have HN : Hid (useP xs (cN true xs n) (cN false xs n) t2) := by show useP _ _ _ _; rw [HUS.out]; simp; omega
                  clear HUS
                  go_wp2
                  go_roundw
                  case rel =>
                    refine ⟨t2 + 1, by omega, by go_num, F5.out.1 _, F5.out.2 _, fun t' ht' => ?_, hBA _⟩
                    by_cases htt : t' = t2
                    · subst htt; exact HN.out
                    · exact HU.out t' (by omega)
                  case measure => simp [intOf]; omega
          | false =>
            by_cases h9 : x.kind = 9
            · have z9 : (x.kind == 9) = true := by simp [h9]
              by_cases hs1 : sv = 1
              · have z1 : (sv != 1) = false := by simp [hs1]
                by_cases ho : ov > 0
                · skip
                  have HN : Hid (¬ useP xs (cN true xs n) (cN false xs n) t2) := by show ¬ _; rw [HUS.out]; simp; omega
                  clear HUS
                  go_wp2
                  go_ret
                  refine ⟨false, rfl, ?_, hBA _⟩
                  show _ ↔ _
                  simp only [Bool.false_eq_true, false_iff]
                  intro hP
                  have := hP.2 t2 (by rw [HL.out]; exact htn2)
                  rw [HL.out] at this
                  exact HN.out this
                · skip
                  have HN : Hid (useP xs (cN true xs n) (cN false xs n) t2) := by show useP _ _ _ _; rw [HUS.out]; simp; omega
                  clear HUS
                  go_wp2
                  go_roundw
                  case rel =>
                    refine ⟨t2 + 1, by omega, by go_num, F5.out.1 _, F5.out.2 _, fun t' ht' => ?_, hBA _⟩
                    by_cases htt : t' = t2
                    · subst htt; exact HN.out
                    · exact HU.out t' (by omega)
                  case measure => simp [intOf]; omega
              · have z1 : (sv != 1) = true := by simp [hs1]
                have HN : Hid (¬ useP xs (cN true xs n) (cN false xs n) t2) := by show ¬ _; rw [HUS.out]; simp; omega
                clear HUS
                go_wp2
                go_ret
                refine ⟨false, rfl, ?_, hBA _⟩
                show _ ↔ _
                simp only [Bool.false_eq_true, false_iff]
                intro hP
                have := hP.2 t2 (by rw [HL.out]; exact htn2)
                rw [HL.out] at this
                exact HN.out this
            · have z9 : (x.kind == 9) = false := by simp [h9]
              have HN : Hid (useP xs (cN true xs n) (cN false xs n) t2) := by show useP _ _ _ _; rw [HUS.out]; simp; omega
              clear HUS
              go_wp2
              go_roundw
              case rel =>
                refine ⟨t2 + 1, by omega, by go_num, F5.out.1 _, F5.out.2 _, fun t' ht' => ?_, hBA _⟩
                by_cases htt : t' = t2
                · subst htt; exact HN.out
                · exact HU.out t' (by omega)
              case measure => simp [intOf]; omega
        · obtain rfl : n = t2 := by omega
          go_wp2
          go_ret
          refine ⟨true, rfl, ?_, hbq⟩
          show _ ↔ _
          simp only [true_iff]
          refine ⟨fun t' h' k' hk' => HO.out t' (by rw [HL.out] at h'; exact h') k' hk', fun t' h' => ?_⟩
          rw [HL.out] at h' ⊢
          exact HU.out t' h'

end Go.Proofs.YtaiflnccpgcklaaDoor
