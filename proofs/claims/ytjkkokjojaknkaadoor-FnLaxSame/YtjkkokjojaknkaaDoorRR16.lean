import Derived.Test.YtjkkokjojaknkaaDoorRR15
import Derived.Great.BuildSlice
namespace Go.Proofs.YtjkkokjojaknkaaDoor
open Go.RowKit

theorem infoSizeIt : (Tryd.prog.info? 26).map (·.size) = some 5 := by kernel_rfl
theorem touch_setRow16 (w : World) (g : Nat) (cs : Array Value) : Touch g (g + 1) w (w.setRow g cs) := ⟨rfl, rfl, rfl, by simp [World.setRow], fun k _ hk => by simp only [World.setRow]; rw [Array.getElem?_modify]; simp [show ¬ g = k by omega]⟩
theorem ownB_nil16 (lo hi : Nat) (w : World) : OwnB lo hi w none 0 0 [] := ⟨own_none _ _, fun _ h => by cases h⟩

theorem lenR_small {lax co : Bool} {bs : List Int} {q e q2 m : Nat} (hb : ∀ i, 0 ≤ bs.getD i 0 ∧ bs.getD i 0 ≤ 255) (he : e ≤ bs.length) (hl : lenR lax co bs q e = .ok (some m) q2) : m < 4294967296 := by
  unfold lenR at hl
  by_cases h0 : q = e
  · rw [if_pos h0] at hl; cases hl
  rw [if_neg h0] at hl
  by_cases h1 : bs.getD q 0 < 128
  · rw [if_pos h1] at hl; cases hl; omega
  rw [if_neg h1] at hl
  by_cases h2 : bs.getD q 0 = 128 ∧ lax = true ∧ co = true
  · rw [if_pos h2] at hl; cases hl
  rw [if_neg h2] at hl
  by_cases h3 : bs.getD q 0 = 128 ∨ 132 < bs.getD q 0
  · rw [if_pos h3] at hl; cases hl
  rw [if_neg h3] at hl
  by_cases h4 : e < q + 1 + (bs.getD q 0 - 128).toNat
  · rw [if_pos h4] at hl; cases hl
  rw [if_neg h4] at hl
  by_cases h5 : lax = false ∧ (bs.getD (q + 1) 0 = 0 ∨ digR bs (q + 1) (bs.getD q 0 - 128).toNat < 128)
  · rw [if_pos h5] at hl; cases hl
  rw [if_neg h5] at hl
  have hk : (bs.getD q 0 - 128).toNat ≤ 4 := by omega
  obtain ⟨k, hkk⟩ : ∃ k, k = (bs.getD q 0 - 128).toNat := ⟨_, rfl⟩
  rw [← hkk] at hl hk h4
  have hd := digR_bounds bs (q + 1) hb k (by omega)
  have hp4 : (256 : Int) ^ k ≤ 4294967296 := by
    have hc : k = 0 ∨ k = 1 ∨ k = 2 ∨ k = 3 ∨ k = 4 := by omega
    rcases hc with rfl | rfl | rfl | rfl | rfl <;> decide
  cases hl
  omega
theorem lenR_open {lax co : Bool} {bs : List Int} {q e q2 : Nat} (hl : lenR lax co bs q e = .ok none q2) : co = true := by
  by_cases hc : co = true
  · exact hc
  · unfold lenR at hl
    obtain rfl : co = false := by cases co <;> simp_all
    simp only [Bool.false_eq_true, and_false, if_false] at hl
    split at hl
    · cases hl
    · split at hl
      · cases hl
      · split at hl
        · cases hl
        · split at hl
          · cases hl
          · split at hl <;> cases hl

set_option maxRecDepth 10000 in
set_option maxHeartbeats 16000000 in
theorem sitemC_zero (RB : Nat) (lax : Bool) (bs : List Int) (n cap : Nat) (a : Option Addr) : SItemC RB lax bs n cap a 0 := by
  intro p e pl w h hin hbx hpe he
  have hRBw := hbx.lt
  obtain ⟨b0, b1⟩ := two_blocks w (.cells #[.int .i64 0, .int .i64 0, .bool false, .slice none 0 0, .slice none 0 0] 26) (.cells #[.int .i64 0, .int .i64 0, .bool false, .slice none 0 0, .slice none 0 0] 26)
  have hB0 : Below w.heap.size w ((w.alloc (.cells #[.int .i64 0, .int .i64 0, .bool false, .slice none 0 0, .slice none 0 0] 26)).alloc (.cells #[.int .i64 0, .int .i64 0, .bool false, .slice none 0 0, .slice none 0 0] 26)) := ((Below.refl _ _).alloc (Nat.le_refl _) _).alloc (by simp) _
  have hS0 : ((w.alloc (.cells #[.int .i64 0, .int .i64 0, .bool false, .slice none 0 0, .slice none 0 0] 26)).alloc (.cells #[.int .i64 0, .int .i64 0, .bool false, .slice none 0 0, .slice none 0 0] 26)).heap.size = w.heap.size + 2 := by simp
  have hbx0 := hbx.kept hB0
  have hf : Hid (itemR lax bs 0 p e = .no 5 p) := by show _ = _; rw [itemR]
  clear h hbx
  go_enter Tryd.func44, Tryd.ntmps44
  go_upto_region 2 with fail
  obtain ⟨W, hW⟩ : ∃ W, W = ((w.alloc (.cells #[.int .i64 0, .int .i64 0, .bool false, .slice none 0 0, .slice none 0 0] 26)).alloc (.cells #[.int .i64 0, .int .i64 0, .bool false, .slice none 0 0, .slice none 0 0] 26)) := ⟨_, rfl⟩
  rw [← hW] at b0 b1 hB0 hS0 hbx0 ⊢
  clear hW
  have TW : Hid (Touch RB (RB + 1) w W) := Touch.of_below hB0
  have FA : ∀ (c p : Int), Hid (Calls Tryd.prog 45 #[.pointer (some ⟨RB, 0, none⟩), .int .i64 c, .int .i64 p] W fun e w' => e = .returned (.tuple #[]) ∧ RBox RB w' a n cap lax c p ∧ Touch RB (RB + 1) W w') := fun c p => fail_any RB a n cap lax pl c p W hbx0
  have FX : ∀ w1, Touch RB (RB + 1) W w1 → Hid (w1.heap[w.heap.size]? = some (.cells #[.int .i64 0, .int .i64 0, .bool false, .slice none 0 0, .slice none 0 0] 26 (0, 0)) ∧ w1.heap[w.heap.size + 1]? = some (.cells #[.int .i64 0, .int .i64 0, .bool false, .slice none 0 0, .slice none 0 0] 26 (0, 0))) := fun w1 t1 => ⟨(t1.block _ (by omega) (.inr (by omega))).trans b0, (t1.block _ (by omega) (.inr (by omega))).trans b1⟩
  go_upto_region 4 with (go_at_call 45; refine (FA 5 (p : Int)).out.mono ?_; rintro e w9 ⟨rfl, hbx9, t9⟩)
  obtain ⟨x8, xG⟩ := (FX w9 t9).out
  have hs9 := t9.size
  have X8 : Hid (_ = _) := x8
  have XG : Hid (_ = _) := xG
  have TX : Hid (Touch RB (RB + 1) w w9) := TW.out.trans t9
  clear x8 xG
  go_wp2_with (first | (refine wpList_load_row rfl 26 _ rfl (w.heap.size + 1) rfl 26 #[.int .i64 0, .int .i64 0, .bool false, .slice none 0 0, .slice none 0 0] (0, 0) _ XG.out Tryd.underlying26 rfl infoSizeIt ?_) | (refine wpList_store_rowTo rfl 26 _ _ rfl rfl (w.heap.size) #[.int .i64 0, .int .i64 0, .bool false, .slice none 0 0, .slice none 0 0] rfl rfl 26 #[.int .i64 0, .int .i64 0, .bool false, .slice none 0 0, .slice none 0 0] X8.out infoSizeIt rfl (by simp [Value.oneCell']) ?_))
  have q4 := setRow_heap w9 (w.heap.size) _ #[.int .i64 0, .int .i64 0, .bool false, .slice none 0 0, .slice none 0 0] 26 (0, 0) X8.out
  have tt : Touch (w.heap.size) (w.heap.size + 1) w9 (w9.setRow (w.heap.size) #[.int .i64 0, .int .i64 0, .bool false, .slice none 0 0, .slice none 0 0]) := touch_setRow16 _ _ _
  have tse : (w9.setRow (w.heap.size) #[.int .i64 0, .int .i64 0, .bool false, .slice none 0 0, .slice none 0 0]).heap.size = w9.heap.size := by simp
  try simp only [Exit.inBlock, Exit.then]
  refine bodyPost_ret (results_item2 rfl _ (w.heap.size) rfl _ _ _ _ _ _ q4) rfl ?_
  refine ⟨TX.out.news tt (by omega), ?_⟩
  rw [hf.out]
  exact ⟨⟨_, _, rfl, _, _, _, _, _, _, _, _, _, rfl⟩, (tt.block RB (by omega) (.inl (by omega))).trans hbx9⟩

/-- Which way the item at p goes: a fault in its head, open, long or a leaf, of kids. -/
def kindL (co : Bool) (e : Nat) (R : Rs (Option Nat)) : Nat := match R with
  | .no _ _ => 0
  | .ok none _ => 1
  | .ok (some m) q2 => if co = true ∧ ¬ e < q2 + m then 3 else 2
def kindT (lax co : Bool) (bs : List Int) (e : Nat) (R : Rs Int) : Nat := match R with
  | .no _ _ => 0
  | .ok _ q => kindL co e (lenR lax co bs q e)
def kindI (lax : Bool) (bs : List Int) (p e : Nat) : Nat := if p = e then 0 else kindT lax (consN bs p) bs e (tagR lax bs p e)
theorem kind_pe (lax : Bool) (bs : List Int) (p : Nat) : kindI lax bs p p = 0 := if_pos rfl
theorem kind_no {lax : Bool} {bs : List Int} {p e c q : Nat} (h : tagR lax bs p e = .no c q) : kindI lax bs p e = 0 := by
  unfold kindI
  split
  · rfl
  · rw [h]; rfl
theorem kind_ok {lax : Bool} {bs : List Int} {p e q : Nat} {t : Int} (hpe : ¬ p = e) (h : tagR lax bs p e = .ok t q) : kindI lax bs p e = kindL (consN bs p) e (lenR lax (consN bs p) bs q e) := by
  unfold kindI
  rw [if_neg hpe, h]; rfl
theorem kind_range (lax : Bool) (bs : List Int) (p e : Nat) : kindI lax bs p e = 0 ∨ kindI lax bs p e = 1 ∨ kindI lax bs p e = 2 ∨ kindI lax bs p e = 3 := by
  unfold kindI
  split
  · exact .inl rfl
  · unfold kindT
    split
    · exact .inl rfl
    · unfold kindL
      split
      · exact .inl rfl
      · exact .inr (.inl rfl)
      · split
        · exact .inr (.inr (.inr rfl))
        · exact .inr (.inr (.inl rfl))

end Go.Proofs.YtjkkokjojaknkaaDoor
