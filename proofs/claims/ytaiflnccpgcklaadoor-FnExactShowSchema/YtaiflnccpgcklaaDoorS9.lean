import Derived.Test.YtaiflnccpgcklaaDoorS7
import Derived.Test.YtaiflnccpgcklaaDoorS8
namespace Go.Proofs.YtaiflnccpgcklaaDoor
open Go.RowKit

def schP (xs : List ST) : Prop := 1 ≤ xs.length ∧ xs.length ≤ 40 ∧ (∀ t, t < xs.length → fieldsP (xs.getD t default) ∧ behindP (xs.getD t default).kids t xs.length) ∧ levP xs ∧ parP xs
theorem fieldsP_12 {x : ST} (h : fieldsP x) : x.kids.length ≤ 12 := by
  unfold fieldsP at h
  omega

set_option maxRecDepth 10000 in
set_option maxHeartbeats 4000000 in
theorem implSchemaOk_any (a : Option Addr) (n c : Nat) (xs : List ST) (w : World) (h : Sts w a n xs) :
    Calls Tryd.prog 14 #[.slice a n c] w fun e w' => Tells (schP xs) w e w' := by
  have HS : Hid (Sts w a n xs) := h
  have HL : Hid (xs.length = n) := h.len
  have hn := h.max
  clear h
  by_cases h1 : n < 1
  · have z : (n : Int) < 1 := by omega
    have HN : Hid (¬ schP xs) := fun h => by have := h.1; rw [HL.out] at this; omega
    go_enter Tryd.func14, Tryd.ntmps14
    go_wp2
    go_ret
    exact ⟨false, rfl, (by show _ ↔ _; simp only [Bool.false_eq_true, false_iff]; exact HN.out), Below.refl _ _⟩
  · have z : ¬ (n : Int) < 1 := by omega
    by_cases h40 : n ≤ 40
    · have z2 : ¬ (n : Int) > 40 := by omega
      go_enter Tryd.func14, Tryd.ntmps14
      go_wp2
      go_loopw [15] (fun i wr => ∃ t : Nat, t ≤ n ∧ i = .int .i64 t ∧ Hid (∀ t', t' < t → fieldsP (xs.getD t' default) ∧ behindP (xs.getD t' default).kids t' n) ∧ Below w.heap.size w wr) (fun i _ => n - (intOf i).toNat)
      case atStart => exact ⟨0, Nat.zero_le _, rfl, fun t' ht => absurd ht (Nat.not_lt_zero _), Below.refl _ _⟩
      case round =>
        obtain ⟨t, ht, rfl, HA, hbr⟩ := hrel
        by_cases htn : t < n
        · obtain ⟨b, off, rfl, hlb, ak, nk, ck, hcs, hr, hnk⟩ := HS.out.get t htn
          obtain ⟨x, hx⟩ : ∃ x, x = xs.getD t default := ⟨_, rfl⟩
          rw [← hx] at hcs hr
          have HX : Hid (x = xs.getD t default) := hx
          obtain ⟨c0, c1, c2, c3, c4, c5⟩ := hcs.of (w' := wr) (fun i => hbr.cell (p := ⟨b, i, none⟩) hlb)
          have hs := hbr.size
          have t2 : (t : Int) < (n : Int) := by omega
          have hBA := hbr.alloc hs (.cells #[.int .i64 x.kind, .int .i64 x.lo, .int .i64 x.hi, .bool x.ext, .bool x.opt, .slice ak nk ck] 35)
          have BX : Hid (_) := boxS_new 35 wr x ak nk ck
          have HR : Hid (Row64 w ak nk x.kids) := hr
          clear hcs hx hr
          go_wp2_with fail
          refine (fieldsOk_any x ak nk ck _ HR.out.len hnk).mono ?_
          rintro e w2 ⟨bv, rfl, hbv, hb2⟩
          have hB2 : Below w.heap.size w w2 := hBA.trans (hb2.mono hBA.size)
          obtain ⟨d0, d1, d2, d3, d4, d5⟩ := (BX.out.kept hb2).cells
          clear hb2 hBA
          cases bv with
          | false =>
            have HN : Hid (¬ schP xs) := fun h => by have := hbv.out.mpr (by rw [HX.out]; exact (h.2.2.1 t (by rw [HL.out]; exact htn)).1); cases this
            go_wp2
            go_ret
            exact ⟨false, rfl, (by show _ ↔ _; simp only [Bool.false_eq_true, false_iff]; exact HN.out), hB2⟩
          | true =>
            have HF : Hid (fieldsP x) := hbv.out.mp rfl
            clear hbv
            go_wp2_with fail
            refine (kidsBehind_any x ak nk ck (t : Int) (n : Int) _ (HR.out.kept hB2) hnk).mono ?_
            rintro e w3 ⟨bv, rfl, hbv, hb3⟩
            have hB3 : Below w.heap.size w w3 := hB2.trans (hb3.mono hB2.size)
            clear hb3
            cases bv with
            | false =>
              have HN : Hid (¬ schP xs) := fun h => by
                have h2 := (h.2.2.1 t (by rw [HL.out]; exact htn)).2
                rw [HL.out, ← HX.out] at h2
                have := hbv.out.mpr h2
                cases this
              go_wp2
              go_ret
              exact ⟨false, rfl, (by show _ ↔ _; simp only [Bool.false_eq_true, false_iff]; exact HN.out), hB3⟩
            | true =>
              have HBH : Hid (behindP x.kids t n) := hbv.out.mp rfl
              clear hbv
              go_wp2
              go_roundw
              case rel =>
                refine ⟨t + 1, by omega, by go_num, fun t' ht' => ?_, hB3⟩
                by_cases htt : t' = t
                · subst htt; rw [← HX.out]; exact ⟨HF.out, HBH.out⟩
                · exact HA.out t' (by omega)
              case measure => simp [intOf]; omega
        · obtain rfl : n = t := by omega
          go_wp2_with fail
          refine (levelsOk_any a n c xs _ (HS.out.kept hbr) (by omega) h40 (fun t' ht' => (HA.out t' ht').2)).mono ?_
          rintro e w2 ⟨bv, rfl, hbv, hb2⟩
          have hB2 : Below w.heap.size w w2 := hbr.trans (hb2.mono hbr.size)
          clear hb2
          cases bv with
          | false =>
            have HN : Hid (¬ schP xs) := fun h => by have := hbv.out.mpr h.2.2.2.1; cases this
            go_wp2
            go_ret
            exact ⟨false, rfl, (by show _ ↔ _; simp only [Bool.false_eq_true, false_iff]; exact HN.out), hB2⟩
          | true =>
            have HLV : Hid (levP xs) := hbv.out.mp rfl
            clear hbv
            go_wp2_with fail
            refine (parentsOk_any a n c xs _ (HS.out.kept hB2) (by omega) h40 (fun t' ht' => (HA.out t' ht').2) (fun t' ht' => fieldsP_12 (HA.out t' ht').1)).mono ?_
            rintro e w3 ⟨bv, rfl, hbv, hb3⟩
            have hB3 : Below w.heap.size w w3 := hB2.trans (hb3.mono hB2.size)
            have HE : Hid (bv = true ↔ schP xs) := by
              show _ ↔ _
              rw [hbv.out]
              constructor
              · intro hp
                exact ⟨by rw [HL.out]; omega, by rw [HL.out]; exact h40, fun t' ht' => by rw [HL.out] at ht' ⊢; exact HA.out t' ht', HLV.out, hp⟩
              · exact fun h => h.2.2.2.2
            clear hb3 hbv
            go_wp2
            go_ret
            exact ⟨bv, rfl, HE, hB3⟩
    · have z2 : (n : Int) > 40 := by omega
      have HN : Hid (¬ schP xs) := fun h => by have := h.2.1; rw [HL.out] at this; omega
      go_enter Tryd.func14, Tryd.ntmps14
      go_wp2
      go_ret
      exact ⟨false, rfl, (by show _ ↔ _; simp only [Bool.false_eq_true, false_iff]; exact HN.out), Below.refl _ _⟩

theorem cntK_pos (ks : List Int) (j : Nat) (hj : j < ks.length) (p : Nat) (h : (ks.getD j 0).toNat = p) : 1 ≤ cntK ks p := by
  have h1 := cntK_take ks j p hj
  rw [if_pos h] at h1
  have h2 := cntK_bounds (ks.take j) p
  have h3 := cntK_append (ks.take (j + 1)) (ks.drop (j + 1)) p
  rw [List.take_append_drop] at h3
  have h4 := cntK_bounds (ks.drop (j + 1)) p
  omega
theorem cntK_zero (ks : List Int) (p : Nat) (h : ∀ j, j < ks.length → (ks.getD j 0).toNat ≠ p) : cntK ks p = 0 := by
  induction ks with
  | nil => rfl
  | cons k ks ih =>
    have h0 := h 0 (by simp)
    simp only [cntK]
    rw [ih (fun j hj => by have := h (j + 1) (by simp; omega); simpa using this), if_neg (by simpa using h0)]
    rfl
theorem cN_pos (b : Bool) (xs : List ST) (n t j p : Nat) (ht : t < n) (hb : ((xs.getD t default).kind == 6) = b) (hj : j < (xs.getD t default).kids.length) (h : ((xs.getD t default).kids.getD j 0).toNat = p) : 1 ≤ cN b xs n p := by
  induction n with
  | zero => omega
  | succ n ih =>
    have h0 : 0 ≤ cN b xs n p := by
      clear ih ht
      induction n with
      | zero => exact Int.le_refl _
      | succ n ih2 =>
        unfold cN
        have := (cntK_bounds (xs.getD n default).kids p).1
        split <;> omega
    unfold cN
    by_cases htn : t = n
    · subst htn
      rw [if_pos hb]
      have := cntK_pos _ j hj p h
      omega
    · have := ih (by omega)
      have h2 := (cntK_bounds (xs.getD n default).kids p).1
      split <;> omega
theorem cN_zero (b : Bool) (xs : List ST) (n p : Nat) (h : ∀ t, t < n → ((xs.getD t default).kind == 6) = b → ∀ j, j < (xs.getD t default).kids.length → ((xs.getD t default).kids.getD j 0).toNat ≠ p) : cN b xs n p = 0 := by
  induction n with
  | zero => rfl
  | succ n ih =>
    unfold cN
    rw [ih (fun t ht => h t (by omega))]
    split
    · rename_i hb
      rw [cntK_zero _ p (h n (by omega) hb)]
      rfl
    · rfl

def useU (xs : List ST) (S O : Nat → Int) (t : Nat) : Prop := ((xs.getD t default).opt = true → S t ≠ 0 ∧ S t + O t = S t) ∧ ((xs.getD t default).kind = 9 → S t + O t = 1)
def spcP (xs : List ST) : Prop := 1 ≤ xs.length ∧ xs.length ≤ 40 ∧ (∀ t, t < xs.length → typP xs t) ∧ (∀ t, t < xs.length → useU xs (cN true xs xs.length) (cN false xs xs.length) t) ∧ levP xs

theorem sch_spc (xs : List ST) : schP xs ↔ spcP xs := by
  constructor
  · rintro ⟨h1, h40, hF, hL, hO, hU⟩
    have no : ∀ t i, t < xs.length → i < (xs.getD t default).kids.length → (xs.getD t default).kind ≠ 6 → ((xs.getD t default).kids.getD i 0).toNat < xs.length → (xs.getD ((xs.getD t default).kids.getD i 0).toNat default).opt = false ∧ (xs.getD ((xs.getD t default).kids.getD i 0).toNat default).kind ≠ 9 := by
      intro t i ht hi h6 hp
      have hpos := cN_pos false xs xs.length t i _ ht (by simpa using h6) hi rfl
      have hu := hU _ hp
      constructor
      · cases ho : (xs.getD ((xs.getD t default).kids.getD i 0).toNat default).opt with
        | false => rfl
        | true => have := (hu.1 ho).2; omega
      · intro h9
        have := (hu.2 h9).2
        omega
    refine ⟨h1, h40, fun t ht => ⟨fieldsP_12 (hF t ht).1, fun i hi => ?_, (hF t ht).1⟩, fun t ht => ?_, hL⟩
    · have hb := (hF t ht).2 i hi
      refine ⟨hb.1, hb.2, fun h6 => no t i ht hi h6 (by omega), fun h9 => ?_⟩
      by_cases h6 : (xs.getD t default).kind = 6
      · exact hO t ht i hi h6 h9
      · exact absurd h9 (no t i ht hi h6 (by omega)).2
    · have hu := hU t ht
      exact ⟨fun h => by have := hu.1 h; omega, fun h => by have := hu.2 h; omega⟩
  · rintro ⟨h1, h40, hT, hU, hL⟩
    refine ⟨h1, h40, fun t ht => ⟨(hT t ht).2.2, fun i hi => ?_⟩, hL, fun t ht i hi h6 h9 => ((hT t ht).2.1 i hi).2.2.2 h9, fun t ht => ?_⟩
    · have := (hT t ht).2.1 i hi
      exact ⟨this.1, this.2.1⟩
    · have hu := hU t ht
      refine ⟨fun h => by have := hu.1 h; omega, fun h => ?_⟩
      have hz : cN false xs xs.length t = 0 := cN_zero false xs xs.length t (fun t' ht' hb i hi he => by
        have hk := ((hT t' ht').2.1 i hi).2.2.1 (by simpa using hb)
        rw [he] at hk
        exact hk.2 h)
      have := hu.2 h
      omega

end Go.Proofs.YtaiflnccpgcklaaDoor
