import Derived.Test.YtjechndhgkkpeaaDD2
import Derived.Test.YtjechndhgkkpeaaGJ2
import Derived.Test.YtjechndhgkkpeaaGJ3
import Derived.Test.YtjechndhgkkpeaaRG1
import Derived.Test.YtjechndhgkkpeaaGH3
namespace Go.Proofs.Ytjechndhgkkpeaa
open Go.RowKit

theorem SharesP.drop {s : Int} {ms : List Int} {ps : List (Int × Int)} (h : SharesP s ms ps) (k : Nat) : SharesP s ms (ps.drop k) :=
  ⟨fun p hp => h.at_ p (List.mem_of_mem_drop hp), fun p hp => h.val p (List.mem_of_mem_drop hp), by
    have : ats (ps.drop k) = (ats ps).drop k := by simp [ats, List.map_drop]
    rw [this]
    exact h.one.sublist (List.drop_sublist _ _)⟩
/-- Who signs: the places behind the first F. -/
def whoL (F q : Nat) : List Int := (List.range q).map fun t => ((F + t + 1 : Nat) : Int)
theorem whoL_len (F q : Nat) : (whoL F q).length = q := by simp [whoL]
theorem whoL_next (F q : Nat) : whoL F (q + 1) = whoL F q ++ [((F + q + 1 : Nat) : Int)] := by simp [whoL, List.range_succ]
theorem whoL_ats (s : Int) (ms : List Int) (N F : Nat) : ats ((dealL s ms N).drop F) = whoL F (N - F) := by
  apply List.ext_getElem
  · simp [ats, dealL, whoL]
  · intro i h1 h2
    simp [ats, dealL, whoL, dealt]
theorem dropped_get (s : Int) (ms : List Int) (N F t : Nat) (h : F + t < N) : ((dealL s ms N).drop F).getD t (0, 0) = dealt s ms (F + t) := by
  rw [List.getD_eq_getElem?_getD, List.getElem?_drop, ← List.getD_eq_getElem?_getD, dealL_get s ms N _ h]
def byN (bs : List Int) (i : Nat) (m : Int) : Int := if i < bs.length then bs.getD i 0 % m else 0
/-- The number that the custodian at the place i draws. -/
def kN (bs : List Int) (i : Nat) : Int := 3 + byN bs (1 + i) 200
theorem kN_bd (bs : List Int) (i : Nat) : 3 ≤ kN bs i ∧ kN bs i ≤ 202 := by
  unfold kN byN
  split
  · omega
  · omega
def rN (bs : List Int) (F : Nat) : Nat → Int
  | 0 => 1
  | q + 1 => rN bs F q * keyOf (kN bs (F + q)) % 1000000007
def kS (bs : List Int) (F : Nat) : Nat → Int
  | 0 => 0
  | q + 1 => kS bs F q + kN bs (F + q)
theorem kS_pos (bs : List Int) (F q : Nat) : 0 ≤ kS bs F q := by
  induction q with
  | zero => exact Int.le_refl _
  | succ q ih =>
    have := kN_bd bs (F + q)
    show 0 ≤ kS bs F q + kN bs (F + q)
    omega
theorem rN_gp (bs : List Int) (F q : Nat) : rN bs F q = gp 4 (kS bs F q) := by
  induction q with
  | zero => show (1 : Int) = gp 4 0; decide
  | succ q ih =>
    have hk := kN_bd bs (F + q)
    have hs := kS_pos bs F q
    have e : keyOf (kN bs (F + q)) = gp 4 (kN bs (F + q)) := if_pos ⟨by omega, by omega⟩
    show rN bs F q * keyOf (kN bs (F + q)) % 1000000007 = gp 4 (kS bs F q + kN bs (F + q))
    rw [ih, e]
    unfold gp
    rw [show (kS bs F q + kN bs (F + q)).toNat = (kS bs F q).toNat + (kN bs (F + q)).toNat by omega, ← pw_add]
theorem rN_bd (bs : List Int) (F q : Nat) : 0 ≤ rN bs F q ∧ rN bs F q ≤ 1000000006 := by
  rw [rN_gp]
  have := gp_bd 4 (kS bs F q)
  omega
/-- The part of the custodian at the place F + t. -/
def ptN (s : Int) (ms bs : List Int) (N F : Nat) (e : Int) (t : Nat) : Int := (kN bs (F + t) + e * (lamL (whoL F (N - F)) (dealt s ms (F + t)).1 * (dealt s ms (F + t)).2 % 500000003)) % 500000003
theorem ptN_bd (s : Int) (ms bs : List Int) (N F : Nat) (e : Int) (t : Nat) : expP (ptN s ms bs N F e t) := by
  unfold ptN expP
  omega
theorem whoL_who (s : Int) (ms : List Int) (N F : Nat) (hN : N ≤ 20) (hF : F < N) : whoP (whoL F (N - F)) := by
  rw [← whoL_ats s ms N F]
  exact ((shares_dealt s ms N hN).drop F).who (by rw [List.length_drop, dealL_len]; omega) (by rw [List.length_drop, dealL_len]; omega)
theorem part_is (s : Int) (ms bs : List Int) (N F : Nat) (e : Int) (t : Nat) (hN : N ≤ 20) (ht : F + t < N) (he : expP e) : partR (dealt s ms (F + t)) (whoL F (N - F)) (kN bs (F + t)) e = (ptN s ms bs N F e t, true) := by
  have hw := whoL_who s ms N F hN (by omega)
  have hm : (dealt s ms (F + t)).1 ∈ whoL F (N - F) := by
    unfold whoL
    rw [List.mem_map]
    exact ⟨t, List.mem_range.2 (by omega), rfl⟩
  have hl : lamR (whoL F (N - F)) (dealt s ms (F + t)).1 = (lamL (whoL F (N - F)) (dealt s ms (F + t)).1, true) := if_pos ⟨hw, hm⟩
  have hk := kN_bd bs (F + t)
  have hp : partP (dealt s ms (F + t)) (whoL F (N - F)) (kN bs (F + t)) e := ⟨by rw [hl], valN_bd _ _ _, he, ⟨by omega, by omega⟩⟩
  unfold partR
  rw [if_pos hp, hl]
  rfl
def prtL (s : Int) (ms bs : List Int) (N F : Nat) (e : Int) (q : Nat) : List Int := (List.range q).map (ptN s ms bs N F e)
theorem prtL_next (s : Int) (ms bs : List Int) (N F : Nat) (e : Int) (q : Nat) : prtL s ms bs N F e (q + 1) = prtL s ms bs N F e q ++ [ptN s ms bs N F e q] := by simp [prtL, List.range_succ]
theorem prtL_len (s : Int) (ms bs : List Int) (N F : Nat) (e : Int) (q : Nat) : (prtL s ms bs N F e q).length = q := by simp [prtL]
theorem parts_sum (s : Int) (ms bs : List Int) (N F : Nat) (e : Int) (q : Nat) (hq : F + q ≤ N) : Cg QI (sumF (ptN s ms bs N F e) q) (kS bs F q + e * sumF (rterm ((dealL s ms N).drop F)) q) := by
  induction q with
  | zero => exact Cg.of_eq (by simp [sumF, kS])
  | succ q ih =>
    have h1 := ih (by omega)
    have hr : rterm ((dealL s ms N).drop F) q = lamL (whoL F (N - F)) (dealt s ms (F + q)).1 * (dealt s ms (F + q)).2 % 500000003 := by
      unfold rterm
      rw [ats_get _ q (by rw [List.length_drop, dealL_len]; omega), vls_get _ q (by rw [List.length_drop, dealL_len]; omega), dropped_get s ms N F q (by omega), whoL_ats s ms N F]
    show Cg QI ((sumF (ptN s ms bs N F e) q + ptN s ms bs N F e q) % 500000003) (kS bs F q + kN bs (F + q) + e * ((sumF (rterm ((dealL s ms N).drop F)) q + rterm ((dealL s ms N).drop F) q) % 500000003))
    have e1 : Cg QI ((sumF (ptN s ms bs N F e) q + ptN s ms bs N F e q) % 500000003) (sumF (ptN s ms bs N F e) q + ptN s ms bs N F e q) := cg_mod _
    have e2 : Cg QI ((sumF (rterm ((dealL s ms N).drop F)) q + rterm ((dealL s ms N).drop F) q) % 500000003) (sumF (rterm ((dealL s ms N).drop F)) q + rterm ((dealL s ms N).drop F) q) := cg_mod _
    have e3 : Cg QI (ptN s ms bs N F e q) (kN bs (F + q) + e * rterm ((dealL s ms N).drop F) q) := by rw [hr]; exact cg_mod _
    refine e1.trans ((h1.add e3).trans ?_)
    refine Cg.trans (Cg.of_eq ?_) ((Cg.rfl' (a := kS bs F q + kN bs (F + q))).add (Cg.mul (Cg.rfl' (a := e)) e2)).symm
    grind
theorem together (s : Int) (ms bs msg : List Int) (N F : Nat) (hs : expP s) (h0 : s ≠ 0) (hN : N ≤ 20) (hF : F + ms.length + 1 ≤ N) (e : Int) (he : e = chalN (rN bs F (N - F)) (keyOf s) msg) :
    ∃ S, joinR (prtL s ms bs N F e (N - F)) e = ((e, S), true) ∧ verP (keyOf s) msg (e, S) := by
  have hse : secP s := by unfold secP; unfold expP at hs; omega
  have hee : expP e := by rw [he]; exact chalN_bd _ _ _
  have hk : keyOf s = gp 4 s := if_pos hse
  have hj : joinR (prtL s ms bs N F e (N - F)) e = ((e, sumF (fun j => (prtL s ms bs N F e (N - F)).getD j 0) (prtL s ms bs N F e (N - F)).length), true) := by
    unfold joinR
    rw [if_pos]
    refine ⟨by rw [prtL_len]; omega, hee, ?_⟩
    intro j hj
    rw [prtL_len] at hj
    have : (prtL s ms bs N F e (N - F)).getD j 0 = ptN s ms bs N F e j := by simp [prtL, hj]
    rw [this]
    exact ptN_bd _ _ _ _ _ _ _
  refine ⟨_, hj, ?_⟩
  rw [prtL_len]
  have e0 : sumF (fun j => (prtL s ms bs N F e (N - F)).getD j 0) (N - F) = sumF (ptN s ms bs N F e) (N - F) := sumF_congr _ _ _ (fun j hj => by simp [prtL, hj])
  rw [e0]
  have hps := (shares_dealt s ms N hN).drop F
  have hlen : ((dealL s ms N).drop F).length = N - F := by rw [List.length_drop, dealL_len]
  have hback := deal_restored s ms ((dealL s ms N).drop F) hs (apart_of hps.one hps.ats_at) (by rw [hlen]; omega) (fun j hj => by rw [vls_get _ j hj, ats_get _ j hj]; exact hps.val _ (getD_memD _ (0, 0) j hj))
  rw [hlen] at hback
  have hsum := parts_sum s ms bs N F e (N - F) (by omega)
  rw [hback] at hsum
  have hb := sumF_bd (ptN s ms bs N F e) (N - F)
  have hS : sumF (ptN s ms bs N F e) (N - F) = (kS bs F (N - F) + e * s) % 500000003 := by
    have := mod_of_cg hsum
    rw [Int.emod_eq_of_lt hb.1 hb.2] at this
    exact this
  rw [hS]
  have hm := moved_back (kS bs F (N - F)) e s (kS_pos _ _ _) hee hse
  refine ⟨by rw [hk]; exact keyP_of s hse, hee, ⟨Int.emod_nonneg _ (by decide), by have := Int.emod_lt_of_pos (kS bs F (N - F) + e * s) (show (0 : Int) < 500000003 by decide); show (kS bs F (N - F) + e * s) % 500000003 ≤ 500000002; omega⟩, ?_⟩
  show e = chalN (movN 1 (keyOf s) ((kS bs F (N - F) + e * s) % 500000003) e) (keyOf s) msg
  rw [hk] at he ⊢
  rw [hm, ← rN_gp]
  exact he

end Go.Proofs.Ytjechndhgkkpeaa
