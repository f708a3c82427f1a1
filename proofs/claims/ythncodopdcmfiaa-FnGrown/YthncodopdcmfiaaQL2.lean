import Derived.Test.YthncodopdcmfiaaQL1
import Derived.Lib.QuietBelow
import Derived.Laws.CopyOwn
namespace Go.Proofs.Ythncodopdcmfiaa
open Go.RowKit Go.Sort

/-- The root of a row. -/
def rootL (zs : List Int) : Int :=
  if zs.length = 0 then 0
  else if _h1 : zs.length ≤ 1 then zs.getD 0 0
  else pairN (rootL (zs.take (hk zs.length))) (rootL (zs.drop (hk zs.length)))
termination_by zs.length
decreasing_by
  · rw [List.length_take]; have := hk_lt (show 2 ≤ zs.length by omega); omega
  · rw [List.length_drop]; have := hk_pos zs.length; omega
theorem rootL_nil : rootL [] = 0 := by rw [rootL]; rfl
theorem rootL_one (x : Int) : rootL [x] = x := by rw [rootL]; simp
theorem rootL_more (zs : List Int) (h : 2 ≤ zs.length) : rootL zs = pairN (rootL (zs.take (hk zs.length))) (rootL (zs.drop (hk zs.length))) := by
  conv => lhs; rw [rootL]
  rw [if_neg (by omega), dif_neg (by omega)]
theorem rootL_bd (zs : List Int) (h : ∀ k, U64 (zs.getD k 0)) : U64 (rootL zs) := by
  rw [rootL]
  split
  · simp [U64]
  · split
    · exact h 0
    · exact pairN_bd _ _
theorem u64_drop {zs : List Int} (h : ∀ k, U64 (zs.getD k 0)) (j : Nat) : ∀ k, U64 ((zs.drop j).getD k 0) := by
  intro k
  have := h (j + k)
  simpa [List.getD_eq_getElem?_getD, List.getElem?_drop] using this
theorem RowU.drop {w : World} {b off n : Nat} {zs : List Int} (h : RowU w (some ⟨b, off, none⟩) n zs) (k : Nat) (hk : k ≤ n) : RowU w (some ⟨b, off + k, none⟩) (n - k) (zs.drop k) := by
  refine ⟨by rw [List.length_drop, h.len], fun j hj => ?_, u64_drop h.rng k⟩
  obtain ⟨b', off', ha, hb, hc⟩ := h.get (k + j) (by omega)
  simp at ha
  obtain ⟨rfl, rfl⟩ := ha
  exact ⟨b, off + k, rfl, hb, by rw [Nat.add_assoc, hc]; simp [List.getD_eq_getElem?_getD, List.getElem?_drop]⟩
/-- Neighbours paired, a last one without a neighbour as it is. -/
def pairUp : List Int → List Int
  | [] => []
  | [x] => [x]
  | x :: y :: r => pairN x y :: pairUp r
theorem pairUp_len : ∀ zs : List Int, (pairUp zs).length = (zs.length + 1) / 2
  | [] => rfl
  | [_] => by simp [pairUp]
  | x :: y :: r => by rw [pairUp, List.length_cons, pairUp_len r, List.length_cons, List.length_cons]; omega
theorem pairUp_get : ∀ (zs : List Int) (i : Nat), i < zs.length / 2 → (pairUp zs).getD i 0 = pairN (zs.getD (2 * i) 0) (zs.getD (2 * i + 1) 0)
  | [], i, h => by simp at h
  | [_], i, h => by simp at h
  | x :: y :: r, 0, _ => by simp [pairUp]
  | x :: y :: r, i + 1, h => by
    have := pairUp_get r i (by simp at h; omega)
    rw [pairUp, List.getD_cons_succ, this, show 2 * (i + 1) = 2 * i + 1 + 1 by omega]
    simp
theorem pairUp_last : ∀ (zs : List Int), zs.length % 2 = 1 → (pairUp zs).getD (zs.length / 2) 0 = zs.getD (zs.length - 1) 0
  | [], h => by simp at h
  | [_], h => by simp [pairUp]
  | x :: y :: r, h => by
    have := pairUp_last r (by simp at h; omega)
    rw [pairUp, List.length_cons, List.length_cons, show (r.length + 1 + 1) / 2 = r.length / 2 + 1 by omega, List.getD_cons_succ, this, show r.length + 1 + 1 - 1 = (r.length - 1) + 1 + 1 by simp at h; omega]
    simp
theorem pairUp_append : ∀ (a b : List Int), a.length % 2 = 0 → pairUp (a ++ b) = pairUp a ++ pairUp b
  | [], b, _ => rfl
  | [_], b, h => by simp at h
  | x :: y :: r, b, h => by
    have := pairUp_append r b (by simp at h; omega)
    show pairN x y :: pairUp (r ++ b) = pairN x y :: (pairUp r ++ pairUp b)
    rw [this]
theorem rootL_up : ∀ (m : Nat) (zs : List Int), zs.length ≤ m → rootL (pairUp zs) = rootL zs := by
  intro m
  induction m with
  | zero =>
    intro zs h
    rw [List.eq_nil_of_length_eq_zero (show zs.length = 0 by omega)]; rfl
  | succ m ih =>
    intro zs h
    match zs, h with
    | [], _ => rfl
    | [x], _ => rfl
    | [x, y], _ =>
      rw [show pairUp [x, y] = [pairN x y] from rfl, rootL_one, rootL_more [x, y] (by simp)]
      show _ = pairN (rootL [x]) (rootL [y])
      rw [rootL_one, rootL_one]
    | x :: y :: z :: r, h =>
      have h3 : 3 ≤ (x :: y :: z :: r).length := by simp
      generalize x :: y :: z :: r = zs at h h3
      have hl := hk_lt (show 2 ≤ zs.length by omega)
      have hp := hk_pos zs.length
      have he := hk_even h3
      have e : pairUp zs = pairUp (zs.take (hk zs.length)) ++ pairUp (zs.drop (hk zs.length)) := by
        rw [← pairUp_append _ _ (by rw [List.length_take]; omega), List.take_append_drop]
      have el : (pairUp (zs.take (hk zs.length))).length = hk zs.length / 2 := by rw [pairUp_len, List.length_take]; omega
      rw [rootL_more zs (by omega), rootL_more (pairUp zs) (by rw [pairUp_len]; omega), pairUp_len, hk_half h3]
      rw [e, List.take_left' el, List.drop_left' el]
      rw [ih (zs.take (hk zs.length)) (by rw [List.length_take]; omega), ih (zs.drop (hk zs.length)) (by rw [List.length_drop]; omega)]
/-- The row while it is paired up in place. -/
def mixU (zs : List Int) (k : Nat) : List Int := (pairUp zs).take k ++ zs.drop k
theorem mixU_zero (zs : List Int) : mixU zs 0 = zs := by simp [mixU]
theorem mixU_len (zs : List Int) (k : Nat) (h : k ≤ (zs.length + 1) / 2) : (mixU zs k).length = zs.length := by
  unfold mixU; rw [List.length_append, List.length_take, List.length_drop, pairUp_len]; omega
theorem mixU_get (zs : List Int) (k j : Nat) (h : k ≤ (zs.length + 1) / 2) (hj : k ≤ j) : (mixU zs k).getD j 0 = zs.getD j 0 := by
  unfold mixU
  have e : ((pairUp zs).take k).length = k := by rw [List.length_take, pairUp_len]; omega
  rw [List.getD_eq_getElem?_getD, List.getElem?_append_right (by omega), e, List.getElem?_drop, List.getD_eq_getElem?_getD, show k + (j - k) = j by omega]
theorem mixU_put (zs : List Int) (k : Nat) (h : k < (zs.length + 1) / 2) (h2 : k < zs.length) : (mixU zs k).set k ((pairUp zs).getD k 0) = mixU zs (k + 1) := by
  unfold mixU
  have hl : k < (pairUp zs).length := by rw [pairUp_len]; exact h
  have e : ((pairUp zs).take k).length = k := by rw [List.length_take]; omega
  rw [List.drop_eq_getElem_cons h2, set_append_mid _ _ _ _ _ e, List.take_succ_eq_append_getElem hl, List.append_assoc]
  have : (pairUp zs).getD k 0 = (pairUp zs)[k] := by simp [hl]
  rw [this]
  rfl
theorem mixU_all (zs : List Int) : (mixU zs ((zs.length + 1) / 2)).take ((zs.length + 1) / 2) = pairUp zs := by
  unfold mixU
  rw [← pairUp_len, List.take_of_length_le (Nat.le_refl _), List.take_left' rfl]
theorem getD_ne {α : Type} (l : List α) (d : α) (k : Nat) (h : ¬ k < l.length) : l.getD k d = d := by
  rw [List.getD_eq_getElem?_getD, List.getElem?_eq_none (by omega)]; rfl
theorem pairUp_bd (zs : List Int) (h : ∀ k, U64 (zs.getD k 0)) : ∀ k, U64 ((pairUp zs).getD k 0) := by
  intro k
  by_cases h1 : k < zs.length / 2
  · rw [pairUp_get zs k h1]; exact pairN_bd _ _
  · by_cases h2 : k < (zs.length + 1) / 2
    · have e : k = zs.length / 2 := by omega
      rw [e, pairUp_last zs (by omega)]
      exact h _
    · rw [getD_ne _ _ _ (by rw [pairUp_len]; exact h2)]; simp [U64]
theorem mixU_bd (zs : List Int) (h : ∀ k, U64 (zs.getD k 0)) (k : Nat) : ∀ j, U64 ((mixU zs k).getD j 0) := by
  intro j
  unfold mixU
  rw [List.getD_eq_getElem?_getD, List.getElem?_append]
  split
  · rw [← List.getD_eq_getElem?_getD]; exact u64_take (pairUp_bd zs h) k j
  · rw [← List.getD_eq_getElem?_getD]; exact u64_drop h k _
theorem OwnU.take {B : Nat} {w : World} {a : Option Addr} {n cap : Nat} {zs : List Int} (h : OwnU B w a n cap zs) (m : Nat) (hm : m ≤ n) (hn : 0 < n) : OwnU B w a m cap (zs.take m) := by
  have hl := h.len
  refine ⟨⟨by simp; omega, ?_⟩, u64_take h.rng m⟩
  rcases h.row.2 with ⟨_, h0⟩ | ⟨g, cap', cur, hv, hb, hg, h1, h2, h3, h4⟩
  · omega
  · simp only [Value.slice.injEq] at hv
    obtain ⟨rfl, _, rfl⟩ := hv
    refine .inr ⟨g, cap, cur, rfl, hb, hg, by omega, h2, h3, ?_⟩
    rw [List.map_take, ← h4, List.take_take]
    congr 1
    omega

end Go.Proofs.Ythncodopdcmfiaa
