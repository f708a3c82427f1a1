import Derived.Test.YtbfjkmlmnhphoaaDoorCO14
set_option linter.unusedVariables false
namespace Go.Proofs.YtbfjkmlmnhphoaaDoor
open Go.RowKit Go.Maps

theorem entP_wf {x : CP} {y : GP} (h : entP x y) : (Lit.int .i64 y.ser).wf = true := WalkArith.wf_i64 (by have := h.1; omega)
theorem ftS_max {xs : List PT} (h : nameP xs) : (ftS xs).size ≤ maxLen := by
  show (fbs xs).toArray.size ≤ maxLen
  have h1 := fbs_len xs (nameP_all h)
  have h2 := h.1
  rw [List.size_toArray]
  unfold maxLen
  omega
theorem kb_like {x : CP} {y z : GP} (hy : entP x y) (hz : entP x z) : kb y = kb z ↔ likeP y z := by
  constructor
  · intro h
    have h2 : kl (ftS y.parts) y.ser = kl (ftS z.parts) z.ser := congrArg Lit.string h
    obtain ⟨e1, e2⟩ := key_inj (ftS_max (entP_name hy)) (ftS_max (entP_name hz)) (entP_wf hy) (entP_wf hz) h2
    exact ⟨e2, (ftS_same (entP_name hy) (entP_name hz)).1 e1⟩
  · rintro ⟨e1, e2⟩
    unfold kb
    rw [e1, (ftS_same (entP_name hy) (entP_name hz)).2 e2]
theorem Sn_size (x : CP) (xs : List GP) (n : Nat) (hn : xs.length = n) (h : ∀ k, k < n → entP x (xs.getD k default)) : Maps.size (Sn xs n) = n ↔ ∀ i k, i < n → k < i → ¬ likeP (xs.getD k default) (xs.getD i default) := by
  have hm : ∀ y ∈ xs, entP x y := fun y hy => by
    obtain ⟨k, hk, rfl⟩ := List.getElem_of_mem hy
    have := h k (by omega)
    rw [List.getD_eq_getElem?_getD, List.getElem?_eq_getElem hk] at this
    exact this
  have e0 : (xs.take n).map (fun y => Lit.string (kb y)) = (xs.map kb).map Lit.string := by
    rw [List.take_of_length_le (by omega), List.map_map]
    rfl
  have e1 : Maps.size (Sn xs n) = ((xs.map kb).foldl addS []).length := by
    unfold Sn
    rw [e0, size_setOf _ _ (fun l hl => ?_)]
    · have := fold_str (xs.map kb) []
      rw [List.map_nil] at this
      rw [this, List.length_map]
    · obtain ⟨b, hb, rfl⟩ := List.mem_map.1 hl
      obtain ⟨y, hy, rfl⟩ := List.mem_map.1 hb
      exact isKey (ftS_max (entP_name (hm y hy))) (entP_wf (hm y hy))
  have e2 := (fold_len (xs.map kb) []).2
  rw [List.length_nil, Nat.zero_add, List.length_map, hn] at e2
  rw [e1, e2]
  have e3 : (∀ y ∈ xs.map kb, y ∉ ([] : List (List UInt8))) := fun y _ hy => by cases hy
  rw [List.Nodup, List.pairwise_iff_getElem]
  constructor
  · rintro ⟨_, q⟩ i k hi hk hl
    have hi' : i < xs.length := by omega
    have hk' : k < xs.length := by omega
    have := q k i (by simpa using hk') (by simpa using hi') hk
    apply this
    simp only [List.getElem_map]
    have a1 := hm _ (List.getElem_mem hk')
    have a2 := hm _ (List.getElem_mem hi')
    rw [List.getD_eq_getElem?_getD, List.getElem?_eq_getElem hk', List.getD_eq_getElem?_getD, List.getElem?_eq_getElem hi'] at hl
    exact (kb_like a1 a2).2 hl
  · intro q
    refine ⟨e3, fun k i hk hi hki e => ?_⟩
    have hk' : k < xs.length := by simpa using hk
    have hi' : i < xs.length := by simpa using hi
    simp only [List.getElem_map] at e
    have a1 := hm _ (List.getElem_mem hk')
    have a2 := hm _ (List.getElem_mem hi')
    refine q i k (by omega) hki ?_
    rw [List.getD_eq_getElem?_getD, List.getElem?_eq_getElem hk', List.getD_eq_getElem?_getD, List.getElem?_eq_getElem hi']
    exact (kb_like a1 a2).1 e

end Go.Proofs.YtbfjkmlmnhphoaaDoor
