import Derived.WalkKit
import Derived.OpenShut
namespace Go.Proofs.YtbfjkmlmnhphoaaDoor
open Go.RowKit

/-- The slice at a, n long, reads as the bytes bs in w. -/
structure Row (w : World) (a : Option Addr) (n : Nat) (bs : List Int) : Prop where
  len : bs.length = n
  get : ∀ k, k < n → ∃ b off, a = some ⟨b, off, none⟩ ∧ b < w.heap.size ∧ w.cell? ⟨b, off + k, none⟩ = some (.int .u8 (bs.getD k 0))
  byte : ∀ k, 0 ≤ bs.getD k 0 ∧ bs.getD k 0 ≤ 255

theorem Row.kept {w w' : World} {a : Option Addr} {n : Nat} {bs : List Int} (h : Row w a n bs) (hb : Below w.heap.size w w') : Row w' a n bs := by
  refine ⟨h.len, fun k hk => ?_, h.byte⟩
  obtain ⟨b, off, ha, hlt, hc⟩ := h.get k hk
  exact ⟨b, off, ha, Nat.lt_of_lt_of_le hlt hb.size, (hb.cell (p := ⟨b, off + k, none⟩) hlt).trans hc⟩

/-- The slice lies in a block of our own from B on, and reads as bs. -/
structure Own (B : Nat) (w : World) (a : Option Addr) (n cap : Nat) (bs : List Int) : Prop where
  row : w.ownsRow B 5 1 (.slice a n cap) n (bs.map (Value.int .u8))
  byte : ∀ k, 0 ≤ bs.getD k 0 ∧ bs.getD k 0 ≤ 255

theorem Own.toRow {B : Nat} {w : World} {a : Option Addr} {n cap : Nat} {bs : List Int} (h : Own B w a n cap bs) : Row w a n bs := by
  have hl : bs.length = n := by simpa using h.row.1
  refine ⟨hl, fun k hk => ?_, h.byte⟩
  rcases h.row.2 with ⟨_, h0⟩ | ⟨g, cap', cur, hv, hb, hg, r⟩
  · omega
  · simp only [Value.slice.injEq] at hv
    obtain ⟨rfl, _, rfl⟩ := hv
    refine ⟨g, 0, rfl, (Array.getElem?_eq_some_iff.1 hg).1, ?_⟩
    rw [Nat.zero_add, World.ownsRow.cellAt h.row k (by omega)]
    simp [show k < bs.length by omega]

theorem ownsRow_below {B e size n : Nat} {w w' : World} {v : Value} {xs : List Value} (h : w.ownsRow B e size v n xs) (hb : Below w.heap.size w w') : w'.ownsRow B e size v n xs := by
  refine ⟨h.1, ?_⟩
  rcases h.2 with hn | ⟨g, cap, cur, rfl, hbb, hgg, rest⟩
  · exact .inl hn
  · exact .inr ⟨g, cap, cur, rfl, hbb, (hb.block g (Array.getElem?_eq_some_iff.1 hgg).1).trans hgg, rest⟩

theorem Own.kept {B : Nat} {w w' : World} {a : Option Addr} {n cap : Nat} {bs : List Int} (h : Own B w a n cap bs) (hb : Below w.heap.size w w') : Own B w' a n cap bs :=
  ⟨ownsRow_below h.row hb, h.byte⟩

theorem Own.drew {B : Nat} {w : World} {a : Option Addr} {n cap : Nat} {bs : List Int} (h : Own B w a n cap bs) : Own B w.drew a n cap bs := ⟨h.row.drew, h.byte⟩

theorem Own.length {B : Nat} {w : World} {a : Option Addr} {n cap : Nat} {bs : List Int} (h : Own B w a n cap bs) : bs.length = n := by simpa using h.row.1

theorem Own.mono {B B' : Nat} {w : World} {a : Option Addr} {n cap : Nat} {bs : List Int} (h : Own B w a n cap bs) (hB : B' ≤ B) : Own B' w a n cap bs := by
  refine ⟨⟨h.row.1, ?_⟩, h.byte⟩
  rcases h.row.2 with hn | ⟨g, cap, cur, hv, hbb, rest⟩
  · exact .inl hn
  · exact .inr ⟨g, cap, cur, hv, by omega, rest⟩

theorem set_append_mid {α : Type} (l : List α) (r : List α) (x y : α) (k : Nat) (h : l.length = k) : (l ++ y :: r).set k x = l ++ x :: r := by
  subst h; simp

/-- The first k of bs, and then zeros. -/
def half (bs : List Int) (k : Nat) : List Int := bs.take k ++ List.replicate (bs.length - k) 0

theorem half_zero (bs : List Int) : half bs 0 = List.replicate bs.length 0 := by simp [half]
theorem half_all (bs : List Int) : half bs bs.length = bs := by simp [half]
theorem half_len (bs : List Int) (k : Nat) (h : k ≤ bs.length) : (half bs k).length = bs.length := by simp [half]; omega
theorem half_set (bs : List Int) (k : Nat) (h : k < bs.length) : (half bs k).set k (bs.getD k 0) = half bs (k + 1) := by
  unfold half
  rw [show bs.length - k = (bs.length - (k + 1)) + 1 by omega, List.replicate_succ, set_append_mid _ _ _ _ _ (by simp; omega)]
  have e : bs.getD k 0 = bs[k] := by simp [h]
  rw [e, List.take_succ_eq_append_getElem h, List.append_assoc]
  rfl
theorem half_byte (bs : List Int) (k : Nat) (h : ∀ k, 0 ≤ bs.getD k 0 ∧ bs.getD k 0 ≤ 255) : ∀ j, 0 ≤ (half bs k).getD j 0 ∧ (half bs k).getD j 0 ≤ 255 := by
  intro j
  unfold half
  rw [List.getD_eq_getElem?_getD, List.getElem?_append]
  split
  · rename_i hj
    rw [List.getElem?_take]
    split
    · simpa [List.getD_eq_getElem?_getD] using h j
    · simp
  · rw [List.getElem?_replicate]
    split <;> simp

theorem getD_set_bytes {l : List Int} (h : ∀ k, 0 ≤ l.getD k 0 ∧ l.getD k 0 ≤ 255) (i : Nat) (x : Int) (hx : 0 ≤ x ∧ x ≤ 255) : ∀ k, 0 ≤ (l.set i x).getD k 0 ∧ (l.set i x).getD k 0 ≤ 255 := by
  intro k
  rw [List.getD_eq_getElem?_getD, List.getElem?_set]
  have := h k
  rw [List.getD_eq_getElem?_getD] at this
  split
  · split <;> simp [hx.1, hx.2]
  · exact this

theorem take_bytes {bs : List Int} (h : ∀ k, 0 ≤ bs.getD k 0 ∧ bs.getD k 0 ≤ 255) (j : Nat) : ∀ k, 0 ≤ (bs.take j).getD k 0 ∧ (bs.take j).getD k 0 ≤ 255 := by
  intro k
  rw [List.getD_eq_getElem?_getD, List.getElem?_take]
  split
  · simpa [List.getD_eq_getElem?_getD] using h k
  · simp

/-- A store into a row of our own. -/
theorem Own.store {B : Nat} {w : World} {g n cap : Nat} {bs : List Int} (h : Own B w (some ⟨g, 0, none⟩) n cap bs) (j : Nat) (x : Int) (hx : 0 ≤ x ∧ x ≤ 255) :
    Own B (w.setCell ⟨g, j, none⟩ (.int .u8 x)) (some ⟨g, 0, none⟩) n cap (bs.set j x) :=
  ⟨by rw [List.map_set]; exact (h.row.stored j (.int .u8 x)).1, getD_set_bytes h.byte j x hx⟩

theorem Own.base {B : Nat} {w : World} {g n cap : Nat} {bs : List Int} (h : Own B w (some ⟨g, 0, none⟩) n cap bs) : B ≤ g ∧ g < w.heap.size := by
  rcases h.row.2 with ⟨h', _⟩ | ⟨g', cap', cur, h', hb, hg, _⟩
  · simp at h'
  · simp only [Value.slice.injEq, Option.some.injEq, Addr.mk.injEq, and_true, true_and] at h'
    obtain ⟨rfl, rfl⟩ := h'
    exact ⟨hb, (Array.getElem?_eq_some_iff.1 hg).1⟩

/-- What 'make' gives. -/
theorem own_made {B n : Nat} {w : World} {v : Option Addr} (h : w.ownsRow B 5 1 (.slice v n n) n (madeCells (Value.int .u8 0).cells (n * 1)).toList) : Own B w v n n (List.replicate n 0) := by
  refine ⟨?_, ?_⟩
  · have e : (madeCells (Value.int .u8 0).cells (n * 1)).toList = (List.replicate n (0 : Int)).map (Value.int .u8) := by
      rw [List.map_replicate, Nat.mul_one]; exact toList_madeCells_one _ _
    rwa [e] at h
  · intro k
    rw [List.getD_eq_getElem?_getD, List.getElem?_replicate]
    split <;> simp

/-- Every slice that owns a row has one of two shapes. -/
theorem Own.shape {B : Nat} {w : World} {a : Option Addr} {n cap : Nat} {bs : List Int} (h : Own B w a n cap bs) (hn : 0 < n) : ∃ g, a = some ⟨g, 0, none⟩ := by
  rcases h.row.2 with ⟨_, h0⟩ | ⟨g, cap', cur, hv, _⟩
  · omega
  · simp only [Value.slice.injEq] at hv
    exact ⟨g, hv.1⟩

theorem snoc_byte {xs : List Int} (h : ∀ k, 0 ≤ xs.getD k 0 ∧ xs.getD k 0 ≤ 255) (x : Int) (hx : 0 ≤ x ∧ x ≤ 255) : ∀ k, 0 ≤ (xs ++ [x]).getD k 0 ∧ (xs ++ [x]).getD k 0 ≤ 255 := by
  intro k
  rw [List.getD_eq_getElem?_getD, List.getElem?_append]
  split
  · simpa [List.getD_eq_getElem?_getD] using h k
  · rw [List.getElem?_singleton]
    split <;> simp [hx.1, hx.2]

theorem append_byte {xs ys : List Int} (h : ∀ k, 0 ≤ xs.getD k 0 ∧ xs.getD k 0 ≤ 255) (hy : ∀ k, 0 ≤ ys.getD k 0 ∧ ys.getD k 0 ≤ 255) : ∀ k, 0 ≤ (xs ++ ys).getD k 0 ∧ (xs ++ ys).getD k 0 ≤ 255 := by
  intro k
  rw [List.getD_eq_getElem?_getD, List.getElem?_append]
  split
  · simpa [List.getD_eq_getElem?_getD] using h k
  · simpa [List.getD_eq_getElem?_getD] using hy (k - xs.length)

/-- Behind an append of some bytes. -/
theorem own_appended {B : Nat} {w : World} {v : Value} {m : Nat} {xs ys : List Int} (h : w.ownsRow B 5 1 v m (xs.map (Value.int .u8) ++ ys.map (Value.int .u8))) (hx : ∀ k, 0 ≤ xs.getD k 0 ∧ xs.getD k 0 ≤ 255) (hy : ∀ k, 0 ≤ ys.getD k 0 ∧ ys.getD k 0 ≤ 255) :
    ∃ a cap, v = .slice a m cap ∧ Own B w a m cap (xs ++ ys) := by
  rw [← List.map_append] at h
  rcases h.2 with ⟨rfl, rfl⟩ | ⟨g, cap, cur, rfl, r⟩
  · exact ⟨_, _, rfl, h, append_byte hx hy⟩
  · exact ⟨_, _, rfl, h, append_byte hx hy⟩

/-- Behind an append the old memory is as it was. -/
theorem below_appended {B : Nat} {w0 w w1 : World} {v : Value} {n : Nat} {xs : List Value} (hb : Below B w0 w) (hB : B ≤ w.heap.size) (h : w.ownsRow B 5 1 v n xs) (hg : w.grownBy w1 v.ownBlock) : Below B w0 w1 :=
  hb.grown hg hB (fun k hk => (h.lt k hk).1)

/-- A slice that came in: nil, or a row of 'cap' cells, of which the first 'len' are its elements. -/
def IsRow (k : IntKind) (w : World) (a : Option Addr) (len cap : Nat) (zs : List Int) : Prop :=
  (a = none ∧ len = 0 ∧ cap = 0 ∧ zs = []) ∨
  ∃ x, a = some x ∧ len ≤ cap ∧ cap ≤ maxLen ∧ zs.length = cap ∧ (∀ i, i < zs.length → w.cell? (x.add i) = some (.int k (zs.getD i 0))) ∧ ∀ n ∈ zs, (Lit.int k n).wf = true

theorem wf_u8 {n : Int} (h : (Lit.int .u8 n).wf = true) : 0 ≤ n ∧ n ≤ 255 := by
  exact bounds_u8 h

theorem IsRow.row {w : World} {a : Option Addr} {len cap : Nat} {zs : List Int} (h : IsRow .u8 w a len cap zs) : Row w a len (zs.take len) ∧ len ≤ maxLen := by
  rcases h with ⟨rfl, rfl, rfl, rfl⟩ | ⟨x, rfl, hl, hm, hz, hc, hw⟩
  · exact ⟨⟨rfl, fun k hk => absurd hk (Nat.not_lt_zero _), by simp⟩, by decide⟩
  · refine ⟨⟨by simp; omega, fun k hk => ?_, take_bytes ?_ len⟩, by omega⟩
    · have h0 := hc k (by omega)
      obtain ⟨b, off, spot⟩ := x
      have hs : spot = none := by simpa [Addr.add] using World.cell?_spot (hc 0 (by omega))
      subst hs
      have e : (⟨b, off, none⟩ : Addr).add k = ⟨b, off + k, none⟩ := Addr.add_lit ..
      rw [e] at h0
      refine ⟨b, off, rfl, World.block_lt_of_cell? w _ h0, h0.trans ?_⟩
      simp [hk]
    · intro k
      by_cases hk : k < zs.length
      · have := wf_u8 (hw (zs.getD k 0) (by simp [hk]))
        exact this
      · rw [List.getD_eq_getElem?_getD, List.getElem?_eq_none (by omega)]; simp

theorem IsRow.nil {w : World} {a : Option Addr} {len cap : Nat} {zs : List Int} (h : IsRow .u8 w a len cap zs) : a = none → cap = 0 := by
  intro e
  rcases h with ⟨_, _, hc, _⟩ | ⟨x, hx, _⟩
  · exact hc
  · rw [hx] at e; cases e
theorem IsRow.cap {w : World} {a : Option Addr} {len cap : Nat} {zs : List Int} (h : IsRow .u8 w a len cap zs) : len ≤ cap ∧ cap ≤ 9223372036854775807 := by
  rcases h with ⟨_, rfl, rfl, _⟩ | ⟨x, hx, hl, hm, _⟩
  · exact ⟨Nat.le_refl _, by decide⟩
  · unfold maxLen at hm
    exact ⟨hl, by omega⟩
theorem Own.nil {B : Nat} {w : World} {a : Option Addr} {n cap : Nat} {bs : List Int} (h : Own B w a n cap bs) : a = none → cap = 0 := by
  intro e
  rcases h.row.2 with ⟨hv, _⟩ | ⟨g, cap', cur, hv, _⟩
  · simp only [Value.slice.injEq] at hv; exact hv.2.2
  · simp only [Value.slice.injEq] at hv; rw [hv.1] at e; cases e

theorem Row.drop {w : World} {b off n : Nat} {bs : List Int} (h : Row w (some ⟨b, off, none⟩) n bs) (k : Nat) (hk : k ≤ n) : Row w (some ⟨b, off + k, none⟩) (n - k) (bs.drop k) := by
  refine ⟨by rw [List.length_drop, h.len], fun j hj => ?_, fun j => ?_⟩
  · obtain ⟨b', off', ha, hb, hc⟩ := h.get (k + j) (by omega)
    simp at ha
    obtain ⟨rfl, rfl⟩ := ha
    exact ⟨b, off + k, rfl, hb, by rw [Nat.add_assoc, hc]; simp⟩
  · have := h.byte (k + j)
    simpa using this

theorem Row.take {w : World} {a : Option Addr} {n : Nat} {bs : List Int} (h : Row w a n bs) (k : Nat) (hk : k ≤ n) : Row w a k (bs.take k) := by
  refine ⟨by rw [List.length_take, h.len]; omega, fun j hj => ?_, take_bytes h.byte k⟩
  obtain ⟨b, off, ha, hb, hc⟩ := h.get j (by omega)
  exact ⟨b, off, ha, hb, hc.trans (by simp [hj])⟩
theorem Row.drew {w : World} {a : Option Addr} {n : Nat} {bs : List Int} (h : Row w a n bs) : Row w.drew a n bs := h.kept (Below.refl _ _).drew

end Go.Proofs.YtbfjkmlmnhphoaaDoor
