import Derived.Test.YtcgmcdelgfemkaaEL5
import Derived.Test.YtcgmcdelgfemkaaEL7
namespace Go.Proofs.Ytcgmcdelgfemkaa
open Go.RowKit

structure SealF (xs : List Int) (xa xb : Int) (t t1 : EnvV) : Prop where
  ok : t.ok = true
  ok1 : t1.ok = true
  oa : openR t.eph t.ws t.bs t.tg xa = (xs, 0)
  ob : openR t.eph t.ws t.bs t.tg xb = (xs, 0)
  o5 : openR t.eph t.ws t.bs t.tg 5 = ([], 1)
  ln : t.bs.length = xs.length
  wl : t.ws.length = 2
  wl1 : t1.ws.length = 1
  tg : t1.tg = t.tg
  w01 : t1.ws.getD 0 (0, 0) = t.ws.getD 1 (0, 0)
  tu : ∀ i y, (∀ k, 0 ≤ t.bs.getD k 0 ∧ t.bs.getD k 0 ≤ 255) → i < t.bs.length → 0 ≤ y ∧ y ≤ 255 → t.bs.getD i 0 ≠ y → openR t.eph t.ws (t.bs.set i y) t.tg xa = ([], 2)
theorem sealR_yes (bs : List Int) (ps : List (Int × Int × Int)) (eph : Int) (h : sealP bs.length ps eph) : sealR bs ps eph = sealT bs ps eph := by unfold sealR; rw [if_pos h]
theorem sealR_not (bs : List Int) (ps : List (Int × Int × Int)) (eph : Int) (h : ¬ (bs.length ≤ 4000 ∧ secP eph)) : sealR bs ps eph = ⟨0, [], [], 0, false⟩ := by
  unfold sealR
  rw [if_neg]
  intro k
  exact h ⟨k.1, k.2.2.2⟩
theorem xa_is (u : Nat) : ((7000 + 313 * u : Nat) : Int) = ((sxN (u + 1) : Nat) : Int) := rfl
theorem sealF (xs : List Int) (eph : Int) (u v : Nat) (hu : u < 30) (hv : v < 30) (hb : ∀ i, 0 ≤ xs.getD i 0 ∧ xs.getD i 0 ≤ 255) (hn : xs.length ≤ 4000) (hs : secP eph) (xa xb : Int) (exa : xa = ((7000 + 313 * u : Nat) : Int)) (exb : xb = ((7000 + 313 * (30 + v) : Nat) : Int)) :
    SealF xs xa xb (sealR xs [pubX xa, pubX xb] eph) (sealR xs [pubX xb] eph) := by
  have ea : xa = ((sxN (u + 1) : Nat) : Int) := exa
  have eb : xb = ((sxN (30 + v + 1) : Nat) : Int) := exb
  have sa : secP xa := by rw [ea]; exact sx_sec _ (by omega)
  have sb : secP xb := by rw [eb]; exact sx_sec _ (by omega)
  have nab : idX xa ≠ idX xb := by rw [ea, eb]; exact idX_ne _ _ (by omega) (by omega) (by omega)
  have na5 : idX xa ≠ idX 5 := by rw [ea]; exact idX_ne _ 0 (by omega) (by omega) (by omega)
  have nb5 : idX xb ≠ idX 5 := by rw [eb]; exact idX_ne _ 0 (by omega) (by omega) (by omega)
  have g2 : AllG [pubX xa, pubX xb] 2 := by
    intro j hj
    match j, hj with
    | 0, _ => exact grp_pubX xa sa
    | 1, _ => exact grp_pubX xb sb
  have g1 : AllG [pubX xb] 1 := by
    intro j hj
    match j, hj with
    | 0, _ => exact grp_pubX xb sb
  rw [sealR_yes xs [pubX xa, pubX xb] eph ⟨hn, ⟨by simp, by simp⟩, g2, hs⟩, sealR_yes xs [pubX xb] eph ⟨hn, ⟨by simp, by simp⟩, g1, hs⟩]
  refine ⟨rfl, rfl, ?_, ?_, ?_, maskL_lenE _ _, rfl, rfl, rfl, ?w, ?_⟩
  case w =>
    show (List.map (wrapP (ctN eph xs) eph) [pubX xb]).getD 0 (0, 0) = (List.map (wrapP (ctN eph xs) eph) [pubX xa, pubX xb]).getD 1 (0, 0)
    simp
  · exact seal_open xs _ eph xa hs sa hb hn 0 (by simp) rfl (fun i hi => absurd hi (Nat.not_lt_zero _))
  · exact seal_open xs _ eph xb hs sb hb hn 1 (by simp) rfl (fun i hi => by
      have e0 : i = 0 := by omega
      subst e0
      exact nab)
  · refine seal_none xs _ eph 5 (fun i hi => ?_)
    match i, hi with
    | 0, _ => exact na5
    | 1, _ => exact nb5
  · intro i y hbb hi hy hne
    exact seal_turned xs _ eph xa hs sa hbb 0 (by simp) rfl (fun i hi => absurd hi (Nat.not_lt_zero _)) i hi y hy hne

theorem gp_u64 (x : Int) : U64 (gp 4 x) := by have := gp_bd 4 x; exact ⟨by omega, by omega⟩
theorem rowPu_two (W : World) (x y : Int) : RowPu (W.alloc (.cells #[.int .i64 1, .int .u64 (gp 4 x), .int .i64 0, .int .i64 1, .int .u64 (gp 4 y), .int .i64 0] 48)) (some ⟨W.heap.size, 0, none⟩) 2 [pubX x, pubX y] := by
  refine ⟨rfl, fun k hk => ?_, fun k => ?_⟩
  · have hc : ∀ j, (W.alloc (.cells #[.int .i64 1, .int .u64 (gp 4 x), .int .i64 0, .int .i64 1, .int .u64 (gp 4 y), .int .i64 0] 48)).cell? ⟨W.heap.size, j, none⟩ = _ := fun j => cell_of_row _ _ j _ 48 (0, 0) (heap_alloc_new W _)
    refine ⟨W.heap.size, 0, rfl, by simp, ?_⟩
    match k, hk with
    | 0, _ => exact ⟨(hc 0).trans rfl, (hc 1).trans rfl, (hc 2).trans rfl⟩
    | 1, _ => exact ⟨(hc 3).trans rfl, (hc 4).trans rfl, (hc 5).trans rfl⟩
  · match k with
    | 0 => exact gp_u64 x
    | 1 => exact gp_u64 y
    | k + 2 => simp [U64]
theorem rowPu_one (W : World) (x : Int) : RowPu (W.alloc (.cells #[.int .i64 1, .int .u64 (gp 4 x), .int .i64 0] 48)) (some ⟨W.heap.size, 0, none⟩) 1 [pubX x] := by
  refine ⟨rfl, fun k hk => ?_, fun k => ?_⟩
  · have hc : ∀ j, (W.alloc (.cells #[.int .i64 1, .int .u64 (gp 4 x), .int .i64 0] 48)).cell? ⟨W.heap.size, j, none⟩ = _ := fun j => cell_of_row _ _ j _ 48 (0, 0) (heap_alloc_new W _)
    refine ⟨W.heap.size, 0, rfl, by simp, ?_⟩
    match k, hk with
    | 0, _ => exact ⟨(hc 0).trans rfl, (hc 1).trans rfl, (hc 2).trans rfl⟩
  · match k with
    | 0 => exact gp_u64 x
    | k + 1 => simp [U64]
theorem pub22_two (x y : Int) : ∀ j, j < 2 → (([pubX x, pubX y] : List (Int × Int × Int)).getD j (0, 0, 0)).2.2 ≤ 9223372036854775807 := by
  intro j hj
  match j, hj with
  | 0, _ => show (0 : Int) ≤ _; decide
  | 1, _ => show (0 : Int) ≤ _; decide
theorem pub22_one (x : Int) : ∀ j, j < 1 → (([pubX x] : List (Int × Int × Int)).getD j (0, 0, 0)).2.2 ≤ 9223372036854775807 := by
  intro j hj
  match j, hj with
  | 0, _ => show (0 : Int) ≤ _; decide
/-- A secret in a block. -/
def BlkS (w : World) (g : Nat) (x : Int) : Prop := w.heap[g]? = some (.cells #[.int .i64 1, .int .u64 x, .int .i64 0, .int .i64 0] 40)
theorem BlkS.lt {w : World} {g : Nat} {x : Int} (h : BlkS w g x) : g < w.heap.size := (Array.getElem?_eq_some_iff.1 h).1
theorem BlkS.kept {w w' : World} {g : Nat} {x : Int} (h : BlkS w g x) (hb : Below w.heap.size w w') : BlkS w' g x := (hb.block _ h.lt).trans h
theorem BlkS.touch {lo hi : Nat} {w w' : World} {g : Nat} {x : Int} (h : BlkS w g x) (ht : Touch lo hi w w') (hg : g < lo ∨ hi ≤ g) : BlkS w' g x := (ht.block _ h.lt hg).trans h
theorem BlkS.cells {w : World} {g : Nat} {x : Int} (h : BlkS w g x) : w.cell? ⟨g, 0, none⟩ = some (.int .i64 1) ∧ w.cell? ⟨g, 1, none⟩ = some (.int .u64 x) ∧ w.cell? ⟨g, 2, none⟩ = some (.int .i64 0) ∧ w.cell? ⟨g, 3, none⟩ = some (.int .i64 0) :=
  ⟨(cell_of_row _ _ 0 _ 40 (0, 0) h).trans rfl, (cell_of_row _ _ 1 _ 40 (0, 0) h).trans rfl, (cell_of_row _ _ 2 _ 40 (0, 0) h).trans rfl, (cell_of_row _ _ 3 _ 40 (0, 0) h).trans rfl⟩

end Go.Proofs.Ytcgmcdelgfemkaa
