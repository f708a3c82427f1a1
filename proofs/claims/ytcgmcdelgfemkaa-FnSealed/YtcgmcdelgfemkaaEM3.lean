import Derived.Test.YtcgmcdelgfemkaaEM2
import Derived.Test.YtcgmcdelgfemkaaWMark
import Derived.Deep.DeepCutAuto
namespace Go.Proofs.Ytcgmcdelgfemkaa
open Go.RowKit

def stv (sa : Option Addr) (sn sc : Nat) (rd : Int) (ba : Option Addr) (bn bc : Nat) (tg : Int) : Value := .agg #[.slice sa sn sc, .int .i64 rd, .slice ba bn bc, .int .u64 tg]
/-- The two rows of a store that lie in blocks of their own, from B up to E. -/
structure StW (B E : Nat) (w : World) (sa : Option Addr) (sn sc : Nat) (ss : List Int) (ba : Option Addr) (bn bc : Nat) (bs : List Int) : Prop where
  sr : Row w sa sn ss
  br : Row w ba bn bs
  so : 0 < sn → Own B w sa sn sc ss
  bo : 0 < bn → Own B w ba bn bc bs
  sep : ∃ M, B ≤ M ∧ M ≤ E ∧ (In sa sn B M ∧ In ba bn M E ∨ In ba bn B M ∧ In sa sn M E)
theorem In.mono {a : Option Addr} {n lo hi lo' hi' : Nat} (h : In a n lo hi) (h1 : lo' ≤ lo) (h2 : hi ≤ hi') : In a n lo' hi' := fun b off ha hn => by have := h b off ha hn; omega
theorem StW.kept {B E : Nat} {w w' : World} {sa : Option Addr} {sn sc : Nat} {ss : List Int} {ba : Option Addr} {bn bc : Nat} {bs : List Int} (h : StW B E w sa sn sc ss ba bn bc bs) (hb : Below w.heap.size w w') : StW B E w' sa sn sc ss ba bn bc bs :=
  ⟨h.sr.kept hb, h.br.kept hb, fun hp => (h.so hp).kept hb, fun hp => (h.bo hp).kept hb, h.sep⟩
theorem StW.touch {B E lo hi : Nat} {w w' : World} {sa : Option Addr} {sn sc : Nat} {ss : List Int} {ba : Option Addr} {bn bc : Nat} {bs : List Int} (h : StW B E w sa sn sc ss ba bn bc bs) (ht : Touch lo hi w w') (hd : hi ≤ B) : StW B E w' sa sn sc ss ba bn bc bs := by
  obtain ⟨M, h1, h2, h3⟩ := h.sep
  have hs : In sa sn B E := by rcases h3 with h3 | h3; exact h3.1.mono (Nat.le_refl _) h2; exact h3.2.mono h1 (Nat.le_refl _)
  have hb : In ba bn B E := by rcases h3 with h3 | h3; exact h3.2.mono h1 (Nat.le_refl _); exact h3.1.mono (Nat.le_refl _) h2
  exact ⟨h.sr.touch hs (.inr hd) ht, h.br.touch hb (.inr hd) ht, fun hp => (h.so hp).touch hs (.inr hd) ht hp, fun hp => (h.bo hp).touch hb (.inr hd) ht hp, h.sep⟩
theorem results_so {fn : Func} {t u : Tmp} (h : fn.results = #[.cell t 28, .tmp u]) (tmps : Array Value) (g : Nat) (ht : tmps.getD t undef = .pointer (some ⟨g, 0, none⟩)) (v : Value) (hv : tmps.getD u undef = v) (w : World) (c0 c1 c2 c3 : Value)
    (hb : w.heap[g]? = some (.cells #[c0, c1, c2, c3] 28 (0, 0))) : (results fn tmps).run Try.prog w = .ok (.tuple #[.agg #[c0, c1, c2, c3], v]) w := by
  have d0 : w.cell? ⟨g, 0, none⟩ = some c0 := (cell_of_row _ g 0 _ 28 (0, 0) hb).trans rfl
  have d1 : w.cell? ⟨g, 1, none⟩ = some c1 := (cell_of_row _ g 1 _ 28 (0, 0) hb).trans rfl
  have d2 : w.cell? ⟨g, 2, none⟩ = some c2 := (cell_of_row _ g 2 _ 28 (0, 0) hb).trans rfl
  have d3 : w.cell? ⟨g, 3, none⟩ = some c3 := (cell_of_row _ g 3 _ 28 (0, 0) hb).trans rfl
  clear hb
  have ht' : tmps[t]?.getD undef = .pointer (some ⟨g, 0, none⟩) := by rw [← ht]; simp
  have hv' : tmps[u]?.getD undef = v := by rw [← hv]; simp
  simp [results, h, go_sem, ht', hv', d0, d1, d2, d3]
theorem heap_set4 {w : World} {g t : Nat} {c0 c1 c2 c3 : Value} (h : w.heap[g]? = some (.cells #[c0, c1, c2, c3] t (0, 0))) (v0 v1 v2 v3 : Value) : ((((w.setCell ⟨g, 0, none⟩ v0).setCell ⟨g, 1, none⟩ v1).setCell ⟨g, 2, none⟩ v2).setCell ⟨g, 3, none⟩ v3).heap[g]? = some (.cells #[v0, v1, v2, v3] t (0, 0)) :=
  heap_setCell_same _ _ 3 _ t _ (heap_setCell_same _ _ 2 _ t _ (heap_setCell_same _ _ 1 _ t _ (heap_setCell_same _ _ 0 _ t _ h)))

end Go.Proofs.Ytcgmcdelgfemkaa
