import Derived.Test.YtglpbgebcpijaaaGreatTT4
import Derived.Deep.RegionLaw
import Derived.OwnWalk
namespace Go.Proofs.YtglpbgebcpijaaaGreat
open Go.RowKit

theorem step_append_ownT {P : Program} {ops : Array Oper} {o : Oper} {a : Act} {w : World} {K : Act → World → Prop} {Q : Exit → Act → World → Prop} {E : Prop}
    (hg : o.guard = none) (s x : Operand) (t : TypeId) (hop : o.op = Op.call { callee := Callee.builtin Builtin.append, args := #[s, x], argTypes := #[t, t] })
    (base : Nat) (e : TypeId) (i : TypeInfo) (z : Value) (size bytes : Nat) (h1 : P.underlying t = some (.slice e)) (h2 : P.info? e = some i) (h3 : i.zero = some z) (h4 : i.size = size) (h5 : i.bytes = bytes) (h6 : z.cells.size = size) (h7 : 0 < size)
    (v : Value) (n : Nat) (xs : List Value) (hs : a.eval s = v) (hown : w.ownsRow base e size v n xs)
    (ad : Addr) (m c : Nat) (news : List Value) (hx : a.eval x = .slice (some ad) m c) (hn : news.length = m * size) (hc : ∀ j u, news[j]? = some u → w.cell? (ad.add j) = some u) (h1c : ∀ u ∈ news, u.oneCell' = true)
    (b1 : n + m ≤ maxLen) (b2 : (n + m) * bytes ≤ 140737488355328) (b3 : base ≤ w.heap.size)
    (hK : ∀ v' w', w'.ownsRow base e size v' (n + m) (xs ++ news) → w.grownBy w' v.ownBlock → K (a.put o.dst v') w') :
    if Region.wanted o (yielded ops a.tmps) = true then Oper.wp P o a w K Q else E := by
  have hw : Region.wanted o (yielded ops a.tmps) = true := by simp [Region.wanted, hg]
  rw [if_pos hw]
  obtain ⟨v', w', hrun, r1, r2, _⟩ := run_append_own (P := P) w base t o.type e i z size bytes h1 h2 h3 h4 h5 h6 h7 v n xs hown ad m c news hn hc h1c b1 b2 b3
  unfold Oper.wp
  simp [execOp, hop, resolve, invoke, builtin, hs, hx, hrun, Result.andThen]
  exact hK v' w' r1 r2
theorem Tryz.infoU : (Tryz.prog.info? 26).map (fun i => (i.zero, i.size, i.bytes)) = some (some (.int .u64 0), 1, 8) := by kernel_rfl
theorem cell_oneU (w : World) (x : Int) : ∀ jj uu, ([x].map (Value.int .u64))[jj]? = some uu → (w.alloc (.cells #[.int .u64 x] 26)).cell? ((⟨w.heap.size, 0, none⟩ : Addr).add jj) = some uu := by
  intro jj uu hju
  rw [Addr.add_lit, Nat.zero_add, cell_of_row _ w.heap.size jj _ 26 _ (heap_alloc_new w _), ← hju]
  simp
theorem madeU {B n : Nat} {w : World} {v : Value} (h : w.ownsRow B 26 1 v n (madeCells (Value.int .u64 0).cells (n * 1)).toList) : w.ownsRow B 26 1 v n ((List.replicate n (0 : Int)).map (Value.int .u64)) := by
  have e : (madeCells (Value.int .u64 0).cells (n * 1)).toList = (List.replicate n (0 : Int)).map (Value.int .u64) := by
    rw [List.map_replicate, Nat.mul_one]; exact toList_madeCells_one _ _
  rwa [e] at h

def endN (seed leaf : Int) (d : Nat) : Int := stepsN (startN seed leaf d) 15
def endsN (seed leaf : Int) : List Int := (List.range 18).map (endN seed leaf)
theorem endsN_len (seed leaf : Int) : (endsN seed leaf).length = 18 := by simp [endsN]
theorem endsN_get (seed leaf : Int) (d : Nat) (h : d < 18) : (endsN seed leaf).getD d 0 = endN seed leaf d := by simp [endsN, h]
theorem endN_bd (seed leaf : Int) (d : Nat) : U64 (endN seed leaf d) := stepsN_bd _ (startN_bd _ _ _) _
theorem endsN_bd (seed leaf : Int) : ∀ k, U64 ((endsN seed leaf).getD k 0) := by
  intro k
  by_cases h : k < 18
  · rw [endsN_get seed leaf k h]; exact endN_bd _ _ _
  · rw [List.getD_eq_getElem?_getD, List.getElem?_eq_none (by rw [endsN_len]; omega)]; simp [U64]
def leafN (seed leaf : Int) : Int := hashD leW (endsN seed leaf)
theorem leafN_bd (seed leaf : Int) : U64 (leafN seed leaf) := hashD_bd _ _
theorem u64_take {zs : List Int} (h : ∀ k, U64 (zs.getD k 0)) (j : Nat) : ∀ k, U64 ((zs.take j).getD k 0) := by
  intro k
  have := h k
  rw [List.getD_eq_getElem?_getD, List.getElem?_take]
  split
  · simpa [List.getD_eq_getElem?_getD] using this
  · simp [U64]

end Go.Proofs.YtglpbgebcpijaaaGreat
