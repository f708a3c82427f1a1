import Derived.Test.YtdkgilkjcndonaaPL7
import Derived.Maps.OwnSet
import Derived.Deep.RegionHeldLaw
import Derived.Laws.AppendOwnNone
namespace Go.Proofs.Ytdkgilkjcndonaa
open Go.RowKit

/-- No cell is lost, and none is another. -/
def KeptC (w w' : World) : Prop := w.heap.size ≤ w'.heap.size ∧ ∀ b o v, w.cell? ⟨b, o, none⟩ = some v → w'.cell? ⟨b, o, none⟩ = some v
theorem KeptC.of_below {w w' : World} (h : Below w.heap.size w w') : KeptC w w' := ⟨h.size, fun b o _ hc => (h.cell (p := ⟨b, o, none⟩) (World.block_lt_of_cell? w _ hc)).trans hc⟩
theorem KeptC.of_touch {w w' : World} {bm : Nat} (h : Touch bm (bm + 1) w w') (hm : ∃ es cl, w.heap[bm]? = some (.map es cl)) : KeptC w w' := by
  refine ⟨h.size, fun b o v hc => ?_⟩
  have hb := World.block_lt_of_cell? w _ hc
  have hne : b ≠ bm := fun e => by
    subst e
    obtain ⟨es, cl, he⟩ := hm
    simp [World.cell?, he] at hc
  exact (World.cell?_of_block (a := ⟨b, o, none⟩) (h.block b hb (by omega))).trans hc
theorem KeptC.trans {a b c : World} (h : KeptC a b) (k : KeptC b c) : KeptC a c := ⟨Nat.le_trans h.1 k.1, fun x o v hc => k.2 x o v (h.2 x o v hc)⟩
theorem Row64.keptC {w w' : World} {a : Option Addr} {n : Nat} {zs : List Int} (h : Row64 w a n zs) (k : KeptC w w') : Row64 w' a n zs := by
  refine ⟨h.len, fun j hj => ?_⟩
  obtain ⟨b, off, ha, hlt, hc⟩ := h.get j hj
  exact ⟨b, off, ha, Nat.lt_of_lt_of_le hlt k.1, k.2 _ _ _ hc⟩
theorem Pms.keptC {w w' : World} {a : Option Addr} {n : Nat} {ps : List (Int × Int)} (h : Pms w a n ps) (k : KeptC w w') : Pms w' a n ps := by
  refine ⟨h.len, h.max, fun j hj => ?_⟩
  obtain ⟨b, off, ha, hlt, h0, h1⟩ := h.get j hj
  exact ⟨b, off, ha, Nat.lt_of_lt_of_le hlt k.1, k.2 _ _ _ h0, k.2 _ _ _ h1⟩
theorem PcAt.keptC {w w' : World} {a1 : Option Addr} {n1 c1 : Nat} {a2 : Option Addr} {n2 : Nat} {x : PC} (h : PcAt w a1 n1 c1 a2 n2 x) (k : KeptC w w') : PcAt w' a1 n1 c1 a2 n2 x := ⟨h.pol.keptC k, h.le, h.max, h.mp.keptC k⟩
theorem CellsP.keptC {w w' : World} {b o : Nat} {a1 : Option Addr} {n1 c1 : Nat} {a2 : Option Addr} {n2 c2 : Nat} {x : PC} (h : CellsP w b o a1 n1 c1 a2 n2 c2 x) (k : KeptC w w') : CellsP w' b o a1 n1 c1 a2 n2 c2 x :=
  ⟨k.2 _ _ _ h.c0, k.2 _ _ _ h.c1, k.2 _ _ _ h.c2, k.2 _ _ _ h.c3, k.2 _ _ _ h.c4, k.2 _ _ _ h.c5⟩
theorem Pcs.keptC {w w' : World} {a : Option Addr} {n : Nat} {xs : List PC} (h : Pcs w a n xs) (k : KeptC w w') : Pcs w' a n xs := by
  refine ⟨h.len, h.max, fun j hj => ?_⟩
  obtain ⟨b, off, a1, n1, c1, a2, n2, c2, ha, hlt, hc, hp⟩ := h.get j hj
  exact ⟨b, off, a1, n1, c1, a2, n2, c2, ha, Nat.lt_of_lt_of_le hlt k.1, hc.keptC k, hp.keptC k⟩

/-- The three counters ahead of the certificate at j. -/
def trip (xs : List PC) (q0 m0 a0 : Int) (j : Nat) : Int × Int × Int := (ctr PC.need q0 xs j, ctr PC.nomap m0 xs j, ctr PC.noany a0 xs j)
theorem trip_succ (xs : List PC) (q0 m0 a0 : Int) (j : Nat) : nxt3 (trip xs q0 m0 a0 j) (xs.getD j default) = trip xs q0 m0 a0 (j + 1) := rfl
theorem trip_bd (xs : List PC) {q0 m0 a0 : Int} (hq : 0 ≤ q0 ∧ q0 ≤ 9) (hm : 0 ≤ m0 ∧ m0 ≤ 9) (ha : 0 ≤ a0 ∧ a0 ≤ 9) (j : Nat) : Bd3 (trip xs q0 m0 a0 j) := by
  intro k hk
  match k, hk with
  | 0, _ => exact ctr_bounds _ xs hq.1 hq.2 j
  | 1, _ => exact ctr_bounds _ xs hm.1 hm.2 j
  | 2, _ => exact ctr_bounds _ xs ha.1 ha.2 j
def flat3 (ps : List (Int × Int × Int)) : List Value := ps.flatMap fun p => [Value.int .i64 p.1, .int .i64 p.2.1, .int .i64 p.2.2]
theorem flat3_snoc (a : List (Int × Int × Int)) (p : Int × Int × Int) : flat3 (a ++ [p]) = flat3 a ++ [Value.int .i64 p.1, .int .i64 p.2.1, .int .i64 p.2.2] := by simp [flat3, List.flatMap_append]
theorem flat3_cons (p : Int × Int × Int) (r : List (Int × Int × Int)) : flat3 (p :: r) = Value.int .i64 p.1 :: .int .i64 p.2.1 :: .int .i64 p.2.2 :: flat3 r := rfl
theorem flat3_get (ps : List (Int × Int × Int)) : ∀ k, k < ps.length → (flat3 ps)[k * 3]? = some (.int .i64 (ps.getD k default).1) ∧ (flat3 ps)[k * 3 + 1]? = some (.int .i64 (ps.getD k default).2.1) ∧ (flat3 ps)[k * 3 + 2]? = some (.int .i64 (ps.getD k default).2.2) := by
  induction ps with
  | nil => intro k h; simp at h
  | cons p r ih =>
    intro k h
    cases k with
    | zero => simp [flat3_cons]
    | succ k =>
      have := ih k (by simpa using h)
      rw [flat3_cons, show (k + 1) * 3 = k * 3 + 1 + 1 + 1 by omega]
      simpa using this
/-- The slice at a holds the counters ahead of each of n places. -/
structure Ctrs (w : World) (a : Option Addr) (n : Nat) (T : Nat → Int × Int × Int) : Prop where
  max : n ≤ 9223372036854775807
  get : ∀ k, k < n → ∃ b off, a = some ⟨b, off, none⟩ ∧ b < w.heap.size ∧ w.cell? ⟨b, off + k * 3, none⟩ = some (.int .i64 (T k).1) ∧ w.cell? ⟨b, off + k * 3 + 1, none⟩ = some (.int .i64 (T k).2.1) ∧ w.cell? ⟨b, off + k * 3 + 2, none⟩ = some (.int .i64 (T k).2.2)
theorem Ctrs.keptC {w w' : World} {a : Option Addr} {n : Nat} {T : Nat → Int × Int × Int} (h : Ctrs w a n T) (k : KeptC w w') : Ctrs w' a n T := by
  refine ⟨h.max, fun j hj => ?_⟩
  obtain ⟨b, off, ha, hlt, h0, h1, h2⟩ := h.get j hj
  exact ⟨b, off, ha, Nat.lt_of_lt_of_le hlt k.1, k.2 _ _ _ h0, k.2 _ _ _ h1, k.2 _ _ _ h2⟩
theorem ctrs_of_row {w : World} {B n cap : Nat} {a : Option Addr} {T : Nat → Int × Int × Int} (h : w.ownsRow B 86 3 (.slice a n cap) n (flat3 ((List.range n).map T))) (hn : n ≤ 9223372036854775807) : Ctrs w a n T := by
  refine ⟨hn, fun k hk => ?_⟩
  have hf := flat3_get ((List.range n).map T) k (by simp; exact hk)
  have ek : ((List.range n).map T).getD k default = T k := by simp [hk]
  rw [ek] at hf
  rcases h.2 with ⟨_, h0⟩ | ⟨g, cap', cur, hv, hb, hg, _⟩
  · omega
  · simp only [Value.slice.injEq] at hv
    obtain ⟨rfl, _, rfl⟩ := hv
    exact ⟨g, 0, rfl, (Array.getElem?_eq_some_iff.1 hg).1, by rw [Nat.zero_add, h.cellAt _ (by omega)]; exact hf.1, by rw [Nat.zero_add, h.cellAt _ (by omega)]; exact hf.2.1, by rw [Nat.zero_add, h.cellAt _ (by omega)]; exact hf.2.2⟩

theorem Try.infoCtr : (Try.prog.info? 86).map (fun i => (i.zero, i.size, i.bytes)) = some (some (.agg #[.int .i64 0, .int .i64 0, .int .i64 0]), 3, 24) := by kernel_rfl
theorem step_append_ownP {P : Program} {ops : Array Oper} {o : Oper} {a : Act} {w : World} {K : Act → World → Prop} {Q : Exit → Act → World → Prop} {E : Prop}
    (hg : o.guard = none) (s x : Operand) (t : TypeId) (hop : o.op = Op.call { callee := Callee.builtin Builtin.append, args := #[s, x], argTypes := #[t, t] })
    (base : Nat) (e : TypeId) (i : TypeInfo) (z : Value) (size bytes : Nat) (h1 : P.underlying t = some (.slice e)) (h2 : P.info? e = some i) (h3 : i.zero = some z) (h4 : i.size = size) (h5 : i.bytes = bytes) (h6 : z.cells.size = size) (h7 : 0 < size)
    (v : Value) (n : Nat) (xs : List Value) (hs : a.eval s = v) (hown : w.ownsRow base e size v n xs)
    (ad : Addr) (m c : Nat) (news : List Value) (hx : a.eval x = .slice (some ad) m c) (hn : news.length = m * size) (hc : ∀ j u, news[j]? = some u → w.cell? (ad.add j) = some u) (h1c : ∀ u ∈ news, u.oneCell' = true)
    (b1 : n + m ≤ maxLen) (b2 : (n + m) * bytes ≤ 140737488355328) (b3 : base ≤ w.heap.size)
    (hK : ∀ v' w', w'.ownsRow base e size v' (n + m) (xs ++ news) → w.grownBy w' v.ownBlock → K (a.put o.dst v') w') :
    if Region.wanted o (yielded ops a.tmps) = true then Oper.wp P o a w K Q else E := by
  have hw : Region.wanted o (yielded ops a.tmps) = true := by simp [Region.wanted, hg]
  rw [if_pos hw]
  obtain ⟨v', w', hrun, r1, r2, _⟩ := run_append_own (P := P) w base t o.type e i z size bytes h1 h2 h3 h4 h5 h6 h7 v n xs hown ad m c news hn hc h1c b1 b2 b3
  unfold Oper.wp
  simp [execOp, hop, resolve, invoke, builtin, hs, hx, hrun, Result.andThen]
  exact hK v' w' r1 r2
theorem owns_shapeP {w : World} {B e s n : Nat} {v : Value} {xs : List Value} (h : w.ownsRow B e s v n xs) : ∃ a c, v = .slice a n c := by
  rcases h.2 with ⟨rfl, rfl⟩ | ⟨g, cap, cur, rfl, _⟩
  · exact ⟨_, _, rfl⟩
  · exact ⟨_, _, rfl⟩
theorem run_index3 (w : World) (b0 b1 b2 : Bool) (k : Nat) (hk : k < 3) : (Instr.index 63 (.agg #[.bool b0, .bool b1, .bool b2]) (.int .i64 (k : Int))).run Try.prog w = .ok (.bool ([b0, b1, b2].getD k false)) w := by
  match k, hk with
  | 0, _ => simp [Instr.index, run_underlying Try.underlying63, asIntOf, part, go_sem]
  | 1, _ => simp [Instr.index, run_underlying Try.underlying63, asIntOf, part, go_sem]
  | 2, _ => simp [Instr.index, run_underlying Try.underlying63, asIntOf, part, go_sem]

/-- The first k of three counters as they begin. -/
def ini3 (b0 b1 b2 : Bool) (n k : Nat) : Array Value := #[.int .i64 (if 0 < k then ctr0 b0 n else 0), .int .i64 (if 1 < k then ctr0 b1 n else 0), .int .i64 (if 2 < k then ctr0 b2 n else 0)]
theorem ini_set (b0 b1 b2 : Bool) (n k : Nat) (hk : k < 3) : (ini3 b0 b1 b2 n k).setIfInBounds k (.int .i64 (ctr0 ([b0, b1, b2].getD k false) n)) = ini3 b0 b1 b2 n (k + 1) := by
  match k, hk with
  | 0, _ => rfl
  | 1, _ => rfl
  | 2, _ => rfl
theorem ini_zero (b0 b1 b2 : Bool) (n k : Nat) (hk : k < 3) (h : [b0, b1, b2].getD k false = true) : ini3 b0 b1 b2 n k = ini3 b0 b1 b2 n (k + 1) := by
  match k, hk with
  | 0, _ => have h : b0 = true := h; subst h; rfl
  | 1, _ => have h : b1 = true := h; subst h; rfl
  | 2, _ => have h : b2 = true := h; subst h; rfl
theorem ini_get (b0 b1 b2 : Bool) (n k : Nat) (hk : k < 3) : (ini3 b0 b1 b2 n k)[k]? = some (.int .i64 0) := by
  match k, hk with
  | 0, _ => rfl
  | 1, _ => rfl
  | 2, _ => rfl
theorem ini_all (b0 b1 b2 : Bool) (n : Nat) : ini3 b0 b1 b2 n 3 = #[.int .i64 (ctr0 b0 n), .int .i64 (ctr0 b1 n), .int .i64 (ctr0 b2 n)] := rfl

end Go.Proofs.Ytdkgilkjcndonaa
