import Derived.Test.YtkpabanjlhlmfaaGreatDoorMCc
import Derived.Test.YtkpabanjlhlmfaaGreatDoorMGa
import Derived.OwnWalk
import Derived.Laws.AppendOwn
import Derived.Deep.Slices
import Derived.Laws.Rows
import Derived.BigQuiet
import Derived.Test.YtkpabanjlhlmfaaGreatDoorMCe
import Derived.Test.YtkpabanjlhlmfaaGreatDoorMCb
import Derived.Test.YtkpabanjlhlmfaaGreatDoorMCd
set_option linter.unusedVariables false
namespace Go.Proofs.YtkpabanjlhlmfaaGreatDoor
open Go.RowKit

/-- The cells of general names, each with the slice that holds its parts. -/
def flG (its : List (GE × Option Addr × Nat × Nat)) : List Value := its.flatMap fun p => [.int .i64 p.1.g.kind, .string p.1.g.text, .int .i64 p.1.g.addr, .int .i64 p.1.g.bits, .slice p.2.1 p.2.2.1 p.2.2.2]
theorem flG_cons (p : (GE × Option Addr × Nat × Nat)) (r : List (GE × Option Addr × Nat × Nat)) : flG (p :: r) = Value.int .i64 p.1.g.kind :: .string p.1.g.text :: .int .i64 p.1.g.addr :: .int .i64 p.1.g.bits :: .slice p.2.1 p.2.2.1 p.2.2.2 :: flG r := rfl
theorem flG_append (a b : List (GE × Option Addr × Nat × Nat)) : flG (a ++ b) = flG a ++ flG b := by simp [flG, List.flatMap_append]
theorem flG_len (ps : List (GE × Option Addr × Nat × Nat)) : (flG ps).length = ps.length * 5 := by
  induction ps with
  | nil => rfl
  | cons p r ih => rw [flG_cons]; simp [ih]; omega
theorem flG_get (ps : List (GE × Option Addr × Nat × Nat)) : ∀ k (h : k < ps.length), (flG ps)[k * 5]? = some (.int .i64 ps[k].1.g.kind) ∧ (flG ps)[k * 5 + 1]? = some (.string ps[k].1.g.text) ∧ (flG ps)[k * 5 + 2]? = some (.int .i64 ps[k].1.g.addr) ∧ (flG ps)[k * 5 + 3]? = some (.int .i64 ps[k].1.g.bits) ∧ (flG ps)[k * 5 + 4]? = some (.slice ps[k].2.1 ps[k].2.2.1 ps[k].2.2.2) := by
  induction ps with
  | nil => intro k h; simp at h
  | cons p r ih =>
    intro k h
    cases k with
    | zero => simp [flG_cons]
    | succ k =>
      have := ih k (by simpa using h)
      rw [flG_cons, show (k + 1) * 5 = k * 5 + 1 + 1 + 1 + 1 + 1 by omega]
      simpa using this
theorem flG_one (ps : List (GE × Option Addr × Nat × Nat)) : ∀ u ∈ flG ps, u.oneCell' = true := by
  induction ps with
  | nil => intro u hu; simp [flG] at hu
  | cons p r ih =>
    intro u hu
    rw [flG_cons] at hu
    simp only [List.mem_cons] at hu
    rcases hu with rfl | rfl | rfl | rfl | rfl | hu
    · rfl
    · rfl
    · rfl
    · rfl
    · rfl
    · exact ih u hu
/-- What hangs on them is there. -/
def GeI (w : World) (its : List (GE × Option Addr × Nat × Nat)) : Prop := ∀ p ∈ its, Pts w p.2.1 p.2.2.1 p.1.parts ∧ p.1.g.text.size ≤ 9223372036854775807
theorem GeI.kept {w w' : World} {its : List (GE × Option Addr × Nat × Nat)} (h : GeI w its) (hb : Below w.heap.size w w') : GeI w' its := fun p hp => ⟨(h p hp).1.kept hb, (h p hp).2⟩
theorem ges_of_own {B : Nat} {w : World} {a : Option Addr} {n c : Nat} {its : List (GE × Option Addr × Nat × Nat)} (h : w.ownsRow B 96 5 (.slice a n c) n (flG its)) (hi : GeI w its) (hn : n ≤ 9223372036854775807) : Ges w a n (its.map Prod.fst) := by
  have hl : its.length = n := by have := h.1; rw [flG_len] at this; omega
  refine ⟨by simp [hl], hn, fun k hk => ?_⟩
  have hki : k < its.length := by omega
  obtain ⟨g, rfl, hg⟩ : ∃ g, a = some ⟨g, 0, none⟩ ∧ g < w.heap.size := by
    rcases h.2 with ⟨_, h0⟩ | ⟨g, cap', cur, hv, hb, hg, _⟩
    · omega
    · simp only [Value.slice.injEq] at hv
      exact ⟨g, hv.1, (Array.getElem?_eq_some_iff.1 hg).1⟩
  have e : (its.map Prod.fst).getD k default = its[k].1 := by simp [hki]
  obtain ⟨f0, f1, f2, f3, f4⟩ := flG_get its k hki
  have h4 := hi its[k] (List.getElem_mem hki)
  rw [e]
  refine ⟨g, 0, its[k].2.1, its[k].2.2.1, its[k].2.2.2, rfl, hg, ⟨?_, ?_, ?_, ?_, ?_⟩, h4.1, h4.2⟩
  · rw [Nat.zero_add, World.ownsRow.cellAt h _ (by omega)]; exact f0
  · rw [Nat.zero_add, World.ownsRow.cellAt h _ (by omega)]; exact f1
  · rw [Nat.zero_add, World.ownsRow.cellAt h _ (by omega)]; exact f2
  · rw [Nat.zero_add, World.ownsRow.cellAt h _ (by omega)]; exact f3
  · rw [Nat.zero_add, World.ownsRow.cellAt h _ (by omega)]; exact f4
theorem its_of_ges {w : World} {a : Option Addr} {n : Nat} {xs : List GE} (h : Ges w a n xs) : ∃ its : List (GE × Option Addr × Nat × Nat), its.map Prod.fst = xs ∧ GeI w its ∧ ∀ b off sp, a = some ⟨b, off, sp⟩ → (0 < n → sp = none) ∧ ∀ j u, (flG its)[j]? = some u → w.cell? ⟨b, off + j, none⟩ = some u := by
  have each : ∀ i, i < n → ∃ q : Option Addr × Nat × Nat, ∃ b off, a = some ⟨b, off, none⟩ ∧ Cells5 w b (off + i * 5) q.1 q.2.1 q.2.2 (xs.getD i default) ∧ Pts w q.1 q.2.1 (xs.getD i default).parts ∧ (xs.getD i default).g.text.size ≤ 9223372036854775807 := by
    intro i hi
    obtain ⟨b, off, an, nn, cn, ha, _, hc, hp, ht⟩ := h.get i hi
    exact ⟨(an, nn, cn), b, off, ha, hc, hp, ht⟩
  obtain ⟨y, hy⟩ := Go.Deep.choose_lt each
  have hlen := h.len
  refine ⟨(List.range n).map (fun i => (xs.getD i default, y i)), ?_, ?_, ?_⟩
  · apply List.ext_getElem
    · simp [hlen]
    · intro i h1 h2
      simp [List.getD, h2]
  · intro p hp
    simp only [List.mem_map, List.mem_range] at hp
    obtain ⟨i, hi, rfl⟩ := hp
    obtain ⟨_, _, _, _, h3, h4⟩ := hy i hi
    exact ⟨h3, h4⟩
  · intro b off sp ha
    refine ⟨fun hn => ?_, fun j u hj => ?_⟩
    · obtain ⟨b', off', ha', _⟩ := hy 0 hn
      rw [ha] at ha'
      simp at ha'
      exact ha'.2.2
    · have hjl : j < n * 5 := by
        have := (List.getElem?_eq_some_iff.1 hj).1
        rw [flG_len] at this
        simpa using this
      obtain ⟨k, r, hr, rfl⟩ : ∃ k r, r < 5 ∧ j = k * 5 + r := ⟨j / 5, j % 5, by omega, by omega⟩
      have hk : k < n := by omega
      obtain ⟨b', off', ha', hc, _⟩ := hy k hk
      rw [ha] at ha'
      simp at ha'
      obtain ⟨rfl, rfl, _⟩ := ha'
      have hg := flG_get ((List.range n).map (fun i => (xs.getD i default, y i))) k (by simpa using hk)
      simp only [List.getElem_map, List.getElem_range] at hg
      obtain ⟨g0, g1, g2, g3, g4⟩ := hg
      match r, hr with
      | 0, _ => rw [Nat.add_zero, g0] at hj; cases hj; exact hc.c0
      | 1, _ => rw [g1] at hj; cases hj; rw [← Nat.add_assoc]; exact hc.c1
      | 2, _ => rw [g2] at hj; cases hj; rw [← Nat.add_assoc]; exact hc.c2
      | 3, _ => rw [g3] at hj; cases hj; rw [← Nat.add_assoc]; exact hc.c3
      | 4, _ => rw [g4] at hj; cases hj; rw [← Nat.add_assoc]; exact hc.c4

end Go.Proofs.YtkpabanjlhlmfaaGreatDoor

set_option linter.unusedVariables false
namespace Go.Proofs.YtkpabanjlhlmfaaGreatDoor
open Go.RowKit

theorem Tryz.infoGe2 : (Tryz.prog.info? 96).map (fun i => (i.zero, i.size, i.bytes)) = some (some (.agg #[.int .i64 0, .string ⟨#[]⟩, .int .i64 0, .int .i64 0, .slice none 0 0]), 5, 64) := by kernel_rfl

/-- A copy of general names. -/
def CloneP (w : World) (xs : List GE) (n : Nat) (e : Ending) (w' : World) : Prop := ∃ (v : Value) (its : List (GE × Option Addr × Nat × Nat)), e = .returned v ∧ its.map Prod.fst = xs ∧ GeI w its ∧ w'.ownsRow w.heap.size 96 5 v n (flG its) ∧ Below w.heap.size w w'

set_option maxRecDepth 10000 in
set_option maxHeartbeats 1000000 in
theorem cloneGens_any (a : Option Addr) (n c : Nat) (xs : List GE) (w : World) (h : Ges w a n xs) (hn : n ≤ 1048576) (hnil : a = none → c = 0) :
    Calls Tryz.prog 101 #[.slice a n c] w (CloneP w xs n) := by
  obtain ⟨i0, hi, hz0, hz1, hz2⟩ := info_parts Tryz.infoGe2
  obtain ⟨its, e1, e2, e3⟩ := its_of_ges h
  have hil : its.length = n := by have := h.len; rw [← e1] at this; simpa using this
  cases a with
  | none =>
    obtain rfl : n = 0 := by
      rcases Nat.eq_zero_or_pos n with q | q
      · exact q
      · obtain ⟨_, _, _, _, _, hh, _⟩ := h.get 0 q
        cases hh
    obtain rfl := hnil rfl
    obtain rfl : its = [] := List.eq_nil_of_length_eq_zero hil
    have he : ∀ w : World, (binOp .eql 41 (.slice none 0 0) (.slice none 0 0)).run Tryz.prog w = .ok (.bool true) w := fun _ => rfl
    have HX : Hid (([] : List (GE × Option Addr × Nat × Nat)).map Prod.fst = xs) := e1
    clear h e1 e2 e3
    go_enter Tryz.func101, Tryz.ntmps101
    go_wp2
    go_ret
    exact ⟨_, [], rfl, HX.out, fun p hp => absurd hp (by simp), ⟨rfl, .inl ⟨rfl, rfl⟩⟩, Below.refl _ _⟩
  | some ad =>
    obtain ⟨b, off, sp⟩ := ad
    have hB1 : Below w.heap.size w (w.alloc (.cells #[] 96)) := (Below.refl _ _).alloc (Nat.le_refl _) _
    have HO : Hid ((w.alloc (.cells #[] 96)).ownsRow w.heap.size 96 5 (.slice (some ⟨w.heap.size, 0, none⟩) 0 0) 0 (flG [])) := ⟨rfl, .inr ⟨w.heap.size, 0, #[], rfl, Nat.le_refl _, heap_alloc_new w _, Nat.le_refl _, by decide, rfl, rfl⟩⟩
    have he : ∀ w : World, (binOp .eql 41 (.slice (some ⟨b, off, sp⟩) n c) (.slice none 0 0)).run Tryz.prog w = .ok (.bool false) w := fun _ => rfl
    have HCL : Hid (∀ j u, (flG its)[j]? = some u → (w.alloc (.cells #[] 96)).cell? ((⟨b, off, sp⟩ : Addr).add j) = some u) := by
      intro j u hj
      have hpos : 0 < n := by
        have := (List.getElem?_eq_some_iff.1 hj).1
        rw [flG_len] at this
        omega
      obtain rfl : sp = none := (e3 b off sp rfl).1 hpos
      rw [Addr.add_lit]
      have h1 := (e3 b off none rfl).2 j u hj
      exact (hB1.cell (p := ⟨b, off + j, none⟩) (World.block_lt_of_cell? w _ h1)).trans h1
    have HE1 : Hid (its.map Prod.fst = xs) := e1
    have HE2 : Hid (GeI w its) := e2
    have HBB : Hid (Below w.heap.size w (w.alloc (.cells #[] 96))) := hB1
    have hs1 := hB1.size
    have hnl : (flG its).length = n * 5 := by rw [flG_len, hil]
    clear h e1 e2 e3 hB1
    go_enter Tryz.func101, Tryz.ntmps101
    go_wp2_with (first | (at_builtin; refine wpList_append_own _ rfl (.tmp 5) (.tmp 6) 41 rfl w.heap.size 96 i0 _ 5 64 Tryz.underlying41 hi hz0 hz1 hz2 rfl (by decide) _ 0 _ rfl HO.out ⟨b, off, sp⟩ n c (flG its) rfl hnl HCL.out (flG_one _) (by unfold maxLen; omega) (by omega) (by exact hs1) ?_; intro v6 w6 hv6 hg6 _))
    rw [show flG ([] : List (GE × Option Addr × Nat × Nat)) = [] from rfl, List.nil_append, Nat.zero_add] at hv6
    have B6 : Hid (Below w.heap.size w w6) := HBB.out.grown hg6 hs1 (fun q hq => (HO.out.lt q hq).1)
    have HV : Hid (w6.ownsRow w.heap.size 96 5 v6 n (flG its)) := hv6
    clear hv6 hg6
    go_wp2
    go_ret
    exact ⟨v6, its, rfl, HE1.out, HE2.out, HV.out, B6.out⟩

/-- All that a certificate stands for. -/
def allN (x : CE) : List GE := x.nms ++ (if x.sub = [] then [] else [(⟨⟨4, ⟨#[]⟩, 0, 0⟩, x.sub⟩ : GE)])
theorem cell_sub (w : World) (a2 : Option Addr) (n2 c2 : Nat) (sub : List PT) : ∀ q u, (flG [((⟨⟨4, ⟨#[]⟩, 0, 0⟩, sub⟩ : GE), a2, n2, c2)])[q]? = some u → (w.alloc (.cells #[.int .i64 4, .string ⟨#[]⟩, .int .i64 0, .int .i64 0, .slice a2 n2 c2] 96)).cell? ((⟨w.heap.size, 0, none⟩ : Addr).add q) = some u := by
  intro q u hq
  have hh := heap_alloc_new w (.cells #[.int .i64 4, .string ⟨#[]⟩, .int .i64 0, .int .i64 0, .slice a2 n2 c2] 96)
  have hf : flG [((⟨⟨4, ⟨#[]⟩, 0, 0⟩, sub⟩ : GE), a2, n2, c2)] = [.int .i64 4, .string ⟨#[]⟩, .int .i64 0, .int .i64 0, .slice a2 n2 c2] := rfl
  rw [hf] at hq
  rw [Addr.add_lit, Nat.zero_add]
  rw [cell_of_row _ _ q _ 96 (0, 0) hh]
  rw [← hq]
  simp

set_option maxRecDepth 10000 in
set_option maxHeartbeats 2000000 in
theorem allNames_any (s : CES) (x : CE) (w : World) (h : CER w s x) (hz : CEZ x) (ht : CET s) :
    Calls Tryz.prog 58 #[CEv s x] w fun e w' => ∃ a n c, e = .returned (.slice a n c) ∧ Ges w' a n (allN x) ∧ (∀ k, k < n → GeOk ((allN x).getD k default)) ∧ n ≤ 2097152 ∧ Below w.heap.size w w' := by
  obtain ⟨i0, hi, hz0, hz1, hz2⟩ := info_parts Tryz.infoGe2
  obtain ⟨a1, n1, c1, a2, n2, c2, a3, n3, c3, a4, n4, c4, a5, n5, c5, a6, n6, c6, a7, n7, c7, a8, n8, c8, a9, n9, c9⟩ := s
  have HK : Hid (CER w ⟨a1, n1, c1, a2, n2, c2, a3, n3, c3, a4, n4, c4, a5, n5, c5, a6, n6, c6, a7, n7, c7, a8, n8, c8, a9, n9, c9⟩ x) := h
  have HZ : Hid ((n1 ≤ 1048576 ∧ (∀ k, k < n1 → (x.iss.getD k default).val.size ≤ 1048576)) ∧ (n2 ≤ 1048576 ∧ (∀ k, k < n2 → (x.sub.getD k default).val.size ≤ 1048576)) ∧ (n3 ≤ 1048576 ∧ (∀ k, k < n3 → GeOk (x.nms.getD k default))) ∧ (n4 ≤ 1048576 ∧ (∀ k, k < n4 → GeOk (x.per.getD k default))) ∧ (n5 ≤ 1048576 ∧ (∀ k, k < n5 → GeOk (x.den.getD k default))) ∧ (n6 ≤ 1048576) ∧ (n7 ≤ 1048576) ∧ (n8 ≤ 1048576 ∧ (∀ k, k < n8 → XPZ (x.ext.getD k default))) ∧ (n9 ≤ 1048576)) := h.zn.1 hz
  have HZ0 : Hid (CEZ x) := hz
  have HL2 : Hid (x.sub.length = n2) := h.r2.len
  have HL3 : Hid (x.nms.length = n3) := h.r3.len
  have hx2 : n2 ≤ 1048576 := HZ.out.2.1.1
  have hx3 : n3 ≤ 1048576 := HZ.out.2.2.1.1
  have hnil : a3 = none → c3 = 0 := fun e => by
    have h3 : c3 = n3 := ht.2.2.1
    rcases Nat.eq_zero_or_pos n3 with q | q
    · omega
    · obtain ⟨_, _, _, _, _, hh, _⟩ := h.r3.get 0 q
      have hh' : a3 = some _ := hh
      rw [e] at hh'; cases hh'
  clear h hz ht
  show Calls Tryz.prog 58 #[.agg #[.int .i64 x.ser, .slice a1 n1 c1, .slice a2 n2 c2, .int .i64 x.frm, .int .i64 x.til, .int .i64 x.key.1, .int .u64 x.key.2.1, .int .i64 x.key.2.2, .bool x.ca, .int .i64 x.room, .int .i64 x.uses, .slice a3 n3 c3, .slice a4 n4 c4, .slice a5 n5 c5, .slice a6 n6 c6, .slice a7 n7 c7, .int .i64 x.need, .int .i64 x.nomap, .int .i64 x.noany, .slice a8 n8 c8, .slice a9 n9 c9]] w _
  obtain ⟨w0, hw0⟩ : ∃ w0, w0 = w.alloc (.cells #[.int .i64 x.ser, .slice a1 n1 c1, .slice a2 n2 c2, .int .i64 x.frm, .int .i64 x.til, .int .i64 x.key.1, .int .u64 x.key.2.1, .int .i64 x.key.2.2, .bool x.ca, .int .i64 x.room, .int .i64 x.uses, .slice a3 n3 c3, .slice a4 n4 c4, .slice a5 n5 c5, .slice a6 n6 c6, .slice a7 n7 c7, .int .i64 x.need, .int .i64 x.nomap, .int .i64 x.noany, .slice a8 n8 c8, .slice a9 n9 c9] 45) := ⟨_, rfl⟩
  have B0 : Hid (Below w.heap.size w w0) := by show Below _ _ _; rw [hw0]; exact (Below.refl _ _).alloc (Nat.le_refl _) _
  have Y0 : Hid (w0.heap[w.heap.size]? = some (.cells #[.int .i64 x.ser, .slice a1 n1 c1, .slice a2 n2 c2, .int .i64 x.frm, .int .i64 x.til, .int .i64 x.key.1, .int .u64 x.key.2.1, .int .i64 x.key.2.2, .bool x.ca, .int .i64 x.room, .int .i64 x.uses, .slice a3 n3 c3, .slice a4 n4 c4, .slice a5 n5 c5, .slice a6 n6 c6, .slice a7 n7 c7, .int .i64 x.need, .int .i64 x.nomap, .int .i64 x.noany, .slice a8 n8 c8, .slice a9 n9 c9] 45)) := by show _ = _; rw [hw0]; exact heap_alloc_new w _
  have p11 : w0.cell? ⟨w.heap.size, 11, none⟩ = some (.slice a3 n3 c3) := (cell_of_row _ _ 11 _ 45 (0, 0) Y0.out).trans rfl
  go_enter Tryz.func58, Tryz.ntmps58
  go_upto_region 1 with fail
  rw [← hw0]
  clear hw0
  go_wp2_with fail
  refine (cloneGens_any a3 n3 c3 x.nms _ (HK.out.kept B0.out).r3 hx3 hnil).mono ?_
  rintro e w1 ⟨v, its, rfl, hm, hge, hown, hb1⟩
  have B1 : Hid (Below w.heap.size w w1) := B0.out.trans (hb1.mono B0.out.size)
  have Y1 : Hid (w1.heap[w.heap.size]? = some (.cells #[.int .i64 x.ser, .slice a1 n1 c1, .slice a2 n2 c2, .int .i64 x.frm, .int .i64 x.til, .int .i64 x.key.1, .int .u64 x.key.2.1, .int .i64 x.key.2.2, .bool x.ca, .int .i64 x.room, .int .i64 x.uses, .slice a3 n3 c3, .slice a4 n4 c4, .slice a5 n5 c5, .slice a6 n6 c6, .slice a7 n7 c7, .int .i64 x.need, .int .i64 x.nomap, .int .i64 x.noany, .slice a8 n8 c8, .slice a9 n9 c9] 45)) := (hb1.block _ (Array.getElem?_eq_some_iff.1 Y0.out).1).trans Y0.out
  have HGE : Hid (GeI w1 its) := hge.kept hb1
  have HGW : Hid (GeI w0 its) := hge
  have HMP : Hid (its.map Prod.fst = x.nms) := hm
  have HOW : Hid (w1.ownsRow w0.heap.size 96 5 v n3 (flG its)) := hown
  have hs01 : w0.heap.size ≤ w1.heap.size := hb1.size
  have l0 : w.heap.size < w0.heap.size := (Array.getElem?_eq_some_iff.1 Y0.out).1
  have HB01 : Hid (Below w0.heap.size w0 w1) := hb1
  clear p11 hm hge hown hb1
  have p2 : w1.cell? ⟨w.heap.size, 2, none⟩ = some (.slice a2 n2 c2) := (cell_of_row _ _ 2 _ 45 (0, 0) Y1.out).trans rfl
  have GOK : Hid (∀ k, k < x.nms.length → GeOk (x.nms.getD k default)) := fun k hk => HZ.out.2.2.1.2 k (by rw [← HL3.out]; exact hk)
  by_cases e2 : n2 = 0
  · have hlt : ¬ ((0 : Int) < (n2 : Int)) := by omega
    have HAN : Hid (allN x = x.nms) := by
      show _ = _
      unfold allN
      rw [if_pos (List.eq_nil_of_length_eq_zero (by rw [HL2.out]; exact e2)), List.append_nil]
    clear e2
    obtain ⟨av, cv, hv⟩ : ∃ av cv, v = .slice av n3 cv := by
      rcases HOW.out.2 with ⟨hv, h0⟩ | ⟨g, cap', cur, hv, _⟩
      · exact ⟨none, 0, by rw [hv, h0]⟩
      · exact ⟨_, cap', hv⟩
    subst hv
    have HG : Hid (Ges w1 av n3 (allN x)) := by
      show Ges _ _ _ _
      rw [HAN.out, ← HMP.out]
      exact ges_of_own HOW.out HGE.out (by omega)
    have HQ : Hid (∀ k, k < n3 → GeOk ((allN x).getD k default)) := fun k hk => by rw [HAN.out]; exact GOK.out k (by rw [HL3.out]; exact hk)
    go_wp2
    go_ret
    exact ⟨av, n3, cv, rfl, HG.out, HQ.out, by omega, B1.out⟩
  · have hlt : (0 : Int) < (n2 : Int) := by omega
    have HAN : Hid (allN x = x.nms ++ [(⟨⟨4, ⟨#[]⟩, 0, 0⟩, x.sub⟩ : GE)]) := by
      show _ = _
      unfold allN
      rw [if_neg (fun q => e2 (by rw [← HL2.out, q]; rfl))]
    clear e2
    have hal : Below w1.heap.size w1 (w1.alloc (.cells #[.int .i64 4, .string ⟨#[]⟩, .int .i64 0, .int .i64 0, .slice a2 n2 c2] 96)) := (Below.refl _ _).alloc (Nat.le_refl _) _
    have HOR : Hid ((w1.alloc (.cells #[.int .i64 4, .string ⟨#[]⟩, .int .i64 0, .int .i64 0, .slice a2 n2 c2] 96)).ownsRow w0.heap.size 96 5 v n3 (flG its)) := ownsRow_below HOW.out hal
    have hs5 : w0.heap.size ≤ (w1.alloc (.cells #[.int .i64 4, .string ⟨#[]⟩, .int .i64 0, .int .i64 0, .slice a2 n2 c2] 96)).heap.size := Nat.le_trans hs01 hal.size
    have B5 : Hid (Below w0.heap.size w0 (w1.alloc (.cells #[.int .i64 4, .string ⟨#[]⟩, .int .i64 0, .int .i64 0, .slice a2 n2 c2] 96))) := HB01.out.trans (hal.mono hs01)
    have HCL : Hid (_) := cell_sub w1 a2 n2 c2 x.sub
    clear hal
    go_wp2_with (first | (at_builtin; refine wpList_append_own _ rfl (.tmp 12) (.tmp 16) 41 rfl w0.heap.size 96 i0 _ 5 64 Tryz.underlying41 hi hz0 hz1 hz2 rfl (by decide) _ n3 _ rfl HOR.out ⟨w1.heap.size, 0, none⟩ 1 1 (flG [((⟨⟨4, ⟨#[]⟩, 0, 0⟩, x.sub⟩ : GE), a2, n2, c2)]) rfl rfl HCL.out (flG_one _) (by unfold maxLen; omega) (by omega) (by exact hs5) ?_; intro v6 w6 hv6 hg6 _))
    rw [← flG_append] at hv6
    have B6 : Hid (Below w0.heap.size w0 w6) := B5.out.grown hg6 hs5 (fun q hq => (HOR.out.lt q hq).1)
    have B6w : Hid (Below w.heap.size w w6) := B0.out.trans (B6.out.mono B0.out.size)
    have HGE6 : Hid (GeI w6 its) := fun p hp => ⟨(HGW.out p hp).1.kept B6.out, (HGW.out p hp).2⟩
    have HG6 : Hid (GeI w6 (its ++ [((⟨⟨4, ⟨#[]⟩, 0, 0⟩, x.sub⟩ : GE), a2, n2, c2)])) := fun p hp => by
      rcases List.mem_append.1 hp with hp | hp
      · exact HGE6.out p hp
      · simp only [List.mem_singleton] at hp
        subst hp
        exact ⟨(HK.out.kept B6w.out).r2, by show ByteArray.size ⟨#[]⟩ ≤ 9223372036854775807; decide⟩
    obtain ⟨av, cv, hv⟩ : ∃ av cv, v6 = .slice av (n3 + 1) cv := by
      rcases hv6.2 with ⟨_, h0⟩ | ⟨g, cap', cur, hv, _⟩
      · omega
      · exact ⟨_, cap', hv⟩
    subst hv
    have HG : Hid (Ges w6 av (n3 + 1) (allN x)) := by
      show Ges _ _ _ _
      have := ges_of_own hv6 HG6.out (by omega)
      rw [List.map_append, HMP.out] at this
      rw [HAN.out]; exact this
    have HQ : Hid (∀ k, k < n3 + 1 → GeOk ((allN x).getD k default)) := fun k hk => by
      rw [HAN.out]
      by_cases e : k < n3
      · rw [List.getD_eq_getElem?_getD, List.getElem?_append_left (by rw [HL3.out]; exact e), ← List.getD_eq_getElem?_getD]
        exact GOK.out k (by rw [HL3.out]; exact e)
      · obtain rfl : k = n3 := by omega
        rw [List.getD_eq_getElem?_getD, List.getElem?_append_right (by rw [HL3.out]; omega), HL3.out, Nat.sub_self]
        exact ⟨by show ByteArray.size ⟨#[]⟩ ≤ 1048576; decide, by show x.sub.length ≤ 1048576; rw [HL2.out]; exact hx2, fun j hj => HZ.out.2.1.2 j (by rw [← HL2.out]; exact hj)⟩
    clear hv6 hg6
    go_wp2
    go_ret
    exact ⟨av, n3 + 1, cv, rfl, HG.out, HQ.out, by omega, B6w.out⟩

end Go.Proofs.YtkpabanjlhlmfaaGreatDoor

set_option linter.unusedVariables false
namespace Go.Proofs.YtkpabanjlhlmfaaGreatDoor
open Go.RowKit

/-- What a certificate stands for fits. -/
def fnP (per : List GE) (np : Nat) (den : List GE) (nd : Nat) (x : CE) : Prop := ceP x ∧ BasesN per np ∧ BasesN den nd ∧ ∀ k, k < (allN x).length → fitP per np den nd ((allN x).getD k default)

set_option maxRecDepth 10000 in
set_option maxHeartbeats 4000000 in
theorem implFits_any (a1 : Option Addr) (n1 c1 : Nat) (per : List GE) (a2 : Option Addr) (n2 c2 : Nat) (den : List GE) (s : CES) (x : CE) (w : World) (hm : MaxW w) (h1 : Ges w a1 n1 per) (hz1 : ∀ k, k < n1 → GeOk (per.getD k default)) (h2 : Ges w a2 n2 den) (hz2 : ∀ k, k < n2 → GeOk (den.getD k default)) (h : CER w s x) (hz : CEZ x) (ht : CET s) (hu : U64 x.key.2.1) :
    Calls Tryz.prog 14 #[.slice a1 n1 c1, .slice a2 n2 c2, CEv s x] w (SaysB (fnP per n1 den n2 x) w) := by
  have HM : Hid (∀ W, Below w.heap.size w W → MaxW W) := fun W hW => hm.kept hW
  have HCO : Hid (∀ W, Below w.heap.size w W → Calls Tryz.prog 9 #[.agg #[.int .i64 x.ser, .slice s.a1 s.n1 s.c1, .slice s.a2 s.n2 s.c2, .int .i64 x.frm, .int .i64 x.til, .int .i64 x.key.1, .int .u64 x.key.2.1, .int .i64 x.key.2.2, .bool x.ca, .int .i64 x.room, .int .i64 x.uses, .slice s.a3 s.n3 s.c3, .slice s.a4 s.n4 s.c4, .slice s.a5 s.n5 s.c5, .slice s.a6 s.n6 s.c6, .slice s.a7 s.n7 s.c7, .int .i64 x.need, .int .i64 x.nomap, .int .i64 x.noany, .slice s.a8 s.n8 s.c8, .slice s.a9 s.n9 s.c9]] W (Says (ceP x) W)) := fun W hW => implCertOk_any s x W (hm.kept hW) (h.kept hW) hz ht hu
  have HAN : Hid (∀ W, Below w.heap.size w W → Calls Tryz.prog 58 #[.agg #[.int .i64 x.ser, .slice s.a1 s.n1 s.c1, .slice s.a2 s.n2 s.c2, .int .i64 x.frm, .int .i64 x.til, .int .i64 x.key.1, .int .u64 x.key.2.1, .int .i64 x.key.2.2, .bool x.ca, .int .i64 x.room, .int .i64 x.uses, .slice s.a3 s.n3 s.c3, .slice s.a4 s.n4 s.c4, .slice s.a5 s.n5 s.c5, .slice s.a6 s.n6 s.c6, .slice s.a7 s.n7 s.c7, .int .i64 x.need, .int .i64 x.nomap, .int .i64 x.noany, .slice s.a8 s.n8 s.c8, .slice s.a9 s.n9 s.c9]] W fun e w' => ∃ a n c, e = .returned (.slice a n c) ∧ Ges w' a n (allN x) ∧ (∀ k, k < n → GeOk ((allN x).getD k default)) ∧ n ≤ 2097152 ∧ Below W.heap.size W w') := fun W hW => allNames_any s x W (h.kept hW) hz ht
  have G1 : Hid (Ges w a1 n1 per) := h1
  have G2 : Hid (Ges w a2 n2 den) := h2
  have Q1 : Hid (∀ k, k < n1 → GeOk (per.getD k default)) := hz1
  have Q2 : Hid (∀ k, k < n2 → GeOk (den.getD k default)) := hz2
  clear h hz ht hu hm h1 h2 hz1 hz2
  show Calls Tryz.prog 14 #[.slice a1 n1 c1, .slice a2 n2 c2, .agg #[.int .i64 x.ser, .slice s.a1 s.n1 s.c1, .slice s.a2 s.n2 s.c2, .int .i64 x.frm, .int .i64 x.til, .int .i64 x.key.1, .int .u64 x.key.2.1, .int .i64 x.key.2.2, .bool x.ca, .int .i64 x.room, .int .i64 x.uses, .slice s.a3 s.n3 s.c3, .slice s.a4 s.n4 s.c4, .slice s.a5 s.n5 s.c5, .slice s.a6 s.n6 s.c6, .slice s.a7 s.n7 s.c7, .int .i64 x.need, .int .i64 x.nomap, .int .i64 x.noany, .slice s.a8 s.n8 s.c8, .slice s.a9 s.n9 s.c9]] w _
  obtain ⟨w0, hw0⟩ : ∃ w0, w0 = ((w.alloc (.cells #[.slice a1 n1 c1] 41)).alloc (.cells #[.slice a2 n2 c2] 41)).alloc (.cells #[.int .i64 x.ser, .slice s.a1 s.n1 s.c1, .slice s.a2 s.n2 s.c2, .int .i64 x.frm, .int .i64 x.til, .int .i64 x.key.1, .int .u64 x.key.2.1, .int .i64 x.key.2.2, .bool x.ca, .int .i64 x.room, .int .i64 x.uses, .slice s.a3 s.n3 s.c3, .slice s.a4 s.n4 s.c4, .slice s.a5 s.n5 s.c5, .slice s.a6 s.n6 s.c6, .slice s.a7 s.n7 s.c7, .int .i64 x.need, .int .i64 x.nomap, .int .i64 x.noany, .slice s.a8 s.n8 s.c8, .slice s.a9 s.n9 s.c9] 45) := ⟨_, rfl⟩
  have B0 : Hid (Below w.heap.size w w0) := by show Below _ _ _; rw [hw0]; exact three_below _ _ _ _
  have b0 := three_blocks' w (.cells #[.slice a1 n1 c1] 41) (.cells #[.slice a2 n2 c2] 41) (.cells #[.int .i64 x.ser, .slice s.a1 s.n1 s.c1, .slice s.a2 s.n2 s.c2, .int .i64 x.frm, .int .i64 x.til, .int .i64 x.key.1, .int .u64 x.key.2.1, .int .i64 x.key.2.2, .bool x.ca, .int .i64 x.room, .int .i64 x.uses, .slice s.a3 s.n3 s.c3, .slice s.a4 s.n4 s.c4, .slice s.a5 s.n5 s.c5, .slice s.a6 s.n6 s.c6, .slice s.a7 s.n7 s.c7, .int .i64 x.need, .int .i64 x.nomap, .int .i64 x.noany, .slice s.a8 s.n8 s.c8, .slice s.a9 s.n9 s.c9] 45)
  rw [← hw0] at b0
  have X0 : Hid (w0.heap[w.heap.size]? = some (.cells #[.slice a1 n1 c1] 41)) := b0.1
  have Z0 : Hid (w0.heap[w.heap.size + 1]? = some (.cells #[.slice a2 n2 c2] 41)) := b0.2.1
  have Y0 : Hid (w0.heap[w.heap.size + 1 + 1]? = some (.cells #[.int .i64 x.ser, .slice s.a1 s.n1 s.c1, .slice s.a2 s.n2 s.c2, .int .i64 x.frm, .int .i64 x.til, .int .i64 x.key.1, .int .u64 x.key.2.1, .int .i64 x.key.2.2, .bool x.ca, .int .i64 x.room, .int .i64 x.uses, .slice s.a3 s.n3 s.c3, .slice s.a4 s.n4 s.c4, .slice s.a5 s.n5 s.c5, .slice s.a6 s.n6 s.c6, .slice s.a7 s.n7 s.c7, .int .i64 x.need, .int .i64 x.nomap, .int .i64 x.noany, .slice s.a8 s.n8 s.c8, .slice s.a9 s.n9 s.c9] 45)) := b0.2.2
  clear b0
  go_enter Tryz.func14, Tryz.ntmps14
  go_upto_region 1 with fail
  rw [← hw0]
  clear hw0
  go_wp2_with (first | (refine wpList_load_row rfl 45 _ rfl (w.heap.size + 1 + 1) rfl 45 #[.int .i64 x.ser, .slice s.a1 s.n1 s.c1, .slice s.a2 s.n2 s.c2, .int .i64 x.frm, .int .i64 x.til, .int .i64 x.key.1, .int .u64 x.key.2.1, .int .i64 x.key.2.2, .bool x.ca, .int .i64 x.room, .int .i64 x.uses, .slice s.a3 s.n3 s.c3, .slice s.a4 s.n4 s.c4, .slice s.a5 s.n5 s.c5, .slice s.a6 s.n6 s.c6, .slice s.a7 s.n7 s.c7, .int .i64 x.need, .int .i64 x.nomap, .int .i64 x.noany, .slice s.a8 s.n8 s.c8, .slice s.a9 s.n9 s.c9] (0, 0) _ Y0.out Tryz.underlying45 rfl infoSizeC7 ?_) | fail)
  refine (HCO.out _ B0.out).mono ?_
  rintro e w1 ⟨v1, rfl, hv1, hb1⟩
  have B1 : Hid (Below w.heap.size w w1) := B0.out.trans (hb1.mono B0.out.size)
  have X1 : Hid (w1.heap[w.heap.size]? = some (.cells #[.slice a1 n1 c1] 41)) := (hb1.block _ (Array.getElem?_eq_some_iff.1 X0.out).1).trans X0.out
  have Z1 : Hid (w1.heap[w.heap.size + 1]? = some (.cells #[.slice a2 n2 c2] 41)) := (hb1.block _ (Array.getElem?_eq_some_iff.1 Z0.out).1).trans Z0.out
  have Y1 : Hid (w1.heap[w.heap.size + 1 + 1]? = some (.cells #[.int .i64 x.ser, .slice s.a1 s.n1 s.c1, .slice s.a2 s.n2 s.c2, .int .i64 x.frm, .int .i64 x.til, .int .i64 x.key.1, .int .u64 x.key.2.1, .int .i64 x.key.2.2, .bool x.ca, .int .i64 x.room, .int .i64 x.uses, .slice s.a3 s.n3 s.c3, .slice s.a4 s.n4 s.c4, .slice s.a5 s.n5 s.c5, .slice s.a6 s.n6 s.c6, .slice s.a7 s.n7 s.c7, .int .i64 x.need, .int .i64 x.nomap, .int .i64 x.noany, .slice s.a8 s.n8 s.c8, .slice s.a9 s.n9 s.c9] 45)) := (hb1.block _ (Array.getElem?_eq_some_iff.1 Y0.out).1).trans Y0.out
  have HV1 : Hid _ := hv1
  clear hb1 hv1 B0 X0 Z0 Y0
  rcases v1 with _ | _
  · have HN : Hid (¬ fnP per n1 den n2 x) := fun q => by have := HV1.out.2 q.1; cases this
    go_wp2
    go_ret
    exact saysB_f HN.out B1.out
  have HCE : Hid (ceP x) := HV1.out.1 rfl
  clear HV1
  have k1 : w1.cell? ⟨w.heap.size, 0, none⟩ = some (.slice a1 n1 c1) := (cell_of_row _ _ 0 _ _ (0, 0) X1.out).trans rfl
  go_wp2_with fail
  refine (everyBase_any a1 n1 c1 per _ (HM.out _ B1.out) (G1.out.kept B1.out) Q1.out).mono ?_
  rintro e w2 ⟨v2, rfl, hv2, hb2⟩
  have B2 : Hid (Below w.heap.size w w2) := B1.out.trans (hb2.mono B1.out.size)
  have X2 : Hid (w2.heap[w.heap.size]? = some (.cells #[.slice a1 n1 c1] 41)) := (hb2.block _ (Array.getElem?_eq_some_iff.1 X1.out).1).trans X1.out
  have Z2 : Hid (w2.heap[w.heap.size + 1]? = some (.cells #[.slice a2 n2 c2] 41)) := (hb2.block _ (Array.getElem?_eq_some_iff.1 Z1.out).1).trans Z1.out
  have Y2 : Hid (w2.heap[w.heap.size + 1 + 1]? = some (.cells #[.int .i64 x.ser, .slice s.a1 s.n1 s.c1, .slice s.a2 s.n2 s.c2, .int .i64 x.frm, .int .i64 x.til, .int .i64 x.key.1, .int .u64 x.key.2.1, .int .i64 x.key.2.2, .bool x.ca, .int .i64 x.room, .int .i64 x.uses, .slice s.a3 s.n3 s.c3, .slice s.a4 s.n4 s.c4, .slice s.a5 s.n5 s.c5, .slice s.a6 s.n6 s.c6, .slice s.a7 s.n7 s.c7, .int .i64 x.need, .int .i64 x.nomap, .int .i64 x.noany, .slice s.a8 s.n8 s.c8, .slice s.a9 s.n9 s.c9] 45)) := (hb2.block _ (Array.getElem?_eq_some_iff.1 Y1.out).1).trans Y1.out
  have HV2 : Hid _ := hv2
  clear hb2 hv2 B1 X1 Z1 Y1 k1
  rcases v2 with _ | _
  · have HN : Hid (¬ fnP per n1 den n2 x) := fun q => by have := HV2.out.2 q.2.1; cases this
    go_wp2
    go_ret
    exact saysB_f HN.out B2.out
  have HPE : Hid (BasesN per n1) := HV2.out.1 rfl
  clear HV2
  have k2 : w2.cell? ⟨w.heap.size + 1, 0, none⟩ = some (.slice a2 n2 c2) := (cell_of_row _ _ 0 _ _ (0, 0) Z2.out).trans rfl
  go_wp2_with fail
  refine (everyBase_any a2 n2 c2 den _ (HM.out _ B2.out) (G2.out.kept B2.out) Q2.out).mono ?_
  rintro e w3 ⟨v3, rfl, hv3, hb3⟩
  have B3 : Hid (Below w.heap.size w w3) := B2.out.trans (hb3.mono B2.out.size)
  have X3 : Hid (w3.heap[w.heap.size]? = some (.cells #[.slice a1 n1 c1] 41)) := (hb3.block _ (Array.getElem?_eq_some_iff.1 X2.out).1).trans X2.out
  have Z3 : Hid (w3.heap[w.heap.size + 1]? = some (.cells #[.slice a2 n2 c2] 41)) := (hb3.block _ (Array.getElem?_eq_some_iff.1 Z2.out).1).trans Z2.out
  have Y3 : Hid (w3.heap[w.heap.size + 1 + 1]? = some (.cells #[.int .i64 x.ser, .slice s.a1 s.n1 s.c1, .slice s.a2 s.n2 s.c2, .int .i64 x.frm, .int .i64 x.til, .int .i64 x.key.1, .int .u64 x.key.2.1, .int .i64 x.key.2.2, .bool x.ca, .int .i64 x.room, .int .i64 x.uses, .slice s.a3 s.n3 s.c3, .slice s.a4 s.n4 s.c4, .slice s.a5 s.n5 s.c5, .slice s.a6 s.n6 s.c6, .slice s.a7 s.n7 s.c7, .int .i64 x.need, .int .i64 x.nomap, .int .i64 x.noany, .slice s.a8 s.n8 s.c8, .slice s.a9 s.n9 s.c9] 45)) := (hb3.block _ (Array.getElem?_eq_some_iff.1 Y2.out).1).trans Y2.out
  have HV3 : Hid _ := hv3
  clear hb3 hv3 B2 X2 Z2 Y2 k2
  rcases v3 with _ | _
  · have HN : Hid (¬ fnP per n1 den n2 x) := fun q => by have := HV3.out.2 q.2.2.1; cases this
    go_wp2
    go_ret
    exact saysB_f HN.out B3.out
  have HDE : Hid (BasesN den n2) := HV3.out.1 rfl
  clear HV3
  go_wp2_with (first | (refine wpList_load_row rfl 45 _ rfl (w.heap.size + 1 + 1) rfl 45 #[.int .i64 x.ser, .slice s.a1 s.n1 s.c1, .slice s.a2 s.n2 s.c2, .int .i64 x.frm, .int .i64 x.til, .int .i64 x.key.1, .int .u64 x.key.2.1, .int .i64 x.key.2.2, .bool x.ca, .int .i64 x.room, .int .i64 x.uses, .slice s.a3 s.n3 s.c3, .slice s.a4 s.n4 s.c4, .slice s.a5 s.n5 s.c5, .slice s.a6 s.n6 s.c6, .slice s.a7 s.n7 s.c7, .int .i64 x.need, .int .i64 x.nomap, .int .i64 x.noany, .slice s.a8 s.n8 s.c8, .slice s.a9 s.n9 s.c9] (0, 0) _ Y3.out Tryz.underlying45 rfl infoSizeC7 ?_) | fail)
  refine (HAN.out _ B3.out).mono ?_
  rintro e w4 ⟨a, n, c, rfl, hg4, hz4, hn4, hb4⟩
  have B4 : Hid (Below w.heap.size w w4) := B3.out.trans (hb4.mono B3.out.size)
  have X4 : Hid (w4.heap[w.heap.size]? = some (.cells #[.slice a1 n1 c1] 41)) := (hb4.block _ (Array.getElem?_eq_some_iff.1 X3.out).1).trans X3.out
  have Z4 : Hid (w4.heap[w.heap.size + 1]? = some (.cells #[.slice a2 n2 c2] 41)) := (hb4.block _ (Array.getElem?_eq_some_iff.1 Z3.out).1).trans Z3.out
  have Y4 : Hid (w4.heap[w.heap.size + 1 + 1]? = some (.cells #[.int .i64 x.ser, .slice s.a1 s.n1 s.c1, .slice s.a2 s.n2 s.c2, .int .i64 x.frm, .int .i64 x.til, .int .i64 x.key.1, .int .u64 x.key.2.1, .int .i64 x.key.2.2, .bool x.ca, .int .i64 x.room, .int .i64 x.uses, .slice s.a3 s.n3 s.c3, .slice s.a4 s.n4 s.c4, .slice s.a5 s.n5 s.c5, .slice s.a6 s.n6 s.c6, .slice s.a7 s.n7 s.c7, .int .i64 x.need, .int .i64 x.nomap, .int .i64 x.noany, .slice s.a8 s.n8 s.c8, .slice s.a9 s.n9 s.c9] 45)) := (hb4.block _ (Array.getElem?_eq_some_iff.1 Y3.out).1).trans Y3.out
  have EV : Hid (Calls Tryz.prog 56 #[.slice a n c, .func (Fn.func 59) #[] #[.pointer (some ⟨w.heap.size + 1, 0, none⟩), .pointer (some ⟨w.heap.size, 0, none⟩)]] w4 (SaysB (∀ k, k < n → fitP per n1 den n2 ((allN x).getD k default)) w4)) := every_fit (fitP per n1 den n2) (w.heap.size + 1) w.heap.size a n c (allN x) w4 hg4 hz4 (fun W an nn cn y hW hy hyz => cl_fit_any y an nn cn a1 n1 c1 per a2 n2 c2 den (w.heap.size + 1) w.heap.size W (HM.out _ (B4.out.trans (hW.mono B4.out.size))) ((hW.block _ (Array.getElem?_eq_some_iff.1 Z4.out).1).trans Z4.out) ((hW.block _ (Array.getElem?_eq_some_iff.1 X4.out).1).trans X4.out) hy hyz (G1.out.kept (B4.out.trans (hW.mono B4.out.size))) Q1.out (G2.out.kept (B4.out.trans (hW.mono B4.out.size))) Q2.out)
  have HLN : Hid ((allN x).length = n) := hg4.len
  clear hb4 hg4 hz4 B3 X3 Z3 Y3
  go_wp2_with fail
  refine EV.out.mono ?_
  rintro e w5 ⟨v5, rfl, hv5, hb5⟩
  have B5 : Hid (Below w.heap.size w w5) := B4.out.trans (hb5.mono B4.out.size)
  have HV : Hid (v5 = true ↔ fnP per n1 den n2 x) := ⟨fun e => ⟨HCE.out, HPE.out, HDE.out, fun k hk => hv5.out.1 e k (by rw [← HLN.out]; exact hk)⟩, fun q => hv5.out.2 (fun k hk => q.2.2.2 k (by rw [HLN.out]; exact hk))⟩
  clear hv5 hb5 EV
  go_wp2
  go_ret
  exact ⟨v5, rfl, HV, B5.out⟩

end Go.Proofs.YtkpabanjlhlmfaaGreatDoor

set_option linter.unusedVariables false
namespace Go.Proofs.YtkpabanjlhlmfaaGreatDoor
open Go.RowKit

theorem ceDrewF {B : Nat} {w w' : World} (h : Below B w w') (n : Nat) : Below B w (w'.drewN n) := by
  induction n with
  | zero => simpa [World.drewN] using h
  | succ n ih => exact ih.drew

set_option maxRecDepth 10000 in
set_option maxHeartbeats 4000000 in
theorem specFit_any (q : GE) (qa : Option Addr) (qn qc : Nat) (a1 : Option Addr) (n1 c1 : Nat) (per : List GE) (a2 : Option Addr) (n2 c2 : Nat) (den : List GE) (w : World) (hq : Pts w qa qn q.parts) (hqz : q.g.text.size ≤ 1048576 ∧ ∀ k, k < qn → (q.parts.getD k default).val.size ≤ 1048576) (h1 : Ges w a1 n1 per) (hz1 : ∀ k, k < n1 → GeOk (per.getD k default)) (h2 : Ges w a2 n2 den) (hz2 : ∀ k, k < n2 → GeOk (den.getD k default)) :
    Calls Tryz.prog 54 #[.slice a1 n1 c1, .slice a2 n2 c2, .agg #[.int .i64 q.g.kind, .string q.g.text, .int .i64 q.g.addr, .int .i64 q.g.bits, .slice qa qn qc]] w (SaysB (fitP per n1 den n2 q) w) := by
  have HQ : Hid (Pts w qa qn q.parts) := hq
  have HQZ : Hid (q.g.text.size ≤ 1048576 ∧ ∀ k, k < qn → (q.parts.getD k default).val.size ≤ 1048576) := hqz
  have G1 : Hid (Ges w a1 n1 per) := h1
  have G2 : Hid (Ges w a2 n2 den) := h2
  have Q1 : Hid (∀ k, k < n1 → GeOk (per.getD k default)) := hz1
  have Q2 : Hid (∀ k, k < n2 → GeOk (den.getD k default)) := hz2
  have hm1 := h1.max
  have hm2 := h2.max
  clear hq hqz h1 h2 hz1 hz2
  obtain ⟨w0, hw0⟩ : ∃ w0, w0 = w.alloc (.cells #[.int .i64 q.g.kind, .string q.g.text, .int .i64 q.g.addr, .int .i64 q.g.bits, .slice qa qn qc] 96) := ⟨_, rfl⟩
  have B0 : Hid (Below w.heap.size w w0) := by show Below _ _ _; rw [hw0]; exact (Below.refl _ _).alloc (Nat.le_refl _) _
  have X0 : Hid (w0.heap[w.heap.size]? = some (.cells #[.int .i64 q.g.kind, .string q.g.text, .int .i64 q.g.addr, .int .i64 q.g.bits, .slice qa qn qc] 96 (0, 0))) := by show _ = _; rw [hw0]; exact heap_alloc_new w _
  go_enter Tryz.func54, Tryz.ntmps54
  go_upto_region 1 with fail
  rw [← hw0]
  clear hw0
  go_wp2
  go_loopw [7] (fun i wr => ∃ k : Nat, k ≤ n2 ∧ i = .int .i64 k ∧ Hid (∀ j, j < k → ¬ wn q (den.getD j default)) ∧ Below w0.heap.size w0 wr) (fun i _ => n2 - (intOf i).toNat)
  case atStart => exact ⟨0, Nat.zero_le _, rfl, fun j hj => absurd hj (Nat.not_lt_zero _), Below.refl _ _⟩
  case round =>
    obtain ⟨wa, hwa⟩ : ∃ wa, wa = wr := ⟨_, rfl⟩
    subst hwa
    obtain ⟨k, hk, rfl, HN, hbr⟩ := hrel
    have Ba : Hid (Below w.heap.size w wa) := B0.out.trans (hbr.mono B0.out.size)
    have Xa : Hid (wa.heap[w.heap.size]? = some (.cells #[.int .i64 q.g.kind, .string q.g.text, .int .i64 q.g.addr, .int .i64 q.g.bits, .slice qa qn qc] 96 (0, 0))) := (hbr.block _ (Array.getElem?_eq_some_iff.1 X0.out).1).trans X0.out
    by_cases hkn : k < n2
    · obtain ⟨b, off, an, nn, cn, rfl, hlb, hcc, hp, _⟩ := G2.out.get k hkn
      have hgp := Q2.out k hkn
      obtain ⟨y, hy⟩ : ∃ y, y = den.getD k default := ⟨_, rfl⟩
      rw [← hy] at hcc hp hgp
      have HY : Hid (y = den.getD k default) := hy
      obtain ⟨c0, c1, c2, c3, c4⟩ := hcc.of (w' := wa) (fun i => Ba.out.cell (p := ⟨b, i, none⟩) hlb)
      have d0 : wa.cell? ⟨w.heap.size, 0, none⟩ = some (.int .i64 q.g.kind) := (cell_of_row _ _ 0 _ 96 (0, 0) Xa.out).trans rfl
      have d1 : wa.cell? ⟨w.heap.size, 1, none⟩ = some (.string q.g.text) := (cell_of_row _ _ 1 _ 96 (0, 0) Xa.out).trans rfl
      have d2 : wa.cell? ⟨w.heap.size, 2, none⟩ = some (.int .i64 q.g.addr) := (cell_of_row _ _ 2 _ 96 (0, 0) Xa.out).trans rfl
      have d3 : wa.cell? ⟨w.heap.size, 3, none⟩ = some (.int .i64 q.g.bits) := (cell_of_row _ _ 3 _ 96 (0, 0) Xa.out).trans rfl
      have d4 : wa.cell? ⟨w.heap.size, 4, none⟩ = some (.slice qa qn qc) := (cell_of_row _ _ 4 _ 96 (0, 0) Xa.out).trans rfl
      have HS : Hid (y.g.text.size ≤ 1048576 ∧ ∀ k, k < nn → (y.parts.getD k default).val.size ≤ 1048576) := ⟨hgp.1, by rw [← hp.len]; exact hgp.2.2⟩
      have WI : Hid (Calls Tryz.prog 99 #[.agg #[.int .i64 q.g.kind, .string q.g.text, .int .i64 q.g.addr, .int .i64 q.g.bits, .slice qa qn qc], .agg #[.int .i64 y.g.kind, .string y.g.text, .int .i64 y.g.addr, .int .i64 y.g.bits, .slice an nn cn]] wa.drew (SaysB (wn q y) wa.drew)) := specWithin_any q.g qa qn qc q.parts y.g an nn cn y.parts wa.drew (HQ.out.kept Ba.out.drew) HQZ.out.2 HQZ.out.1 (hp.kept Ba.out.drew) HS.out.2 HS.out.1
      have hkni : (k : Int) < (n2 : Int) := by omega
      have hs := hbr.size
      clear hcc hy hp hgp
      go_wp2_with fail
      go_region_with (go_at_call 99; refine WI.out.mono ?_; rintro e w2 ⟨v, rfl, hv, hb2⟩)
      all_goals
        have b2 : Below w0.heap.size w0 w2 := hbr.drew.trans (hb2.mono hs)
        have B2 : Hid (Below w.heap.size w w2) := B0.out.trans (b2.mono B0.out.size)
        have HV : Hid _ := hv
        clear hb2 hv c0 c1 c2 c3 c4 d0 d1 d2 d3 d4
        cases v with
        | true =>
          have HF : Hid (¬ fitP per n1 den n2 q) := fun z => z.1 ⟨k, hkn, by rw [← HY.out]; exact HV.out.1 rfl⟩
          go_wp2
          go_ret
          exact saysB_f HF.out B2.out
        | false =>
          have HN2 : Hid (∀ j, j < k + 1 → ¬ wn q (den.getD j default)) := fun j hj => by
            by_cases e : j < k
            · exact HN.out j e
            · obtain rfl : j = k := by omega
              rw [← HY.out]; exact fun z => by have := HV.out.2 z; cases this
          go_wp2
          go_roundw
          case rel => exact ⟨k + 1, by omega, by go_num, HN2, b2⟩
          case measure => simp [intOf]; omega
    have hkn' : k = n2 := by omega
    have hki : ¬ ((k : Int) < (n2 : Int)) := by omega
    have HND : Hid (¬ inOne q den n2) := fun ⟨j, hj, hw⟩ => HN.out j (by omega) hw
    clear HN hkn'
    go_wp2
    go_loopw [9, 8] (fun i f wr => ∃ (m : Nat) (fl : Bool), m ≤ n1 ∧ i = .int .i64 m ∧ f = .bool fl ∧ Hid (fl = true ↔ kindOne q per m) ∧ Hid (∀ j, j < m → ¬ wn q (per.getD j default)) ∧ Below wa.heap.size wa wr) (fun i _ _ => n1 - (intOf i).toNat)
    case atStart => exact ⟨0, false, Nat.zero_le _, rfl, rfl, ⟨fun h => (by cases h), fun ⟨j, hj, _⟩ => absurd hj (Nat.not_lt_zero _)⟩, fun j hj => absurd hj (Nat.not_lt_zero _), Below.refl _ _⟩
    case round =>
      obtain ⟨m, fl, hm, rfl, rfl, HK, HN, hbm⟩ := hrel
      have Bm : Hid (Below w.heap.size w wr) := Ba.out.trans (hbm.mono Ba.out.size)
      have Xm : Hid (wr.heap[w.heap.size]? = some (.cells #[.int .i64 q.g.kind, .string q.g.text, .int .i64 q.g.addr, .int .i64 q.g.bits, .slice qa qn qc] 96 (0, 0))) := (hbm.block _ (Array.getElem?_eq_some_iff.1 Xa.out).1).trans Xa.out
      by_cases hmn : m < n1
      · obtain ⟨b, off, an, nn, cn, rfl, hlb, hcc, hp, _⟩ := G1.out.get m hmn
        have hgp := Q1.out m hmn
        obtain ⟨y, hy⟩ : ∃ y, y = per.getD m default := ⟨_, rfl⟩
        rw [← hy] at hcc hp hgp
        have HY : Hid (y = per.getD m default) := hy
        obtain ⟨c0, c1, c2, c3, c4⟩ := hcc.of (w' := wr) (fun i => Bm.out.cell (p := ⟨b, i, none⟩) hlb)
        have d0 : wr.cell? ⟨w.heap.size, 0, none⟩ = some (.int .i64 q.g.kind) := (cell_of_row _ _ 0 _ 96 (0, 0) Xm.out).trans rfl
        have HS : Hid (y.g.text.size ≤ 1048576 ∧ ∀ k, k < nn → (y.parts.getD k default).val.size ≤ 1048576) := ⟨hgp.1, by rw [← hp.len]; exact hgp.2.2⟩
        have hmni : (m : Int) < (n1 : Int) := by omega
        have hs := hbm.size
        have HPY : Hid (∀ W, Below w.heap.size w W → Pts W an nn y.parts) := fun W hW => hp.kept hW
        have HCY : Hid (∀ W, Below w.heap.size w W → Cells5 W b (off + m * 5) an nn cn y) := fun W hW => hcc.of (fun i => hW.cell (p := ⟨b, i, none⟩) hlb)
        clear hcc hy hp hgp
        by_cases hke : y.g.kind = q.g.kind
        · have he : (y.g.kind == q.g.kind) = true := by simp [hke]
          have HKE : Hid (y.g.kind = q.g.kind) := hke
          clear hke
          go_wp2_with fail
          go_quiet (fail)
          obtain ⟨wd, hwd⟩ : ∃ wd, wd = wr.drewN nq := ⟨_, rfl⟩
          have hbd : Below wa.heap.size wa wd := by rw [hwd]; exact ceDrewF hbm _
          rw [← hwd]
          clear hwd c0 c1 c2 c3 c4 d0
          have Bd : Hid (Below w.heap.size w wd) := Ba.out.trans (hbd.mono Ba.out.size)
          have Xd : Hid (wd.heap[w.heap.size]? = some (.cells #[.int .i64 q.g.kind, .string q.g.text, .int .i64 q.g.addr, .int .i64 q.g.bits, .slice qa qn qc] 96 (0, 0))) := (hbd.block _ (Array.getElem?_eq_some_iff.1 Xa.out).1).trans Xa.out
          obtain ⟨c0, c1, c2, c3, c4⟩ := HCY.out wd Bd.out
          have d0 : wd.cell? ⟨w.heap.size, 0, none⟩ = some (.int .i64 q.g.kind) := (cell_of_row _ _ 0 _ 96 (0, 0) Xd.out).trans rfl
          have d1 : wd.cell? ⟨w.heap.size, 1, none⟩ = some (.string q.g.text) := (cell_of_row _ _ 1 _ 96 (0, 0) Xd.out).trans rfl
          have d2 : wd.cell? ⟨w.heap.size, 2, none⟩ = some (.int .i64 q.g.addr) := (cell_of_row _ _ 2 _ 96 (0, 0) Xd.out).trans rfl
          have d3 : wd.cell? ⟨w.heap.size, 3, none⟩ = some (.int .i64 q.g.bits) := (cell_of_row _ _ 3 _ 96 (0, 0) Xd.out).trans rfl
          have d4 : wd.cell? ⟨w.heap.size, 4, none⟩ = some (.slice qa qn qc) := (cell_of_row _ _ 4 _ 96 (0, 0) Xd.out).trans rfl
          have WI : Hid (Calls Tryz.prog 99 #[.agg #[.int .i64 q.g.kind, .string q.g.text, .int .i64 q.g.addr, .int .i64 q.g.bits, .slice qa qn qc], .agg #[.int .i64 y.g.kind, .string y.g.text, .int .i64 y.g.addr, .int .i64 y.g.bits, .slice an nn cn]] wd.drew (SaysB (wn q y) wd.drew)) := specWithin_any q.g qa qn qc q.parts y.g an nn cn y.parts wd.drew (HQ.out.kept Bd.out.drew) HQZ.out.2 HQZ.out.1 (HPY.out _ Bd.out.drew) HS.out.2 HS.out.1
          have hsd := hbd.size
          go_wp2_with fail
          go_region_with (go_at_call 99; refine WI.out.mono ?_; rintro e w2 ⟨v, rfl, hv, hb2⟩)
          all_goals
            have b2 : Below wa.heap.size wa w2 := hbd.drew.trans (hb2.mono hsd)
            have B2 : Hid (Below w.heap.size w w2) := Ba.out.trans (b2.mono Ba.out.size)
            have HV : Hid _ := hv
            clear hb2 hv c0 c1 c2 c3 c4 d0 d1 d2 d3 d4
            cases v with
            | true =>
              have HF : Hid (fitP per n1 den n2 q) := ⟨HND.out, .inr ⟨m, hmn, by rw [← HY.out]; exact HV.out.1 rfl⟩⟩
              go_wp2
              go_ret
              exact saysB_t HF.out B2.out
            | false =>
              have HN2 : Hid (∀ j, j < m + 1 → ¬ wn q (per.getD j default)) := fun j hj => by
                by_cases e : j < m
                · exact HN.out j e
                · obtain rfl : j = m := by omega
                  rw [← HY.out]; exact fun z => by have := HV.out.2 z; cases this
              have HK2 : Hid (true = true ↔ kindOne q per (m + 1)) := ⟨fun _ => ⟨m, by omega, by rw [← HY.out]; exact HKE.out⟩, fun _ => rfl⟩
              go_wp2
              go_roundw
              case rel => exact ⟨m + 1, true, by omega, by go_num, rfl, HK2, HN2, b2⟩
              case measure => simp [intOf]; omega
        · have he : (y.g.kind == q.g.kind) = false := by simp [hke]
          have HKE : Hid (¬ y.g.kind = q.g.kind) := hke
          clear hke
          have HN2 : Hid (∀ j, j < m + 1 → ¬ wn q (per.getD j default)) := fun j hj => by
            by_cases e : j < m
            · exact HN.out j e
            · obtain rfl : j = m := by omega
              rw [← HY.out]; exact fun z => HKE.out z.2.2.1.symm
          have HK2 : Hid (fl = true ↔ kindOne q per (m + 1)) := ⟨fun e => by obtain ⟨j, hj, h⟩ := HK.out.1 e; exact ⟨j, by omega, h⟩, fun ⟨j, hj, h⟩ => by
            by_cases e : j < m
            · exact HK.out.2 ⟨j, e, h⟩
            · obtain rfl : j = m := by omega
              rw [← HY.out] at h; exact absurd h HKE.out⟩
          go_wp2_with fail
          go_quiet (fail)
          go_wp2
          go_roundw
          case rel => exact ⟨m + 1, fl, by omega, by go_num, rfl, HK2, HN2, ceDrewF hbm _⟩
          case measure => simp [intOf]; omega
      · have hmn' : m = n1 := by omega
        have hmi : ¬ ((m : Int) < (n1 : Int)) := by omega
        subst hmn'
        have HF : Hid ((!fl) = true ↔ fitP per m den n2 q) := by
          constructor
          · intro e
            exact ⟨HND.out, .inl (fun z => by have := HK.out.2 z; rw [this] at e; cases e)⟩
          · intro z
            cases fl with
            | false => rfl
            | true => exact absurd (HK.out.1 rfl) (fun kk => by rcases z.2 with z | ⟨j, hj, hw⟩; exact z kk; exact HN.out j hj hw)
        go_wp2
        go_ret
        exact ⟨!fl, rfl, HF, Bm.out⟩

end Go.Proofs.YtkpabanjlhlmfaaGreatDoor

set_option linter.unusedVariables false
namespace Go.Proofs.YtkpabanjlhlmfaaGreatDoor
open Go.RowKit

theorem all_split {x : CE} {p : GE → Prop} : (∀ k, k < (allN x).length → p ((allN x).getD k default)) ↔ (∀ k, k < x.nms.length → p (x.nms.getD k default)) ∧ (x.sub ≠ [] → p ⟨⟨4, ⟨#[]⟩, 0, 0⟩, x.sub⟩) := by
  unfold allN
  by_cases h : x.sub = []
  · rw [if_pos h, List.append_nil]
    exact ⟨fun q => ⟨q, fun z => absurd h z⟩, fun q => q.1⟩
  · rw [if_neg h]
    constructor
    · intro q
      refine ⟨fun k hk => ?_, fun _ => ?_⟩
      · have := q k (by simp; omega)
        rw [List.getD_eq_getElem?_getD, List.getElem?_append_left hk, ← List.getD_eq_getElem?_getD] at this
        exact this
      · have := q x.nms.length (by simp)
        rw [List.getD_eq_getElem?_getD, List.getElem?_append_right (Nat.le_refl _), Nat.sub_self] at this
        exact this
    · intro q k hk
      by_cases e : k < x.nms.length
      · rw [List.getD_eq_getElem?_getD, List.getElem?_append_left e, ← List.getD_eq_getElem?_getD]
        exact q.1 k e
      · obtain rfl : k = x.nms.length := by simp at hk; omega
        rw [List.getD_eq_getElem?_getD, List.getElem?_append_right (Nat.le_refl _), Nat.sub_self]
        exact q.2 h

set_option maxRecDepth 10000 in
set_option maxHeartbeats 4000000 in
theorem specFits_any (a1 : Option Addr) (n1 c1 : Nat) (per : List GE) (a2 : Option Addr) (n2 c2 : Nat) (den : List GE) (s : CES) (x : CE) (w : World) (h1 : Ges w a1 n1 per) (hz1 : ∀ k, k < n1 → GeOk (per.getD k default)) (h2 : Ges w a2 n2 den) (hz2 : ∀ k, k < n2 → GeOk (den.getD k default)) (h : CER w s x) (hz : CEZ x) (ht : CET s) (hu : U64 x.key.2.1) :
    Calls Tryz.prog 12 #[.slice a1 n1 c1, .slice a2 n2 c2, CEv s x] w (SaysB (fnP per n1 den n2 x) w) := by
  have HK : Hid (CER w s x) := h
  have HZN : Hid ((s.n1 ≤ 1048576 ∧ (∀ k, k < s.n1 → (x.iss.getD k default).val.size ≤ 1048576)) ∧ (s.n2 ≤ 1048576 ∧ (∀ k, k < s.n2 → (x.sub.getD k default).val.size ≤ 1048576)) ∧ (s.n3 ≤ 1048576 ∧ (∀ k, k < s.n3 → GeOk (x.nms.getD k default))) ∧ (s.n4 ≤ 1048576 ∧ (∀ k, k < s.n4 → GeOk (x.per.getD k default))) ∧ (s.n5 ≤ 1048576 ∧ (∀ k, k < s.n5 → GeOk (x.den.getD k default))) ∧ (s.n6 ≤ 1048576) ∧ (s.n7 ≤ 1048576) ∧ (s.n8 ≤ 1048576 ∧ (∀ k, k < s.n8 → XPZ (x.ext.getD k default))) ∧ (s.n9 ≤ 1048576)) := h.zn.1 hz
  have HL2 : Hid (x.sub.length = s.n2) := h.r2.len
  have HL3 : Hid (x.nms.length = s.n3) := h.r3.len
  have HCO : Hid (∀ W, Below w.heap.size w W → Calls Tryz.prog 7 #[.agg #[.int .i64 x.ser, .slice s.a1 s.n1 s.c1, .slice s.a2 s.n2 s.c2, .int .i64 x.frm, .int .i64 x.til, .int .i64 x.key.1, .int .u64 x.key.2.1, .int .i64 x.key.2.2, .bool x.ca, .int .i64 x.room, .int .i64 x.uses, .slice s.a3 s.n3 s.c3, .slice s.a4 s.n4 s.c4, .slice s.a5 s.n5 s.c5, .slice s.a6 s.n6 s.c6, .slice s.a7 s.n7 s.c7, .int .i64 x.need, .int .i64 x.nomap, .int .i64 x.noany, .slice s.a8 s.n8 s.c8, .slice s.a9 s.n9 s.c9]] W (Says (ceP x) W)) := fun W hW => specCertOk_any s x W (h.kept hW) hz ht hu
  have G1 : Hid (Ges w a1 n1 per) := h1
  have G2 : Hid (Ges w a2 n2 den) := h2
  have Q1 : Hid (∀ k, k < n1 → GeOk (per.getD k default)) := hz1
  have Q2 : Hid (∀ k, k < n2 → GeOk (den.getD k default)) := hz2
  have hm1 := h1.max
  have hm2 := h2.max
  clear h hz ht hu h1 h2 hz1 hz2
  show Calls Tryz.prog 12 #[.slice a1 n1 c1, .slice a2 n2 c2, .agg #[.int .i64 x.ser, .slice s.a1 s.n1 s.c1, .slice s.a2 s.n2 s.c2, .int .i64 x.frm, .int .i64 x.til, .int .i64 x.key.1, .int .u64 x.key.2.1, .int .i64 x.key.2.2, .bool x.ca, .int .i64 x.room, .int .i64 x.uses, .slice s.a3 s.n3 s.c3, .slice s.a4 s.n4 s.c4, .slice s.a5 s.n5 s.c5, .slice s.a6 s.n6 s.c6, .slice s.a7 s.n7 s.c7, .int .i64 x.need, .int .i64 x.nomap, .int .i64 x.noany, .slice s.a8 s.n8 s.c8, .slice s.a9 s.n9 s.c9]] w _
  obtain ⟨w0, hw0⟩ : ∃ w0, w0 = w.alloc (.cells #[.int .i64 x.ser, .slice s.a1 s.n1 s.c1, .slice s.a2 s.n2 s.c2, .int .i64 x.frm, .int .i64 x.til, .int .i64 x.key.1, .int .u64 x.key.2.1, .int .i64 x.key.2.2, .bool x.ca, .int .i64 x.room, .int .i64 x.uses, .slice s.a3 s.n3 s.c3, .slice s.a4 s.n4 s.c4, .slice s.a5 s.n5 s.c5, .slice s.a6 s.n6 s.c6, .slice s.a7 s.n7 s.c7, .int .i64 x.need, .int .i64 x.nomap, .int .i64 x.noany, .slice s.a8 s.n8 s.c8, .slice s.a9 s.n9 s.c9] 45) := ⟨_, rfl⟩
  have B0 : Hid (Below w.heap.size w w0) := by show Below _ _ _; rw [hw0]; exact (Below.refl _ _).alloc (Nat.le_refl _) _
  have Y0 : Hid (w0.heap[w.heap.size]? = some (.cells #[.int .i64 x.ser, .slice s.a1 s.n1 s.c1, .slice s.a2 s.n2 s.c2, .int .i64 x.frm, .int .i64 x.til, .int .i64 x.key.1, .int .u64 x.key.2.1, .int .i64 x.key.2.2, .bool x.ca, .int .i64 x.room, .int .i64 x.uses, .slice s.a3 s.n3 s.c3, .slice s.a4 s.n4 s.c4, .slice s.a5 s.n5 s.c5, .slice s.a6 s.n6 s.c6, .slice s.a7 s.n7 s.c7, .int .i64 x.need, .int .i64 x.nomap, .int .i64 x.noany, .slice s.a8 s.n8 s.c8, .slice s.a9 s.n9 s.c9] 45)) := by show _ = _; rw [hw0]; exact heap_alloc_new w _
  go_enter Tryz.func12, Tryz.ntmps12
  go_upto_region 1 with fail
  rw [← hw0]
  clear hw0
  go_wp2_with (first | (refine wpList_load_row rfl 45 _ rfl w.heap.size rfl 45 #[.int .i64 x.ser, .slice s.a1 s.n1 s.c1, .slice s.a2 s.n2 s.c2, .int .i64 x.frm, .int .i64 x.til, .int .i64 x.key.1, .int .u64 x.key.2.1, .int .i64 x.key.2.2, .bool x.ca, .int .i64 x.room, .int .i64 x.uses, .slice s.a3 s.n3 s.c3, .slice s.a4 s.n4 s.c4, .slice s.a5 s.n5 s.c5, .slice s.a6 s.n6 s.c6, .slice s.a7 s.n7 s.c7, .int .i64 x.need, .int .i64 x.nomap, .int .i64 x.noany, .slice s.a8 s.n8 s.c8, .slice s.a9 s.n9 s.c9] (0, 0) _ Y0.out Tryz.underlying45 rfl infoSizeC7 ?_) | fail)
  refine (HCO.out _ B0.out).mono ?_
  rintro e w1 ⟨v1, rfl, hv1, hb1⟩
  have B1 : Hid (Below w.heap.size w w1) := B0.out.trans (hb1.mono B0.out.size)
  have Y1 : Hid (w1.heap[w.heap.size]? = some (.cells #[.int .i64 x.ser, .slice s.a1 s.n1 s.c1, .slice s.a2 s.n2 s.c2, .int .i64 x.frm, .int .i64 x.til, .int .i64 x.key.1, .int .u64 x.key.2.1, .int .i64 x.key.2.2, .bool x.ca, .int .i64 x.room, .int .i64 x.uses, .slice s.a3 s.n3 s.c3, .slice s.a4 s.n4 s.c4, .slice s.a5 s.n5 s.c5, .slice s.a6 s.n6 s.c6, .slice s.a7 s.n7 s.c7, .int .i64 x.need, .int .i64 x.nomap, .int .i64 x.noany, .slice s.a8 s.n8 s.c8, .slice s.a9 s.n9 s.c9] 45)) := (hb1.block _ (Array.getElem?_eq_some_iff.1 Y0.out).1).trans Y0.out
  have HV1 : Hid _ := hv1
  clear hb1 hv1 B0 Y0
  rcases v1 with _ | _
  · have HN : Hid (¬ fnP per n1 den n2 x) := fun q => by have := HV1.out.2 q.1; cases this
    go_wp2
    go_ret
    exact saysB_f HN.out B1.out
  have HCE : Hid (ceP x) := HV1.out.1 rfl
  clear HV1 HCO
  go_wp2
  go_loopw [7] (fun i wr => ∃ k : Nat, k ≤ n1 ∧ i = .int .i64 k ∧ Hid (BasesN per k) ∧ Below w1.heap.size w1 wr) (fun i _ => n1 - (intOf i).toNat)
  case atStart => exact ⟨0, Nat.zero_le _, rfl, fun k hk => absurd hk (Nat.not_lt_zero _), Below.refl _ _⟩
  case round =>
    obtain ⟨wp, hwp⟩ : ∃ wp, wp = wr := ⟨_, rfl⟩
    subst hwp
    obtain ⟨k, hk, rfl, HE, hbr⟩ := hrel
    have Bwp : Hid (Below w.heap.size w wp) := B1.out.trans (hbr.mono B1.out.size)
    have Ywp : Hid (wp.heap[w.heap.size]? = some (.cells #[.int .i64 x.ser, .slice s.a1 s.n1 s.c1, .slice s.a2 s.n2 s.c2, .int .i64 x.frm, .int .i64 x.til, .int .i64 x.key.1, .int .u64 x.key.2.1, .int .i64 x.key.2.2, .bool x.ca, .int .i64 x.room, .int .i64 x.uses, .slice s.a3 s.n3 s.c3, .slice s.a4 s.n4 s.c4, .slice s.a5 s.n5 s.c5, .slice s.a6 s.n6 s.c6, .slice s.a7 s.n7 s.c7, .int .i64 x.need, .int .i64 x.nomap, .int .i64 x.noany, .slice s.a8 s.n8 s.c8, .slice s.a9 s.n9 s.c9] 45)) := (hbr.block _ (Array.getElem?_eq_some_iff.1 Y1.out).1).trans Y1.out
    by_cases hkn : k < n1
    · obtain ⟨b, off, an, nn, cn, rfl, hlb, hc, hp, _⟩ := G1.out.get k hkn
      have hgp := Q1.out k hkn
      obtain ⟨y, hy⟩ : ∃ y, y = per.getD k default := ⟨_, rfl⟩
      rw [← hy] at hc hp hgp
      have HY : Hid (y = per.getD k default) := hy
      obtain ⟨e0, e1, e2, e3, e4⟩ := hc.of (w' := wp) (fun i => Bwp.out.cell (p := ⟨b, i, none⟩) hlb)
      have HP : Hid (Pts wp an nn y.parts) := hp.kept Bwp.out
      have HS : Hid (y.g.text.size ≤ 1048576 ∧ ∀ k, k < nn → (y.parts.getD k default).val.size ≤ 1048576) := ⟨hgp.1, by rw [← hp.len]; exact hgp.2.2⟩
      have hkni : (k : Int) < (n1 : Int) := by omega
      clear hc hy hp hgp
      go_wp2_with fail
      refine (specBaseOk_any y.g an nn cn y.parts _ HP.out HS.out.2 HS.out.1).mono ?_
      rintro e w2 ⟨v, rfl, hv, hb2⟩
      have b2 : Below w1.heap.size w1 w2 := hbr.trans (hb2.mono hbr.size)
      have B2 : Hid (Below w.heap.size w w2) := B1.out.trans (b2.mono B1.out.size)
      have HV : Hid _ := hv
      clear hb2 hv e0 e1 e2 e3 e4
      cases v with
      | false =>
        have HN : Hid (¬ fnP per n1 den n2 x) := fun q => by have := q.2.1 k hkn; rw [← HY.out] at this; have := HV.out.2 this; simp at this
        go_wp2
        go_ret
        exact saysB_f HN.out B2.out
      | true =>
        have HN : Hid (BasesN per (k + 1)) := fun j hj => by
          by_cases e : j < k
          · exact HE.out j e
          · obtain rfl : j = k := by omega
            rw [← HY.out]; exact HV.out.1 rfl
        go_wp2
        go_roundw
        case rel => exact ⟨k + 1, by omega, by go_num, HN, b2⟩
        case measure => simp [intOf]; omega
    have hki : ¬ ((k : Int) < (n1 : Int)) := by omega
    have Hwp : Hid (BasesN per n1) := fun j hj => HE.out j (by omega)
    clear HE hkn
    go_wp2
    go_loopw [8] (fun i wr => ∃ k : Nat, k ≤ n2 ∧ i = .int .i64 k ∧ Hid (BasesN den k) ∧ Below wp.heap.size wp wr) (fun i _ => n2 - (intOf i).toNat)
    case atStart => exact ⟨0, Nat.zero_le _, rfl, fun k hk => absurd hk (Nat.not_lt_zero _), Below.refl _ _⟩
    case round =>
      obtain ⟨wq, hwq⟩ : ∃ wq, wq = wr := ⟨_, rfl⟩
      subst hwq
      obtain ⟨k, hk, rfl, HE, hbr⟩ := hrel
      have Bwq : Hid (Below w.heap.size w wq) := Bwp.out.trans (hbr.mono Bwp.out.size)
      have Ywq : Hid (wq.heap[w.heap.size]? = some (.cells #[.int .i64 x.ser, .slice s.a1 s.n1 s.c1, .slice s.a2 s.n2 s.c2, .int .i64 x.frm, .int .i64 x.til, .int .i64 x.key.1, .int .u64 x.key.2.1, .int .i64 x.key.2.2, .bool x.ca, .int .i64 x.room, .int .i64 x.uses, .slice s.a3 s.n3 s.c3, .slice s.a4 s.n4 s.c4, .slice s.a5 s.n5 s.c5, .slice s.a6 s.n6 s.c6, .slice s.a7 s.n7 s.c7, .int .i64 x.need, .int .i64 x.nomap, .int .i64 x.noany, .slice s.a8 s.n8 s.c8, .slice s.a9 s.n9 s.c9] 45)) := (hbr.block _ (Array.getElem?_eq_some_iff.1 Ywp.out).1).trans Ywp.out
      by_cases hkn : k < n2
      · obtain ⟨b, off, an, nn, cn, rfl, hlb, hc, hp, _⟩ := G2.out.get k hkn
        have hgp := Q2.out k hkn
        obtain ⟨y, hy⟩ : ∃ y, y = den.getD k default := ⟨_, rfl⟩
        rw [← hy] at hc hp hgp
        have HY : Hid (y = den.getD k default) := hy
        obtain ⟨e0, e1, e2, e3, e4⟩ := hc.of (w' := wq) (fun i => Bwq.out.cell (p := ⟨b, i, none⟩) hlb)
        have HP : Hid (Pts wq an nn y.parts) := hp.kept Bwq.out
        have HS : Hid (y.g.text.size ≤ 1048576 ∧ ∀ k, k < nn → (y.parts.getD k default).val.size ≤ 1048576) := ⟨hgp.1, by rw [← hp.len]; exact hgp.2.2⟩
        have hkni : (k : Int) < (n2 : Int) := by omega
        clear hc hy hp hgp
        go_wp2_with fail
        refine (specBaseOk_any y.g an nn cn y.parts _ HP.out HS.out.2 HS.out.1).mono ?_
        rintro e w2 ⟨v, rfl, hv, hb2⟩
        have b2 : Below wp.heap.size wp w2 := hbr.trans (hb2.mono hbr.size)
        have B2 : Hid (Below w.heap.size w w2) := Bwp.out.trans (b2.mono Bwp.out.size)
        have HV : Hid _ := hv
        clear hb2 hv e0 e1 e2 e3 e4
        cases v with
        | false =>
          have HN : Hid (¬ fnP per n1 den n2 x) := fun q => by have := q.2.2.1 k hkn; rw [← HY.out] at this; have := HV.out.2 this; simp at this
          go_wp2
          go_ret
          exact saysB_f HN.out B2.out
        | true =>
          have HN : Hid (BasesN den (k + 1)) := fun j hj => by
            by_cases e : j < k
            · exact HE.out j e
            · obtain rfl : j = k := by omega
              rw [← HY.out]; exact HV.out.1 rfl
          go_wp2
          go_roundw
          case rel => exact ⟨k + 1, by omega, by go_num, HN, b2⟩
          case measure => simp [intOf]; omega
      have hki : ¬ ((k : Int) < (n2 : Int)) := by omega
      have Hwq : Hid (BasesN den n2) := fun j hj => HE.out j (by omega)
      clear HE hkn
      go_wp2
      go_loopw [9] (fun i wr => ∃ k : Nat, k ≤ s.n3 ∧ i = .int .i64 k ∧ Hid (∀ j, j < k → fitP per n1 den n2 (x.nms.getD j default)) ∧ Below wq.heap.size wq wr) (fun i _ => s.n3 - (intOf i).toNat)
      case atStart => exact ⟨0, Nat.zero_le _, rfl, fun k hk => absurd hk (Nat.not_lt_zero _), Below.refl _ _⟩
      case round =>
        obtain ⟨k, hk, rfl, HE, hbr⟩ := hrel
        have Br : Hid (Below w.heap.size w wr) := Bwq.out.trans (hbr.mono Bwq.out.size)
        have Yr : Hid (wr.heap[w.heap.size]? = some (.cells #[.int .i64 x.ser, .slice s.a1 s.n1 s.c1, .slice s.a2 s.n2 s.c2, .int .i64 x.frm, .int .i64 x.til, .int .i64 x.key.1, .int .u64 x.key.2.1, .int .i64 x.key.2.2, .bool x.ca, .int .i64 x.room, .int .i64 x.uses, .slice s.a3 s.n3 s.c3, .slice s.a4 s.n4 s.c4, .slice s.a5 s.n5 s.c5, .slice s.a6 s.n6 s.c6, .slice s.a7 s.n7 s.c7, .int .i64 x.need, .int .i64 x.nomap, .int .i64 x.noany, .slice s.a8 s.n8 s.c8, .slice s.a9 s.n9 s.c9] 45)) := (hbr.block _ (Array.getElem?_eq_some_iff.1 Ywq.out).1).trans Ywq.out
        have hx3 : s.n3 ≤ 1048576 := HZN.out.2.2.1.1
        have hx2 : s.n2 ≤ 1048576 := HZN.out.2.1.1
        by_cases hkn : k < s.n3
        · obtain ⟨b, off, an, nn, cn, hae, hlb, hc, hp, _⟩ := HK.out.r3.get k hkn
          have hgp := HZN.out.2.2.1.2 k hkn
          obtain ⟨y, hy⟩ : ∃ y, y = x.nms.getD k default := ⟨_, rfl⟩
          rw [← hy] at hc hp hgp
          have HY : Hid (y = x.nms.getD k default) := hy
          obtain ⟨e0, e1, e2, e3, e4⟩ := hc.of (w' := wr) (fun i => Br.out.cell (p := ⟨b, i, none⟩) hlb)
          have p11 : wr.cell? ⟨w.heap.size, 11, none⟩ = some (.slice (some ⟨b, off, none⟩) s.n3 s.c3) := by rw [← hae]; exact (cell_of_row _ _ 11 _ 45 (0, 0) Yr.out).trans rfl
          have FI : Hid (Calls Tryz.prog 54 #[.slice a1 n1 c1, .slice a2 n2 c2, .agg #[.int .i64 y.g.kind, .string y.g.text, .int .i64 y.g.addr, .int .i64 y.g.bits, .slice an nn cn]] wr (SaysB (fitP per n1 den n2 y) wr)) := specFit_any y an nn cn a1 n1 c1 per a2 n2 c2 den wr (hp.kept Br.out) ⟨hgp.1, by rw [← hp.len]; exact hgp.2.2⟩ (G1.out.kept Br.out) Q1.out (G2.out.kept Br.out) Q2.out
          have hkni : (k : Int) < (s.n3 : Int) := by omega
          clear hc hy hp hgp hae
          go_wp2_with fail
          refine FI.out.mono ?_
          rintro e w2 ⟨v, rfl, hv, hb2⟩
          have b2 : Below wq.heap.size wq w2 := hbr.trans (hb2.mono hbr.size)
          have B2 : Hid (Below w.heap.size w w2) := Bwq.out.trans (b2.mono Bwq.out.size)
          have HV : Hid _ := hv
          clear hb2 hv e0 e1 e2 e3 e4 p11
          cases v with
          | false =>
            have HN : Hid (¬ fnP per n1 den n2 x) := fun q => by have := (all_split.1 q.2.2.2).1 k (by rw [HL3.out]; exact hkn); rw [← HY.out] at this; have := HV.out.2 this; simp at this
            go_wp2
            go_ret
            exact saysB_f HN.out B2.out
          | true =>
            have HN : Hid (∀ j, j < k + 1 → fitP per n1 den n2 (x.nms.getD j default)) := fun j hj => by
              by_cases e : j < k
              · exact HE.out j e
              · obtain rfl : j = k := by omega
                rw [← HY.out]; exact HV.out.1 rfl
            go_wp2
            go_roundw
            case rel => exact ⟨k + 1, by omega, by go_num, HN, b2⟩
            case measure => simp [intOf]; omega
        have hki : ¬ ((k : Int) < (s.n3 : Int)) := by omega
        have HNM : Hid (∀ j, j < x.nms.length → fitP per n1 den n2 (x.nms.getD j default)) := fun j hj => HE.out j (by rw [HL3.out] at hj; omega)
        have p11 : wr.cell? ⟨w.heap.size, 11, none⟩ = some (.slice s.a3 s.n3 s.c3) := (cell_of_row _ _ 11 _ 45 (0, 0) Yr.out).trans rfl
        have p2 : wr.cell? ⟨w.heap.size, 2, none⟩ = some (.slice s.a2 s.n2 s.c2) := (cell_of_row _ _ 2 _ 45 (0, 0) Yr.out).trans rfl
        clear HE hkn
        by_cases h0 : s.n2 = 0
        · have he : ((s.n2 : Int) == 0) = true := by simp [h0]
          have HT : Hid (fnP per n1 den n2 x) := ⟨HCE.out, Hwp.out, Hwq.out, all_split.2 ⟨HNM.out, fun z => absurd (List.eq_nil_of_length_eq_zero (by rw [HL2.out]; exact h0)) z⟩⟩
          clear h0
          go_wp2
          go_ret
          exact saysB_t HT.out Br.out
        · have he : ((s.n2 : Int) == 0) = false := by simp [h0]
          have HSN : Hid (x.sub ≠ []) := fun z => h0 (by rw [← HL2.out, z]; rfl)
          clear h0
          have FI : Hid (Calls Tryz.prog 54 #[.slice a1 n1 c1, .slice a2 n2 c2, .agg #[.int .i64 4, .string ⟨#[]⟩, .int .i64 0, .int .i64 0, .slice s.a2 s.n2 s.c2]] wr (SaysB (fitP per n1 den n2 ⟨⟨4, ⟨#[]⟩, 0, 0⟩, x.sub⟩) wr)) := specFit_any ⟨⟨4, ⟨#[]⟩, 0, 0⟩, x.sub⟩ s.a2 s.n2 s.c2 a1 n1 c1 per a2 n2 c2 den wr (HK.out.kept Br.out).r2 ⟨by show ByteArray.size ⟨#[]⟩ ≤ 1048576; decide, HZN.out.2.1.2⟩ (G1.out.kept Br.out) Q1.out (G2.out.kept Br.out) Q2.out
          go_wp2_with fail
          refine FI.out.mono ?_
          rintro e w2 ⟨v, rfl, hv, hb2⟩
          have B2 : Hid (Below w.heap.size w w2) := Br.out.trans (hb2.mono Br.out.size)
          have HV : Hid (v = true ↔ fnP per n1 den n2 x) := ⟨fun e => ⟨HCE.out, Hwp.out, Hwq.out, all_split.2 ⟨HNM.out, fun _ => hv.out.1 e⟩⟩, fun q => hv.out.2 ((all_split.1 q.2.2.2).2 HSN.out)⟩
          clear hv hb2 p2 p11 FI
          go_wp2
          go_ret
          exact ⟨v, rfl, HV, B2.out⟩

end Go.Proofs.YtkpabanjlhlmfaaGreatDoor

set_option linter.unusedVariables false
namespace Go.Proofs.YtkpabanjlhlmfaaGreatDoor
open Go.RowKit

/-- A value of AllowRule: what it holds. -/
structure AR where
  base : GE
  act : Int
  yes : Bool
instance : Inhabited AR := ⟨⟨default, 0, false⟩⟩
/-- Where its slices lie. -/
structure ARS where
  a1 : Option Addr
  n1 : Nat
  c1 : Nat
  deriving Inhabited
def ARv (s : ARS) (x : AR) : Value := .agg #[.int .i64 x.base.g.kind, .string x.base.g.text, .int .i64 x.base.g.addr, .int .i64 x.base.g.bits, .slice s.a1 s.n1 s.c1, .int .i64 x.act, .bool x.yes]
/-- Its slices are there. -/
structure ARR (w : World) (s : ARS) (x : AR) : Prop where
  r1 : Pts w s.a1 s.n1 x.base.parts
  t1 : x.base.g.text.size ≤ 9223372036854775807
theorem ARR.kept {w w' : World} {s : ARS} {x : AR} (h : ARR w s x) (hb : Below w.heap.size w w') : ARR w' s x := ⟨h.r1.kept hb, h.t1⟩
/-- It is small. -/
def ARZ (x : AR) : Prop := x.base.g.text.size ≤ 1048576 ∧ (x.base.parts.length ≤ 1048576 ∧ (∀ k, k < x.base.parts.length → (x.base.parts.getD k default).val.size ≤ 1048576))
/-- The same by its slices' lengths. -/
def ARZn (s : ARS) (x : AR) : Prop := x.base.g.text.size ≤ 1048576 ∧ (s.n1 ≤ 1048576 ∧ (∀ k, k < s.n1 → (x.base.parts.getD k default).val.size ≤ 1048576))
theorem ARR.zn {w : World} {s : ARS} {x : AR} (h : ARR w s x) : ARZ x ↔ ARZn s x := by
  unfold ARZ ARZn
  rw [h.r1.len]
def ART (s : ARS) : Prop := s.c1 = s.n1

set_option maxRecDepth 10000 in
set_option maxHeartbeats 4000000 in
theorem szAllowRule_k (s : ARS) (x : AR) (lf : Int) (w : World) (h : ARR w s x) (hl0 : 0 ≤ lf) (hl1 : lf ≤ 1048576) :
    Calls Tryz.prog 63 #[ARv s x, .int .i64 lf] w fun e w' => ∃ r, e = .returned (.int .i64 r) ∧ (r < 0 ∨ (0 ≤ r ∧ r ≤ 1048576 ∧ ARZ x)) ∧ Below w.heap.size w w' := by
  obtain ⟨a1, n1, c1⟩ := s
  have HK : Hid (ARR w ⟨a1, n1, c1⟩ x) := h
  have HIF : Hid (ARZ x ↔ ARZn ⟨a1, n1, c1⟩ x) := h.zn
  clear h
  show Calls Tryz.prog 63 #[.agg #[.int .i64 x.base.g.kind, .string x.base.g.text, .int .i64 x.base.g.addr, .int .i64 x.base.g.bits, .slice a1 n1 c1, .int .i64 x.act, .bool x.yes], .int .i64 lf] w _
  obtain ⟨w0, hw0⟩ : ∃ w0, w0 = w.alloc (.cells #[.int .i64 x.base.g.kind, .string x.base.g.text, .int .i64 x.base.g.addr, .int .i64 x.base.g.bits, .slice a1 n1 c1, .int .i64 x.act, .bool x.yes] 106) := ⟨_, rfl⟩
  have B0 : Hid (Below w.heap.size w w0) := by show Below w.heap.size w w0; rw [hw0]; exact (Below.refl _ _).alloc (Nat.le_refl _) _
  have hh0 : w0.heap[w.heap.size]? = some (.cells #[.int .i64 x.base.g.kind, .string x.base.g.text, .int .i64 x.base.g.addr, .int .i64 x.base.g.bits, .slice a1 n1 c1, .int .i64 x.act, .bool x.yes] 106) := by rw [hw0]; exact heap_alloc_new w _
  have Y0 : Hid (_ = _) := hh0
  have l0 : w.heap.size < w0.heap.size := (Array.getElem?_eq_some_iff.1 hh0).1
  clear hh0
  have h0 : 0 ≤ lf ∧ lf ≤ 1048576 := ⟨hl0, hl1⟩
  clear hl0 hl1
  go_enter Tryz.func63, Tryz.ntmps63
  go_upto_region 1 with fail
  rw [← hw0]
  clear hw0
  have q0 : w0.cell? ⟨w.heap.size, 0, none⟩ = some (.int .i64 x.base.g.kind) := (cell_of_row _ _ 0 _ 106 (0, 0) Y0.out).trans rfl
  have q1 : w0.cell? ⟨w.heap.size, 1, none⟩ = some (.string x.base.g.text) := (cell_of_row _ _ 1 _ 106 (0, 0) Y0.out).trans rfl
  have q2 : w0.cell? ⟨w.heap.size, 2, none⟩ = some (.int .i64 x.base.g.addr) := (cell_of_row _ _ 2 _ 106 (0, 0) Y0.out).trans rfl
  have q3 : w0.cell? ⟨w.heap.size, 3, none⟩ = some (.int .i64 x.base.g.bits) := (cell_of_row _ _ 3 _ 106 (0, 0) Y0.out).trans rfl
  have q4 : w0.cell? ⟨w.heap.size, 4, none⟩ = some (.slice a1 n1 c1) := (cell_of_row _ _ 4 _ 106 (0, 0) Y0.out).trans rfl
  go_wp2_with fail
  refine (szGenName_any x.base.g a1 n1 c1 x.base.parts lf _ ((HK.out.kept B0.out).r1) HK.out.t1 h0.1 h0.2).mono ?_
  rintro e w1 ⟨r1, rfl, hr1, hb1⟩
  have B1 : Hid (Below w.heap.size w w1) := B0.out.trans (hb1.mono B0.out.size)
  have Y1 : Hid (w1.heap[w.heap.size]? = some (.cells #[.int .i64 x.base.g.kind, .string x.base.g.text, .int .i64 x.base.g.addr, .int .i64 x.base.g.bits, .slice a1 n1 c1, .int .i64 x.act, .bool x.yes] 106)) := (hb1.block _ l0).trans Y0.out
  clear hb1
  have l1 : w.heap.size < w1.heap.size := (Array.getElem?_eq_some_iff.1 Y1.out).1
  clear q0 q1 q2 q3 q4
  by_cases hneg1 : r1 < 0
  · clear hr1
    go_wp2
    go_ret
    exact ⟨_, rfl, .inl (by decide), B1.out⟩
  have h1 : 0 ≤ r1 ∧ r1 ≤ 1048576 := by omega
  have HR1 : Hid (x.base.g.text.size ≤ 1048576 ∧ n1 ≤ 1048576 ∧ (∀ k, k < n1 → (x.base.parts.getD k default).val.size ≤ 1048576)) := by rcases hr1 with h | h; exact absurd h hneg1; exact h.2.2
  clear hr1
  go_wp2
  go_ret
  exact ⟨_, rfl, .inr ⟨h1.1, h1.2, HIF.out.2 ⟨HR1.out.1, HR1.out.2⟩⟩, B1.out⟩

/-- A AllowRule as it is copied. -/
structure ARQ (w W : World) (ls : Array Value) (R : World → Prop) (vs : Array Value) : Prop where
  b0 : W.heap[w.heap.size]? = some (.cells ls 106 (0, 0))
  b1 : W.heap[w.heap.size + 1]? = some (.cells #[.int .i64 0, .string ⟨#[]⟩, .int .i64 0, .int .i64 0, .slice none 0 0, .int .i64 0, .bool false] 108 (0, 0))
  b2 : W.heap[w.heap.size + 1 + 1]? = some (.cells vs 108 (0, 0))
  st : Stab (w.heap.size + 3) R
  r : R W
  below : Below w.heap.size w W
  lt : w.heap.size + 3 ≤ W.heap.size
theorem ARQ.set {w W : World} {ls vs : Array Value} {R : World → Prop} (h : ARQ w W ls R vs) {us : Array Value} (j : Nat) (u : Value) (e : vs.setIfInBounds j u = us) : ARQ w (W.setCell ⟨w.heap.size + 1 + 1, j, none⟩ u) ls R us := by
  have f : ∀ l, l ≠ w.heap.size + 2 → (W.setCell ⟨w.heap.size + 1 + 1, j, none⟩ u).heap[l]? = W.heap[l]? := fun l hl => Below.heap_setCell _ _ _ _ (by show l ≠ w.heap.size + 1 + 1; omega)
  refine ⟨(f _ (by omega)).trans h.b0, (f _ (by omega)).trans h.b1, ?_, h.st, h.st W _ (fun l hl _ => f l (by omega)) (by simp) h.r, ⟨h.below.os, h.below.tape, h.below.output, by simpa [World.setCell] using h.below.size, fun l hl => (f l (by omega)).trans (h.below.block l hl)⟩, by simpa [World.setCell] using h.lt⟩
  rw [← e]
  exact heap_setCell_same W (w.heap.size + 1 + 1) j _ 108 u h.b2
theorem ARQ.on {w W : World} {ls vs : Array Value} {R : World → Prop} {W' : World} (h : ARQ w W ls R vs) (hb : Below W.heap.size W W') : ARQ w W' ls R vs := by
  have hl := h.lt
  have hs := hb.size
  exact ⟨(hb.block _ (by omega)).trans h.b0, (hb.block _ (by omega)).trans h.b1, (hb.block _ (by omega)).trans h.b2, h.st, h.st W W' (fun l _ hl => hb.block l hl) hs h.r, h.below.trans (hb.mono h.below.size), by omega⟩
theorem ARQ.more {w W : World} {ls vs : Array Value} {R Q : World → Prop} (h : ARQ w W ls R vs) (s : Stab (w.heap.size + 3) Q) (q : Q W) : ARQ w W ls Q vs := ⟨h.b0, h.b1, h.b2, s, q, h.below, h.lt⟩
theorem ARQ.out {w W : World} {ls vs : Array Value} {R : World → Prop} (h : ARQ w W ls R vs) (j : Nat) : W.cell? ⟨w.heap.size + 1 + 1, j, none⟩ = vs[j]? ∧ W.frozen? ⟨w.heap.size + 1 + 1, j, none⟩ = false ∧ W.cell? ⟨w.heap.size, j, none⟩ = ls[j]? :=
  ⟨cell_of_row _ _ j _ 108 (0, 0) h.b2, frozen_of_row W _ j _ 108 h.b2, cell_of_row _ _ j _ 106 (0, 0) h.b0⟩
theorem infoSizeAR : (Tryz.prog.info? 108).map (·.size) = some 7 := by kernel_rfl

set_option maxRecDepth 10000 in
set_option maxHeartbeats 8000000 in
theorem toAllowRule_k (s : ARS) (x : AR) (w : World) (h : ARR w s x) (hz : ARZ x) :
    Calls Tryz.prog 65 #[ARv s x] w fun e w' => ∃ t : ARS, e = .returned (ARv t x) ∧ ART t ∧ Keeps w.heap.size w' (fun W => ARR W t x) ∧ Below w.heap.size w w' := by
  have hzn := h.zn.1 hz
  obtain ⟨a1, n1, c1⟩ := s
  have HK : Hid (ARR w ⟨a1, n1, c1⟩ x) := h
  have HZ : Hid (x.base.g.text.size ≤ 1048576 ∧ (n1 ≤ 1048576 ∧ (∀ k, k < n1 → (x.base.parts.getD k default).val.size ≤ 1048576))) := hzn
  clear h hz hzn
  show Calls Tryz.prog 65 #[.agg #[.int .i64 x.base.g.kind, .string x.base.g.text, .int .i64 x.base.g.addr, .int .i64 x.base.g.bits, .slice a1 n1 c1, .int .i64 x.act, .bool x.yes]] w _
  obtain ⟨w1, hW0⟩ : ∃ W0, W0 = (((w.alloc (.cells #[.int .i64 x.base.g.kind, .string x.base.g.text, .int .i64 x.base.g.addr, .int .i64 x.base.g.bits, .slice a1 n1 c1, .int .i64 x.act, .bool x.yes] 106)).alloc (.cells #[.int .i64 0, .string ⟨#[]⟩, .int .i64 0, .int .i64 0, .slice none 0 0, .int .i64 0, .bool false] 108)).alloc (.cells #[.int .i64 0, .string ⟨#[]⟩, .int .i64 0, .int .i64 0, .slice none 0 0, .int .i64 0, .bool false] 108)) := ⟨_, rfl⟩
  have hB0 : Below w.heap.size w w1 := by rw [hW0]; exact three_below _ _ _ _
  have hS0 : w1.heap.size = w.heap.size + 3 := by rw [hW0]; simp
  obtain ⟨b0, b1, b2⟩ := three_blocks' w (.cells #[.int .i64 x.base.g.kind, .string x.base.g.text, .int .i64 x.base.g.addr, .int .i64 x.base.g.bits, .slice a1 n1 c1, .int .i64 x.act, .bool x.yes] 106) (.cells #[.int .i64 0, .string ⟨#[]⟩, .int .i64 0, .int .i64 0, .slice none 0 0, .int .i64 0, .bool false] 108) (.cells #[.int .i64 0, .string ⟨#[]⟩, .int .i64 0, .int .i64 0, .slice none 0 0, .int .i64 0, .bool false] 108)
  rw [← hW0] at b0 b1 b2
  have T1 : Hid (ARQ w w1 #[.int .i64 x.base.g.kind, .string x.base.g.text, .int .i64 x.base.g.addr, .int .i64 x.base.g.bits, .slice a1 n1 c1, .int .i64 x.act, .bool x.yes] (fun _ => True) #[.int .i64 0, .string ⟨#[]⟩, .int .i64 0, .int .i64 0, .slice none 0 0, .int .i64 0, .bool false]) := ⟨b0, b1, b2, fun _ _ _ _ _ => trivial, trivial, hB0, by omega⟩
  clear b0 b1 b2 hB0 hS0
  go_enter Tryz.func65, Tryz.ntmps65
  go_upto_region 2 with fail
  rw [← hW0]
  clear hW0
  obtain ⟨_, _, l0⟩ := T1.out.out 0
  have l0 : w1.cell? ⟨w.heap.size, 0, none⟩ = some (.int .i64 x.base.g.kind) := l0
  obtain ⟨_, _, l1⟩ := T1.out.out 1
  have l1 : w1.cell? ⟨w.heap.size, 1, none⟩ = some (.string x.base.g.text) := l1
  obtain ⟨_, _, l2⟩ := T1.out.out 2
  have l2 : w1.cell? ⟨w.heap.size, 2, none⟩ = some (.int .i64 x.base.g.addr) := l2
  obtain ⟨_, _, l3⟩ := T1.out.out 3
  have l3 : w1.cell? ⟨w.heap.size, 3, none⟩ = some (.int .i64 x.base.g.bits) := l3
  obtain ⟨_, _, l4⟩ := T1.out.out 4
  have l4 : w1.cell? ⟨w.heap.size, 4, none⟩ = some (.slice a1 n1 c1) := l4
  have m1 := T1.out.lt
  go_wp2_with fail
  refine (toGenName_k x.base.g a1 n1 c1 x.base.parts _ (HK.out.kept T1.out.below).r1 HZ.out.2.1).mono ?_
  rintro e w2 ⟨p1, rfl, hp, hb⟩
  have T2 : Hid (ARQ w w2 #[.int .i64 x.base.g.kind, .string x.base.g.text, .int .i64 x.base.g.addr, .int .i64 x.base.g.bits, .slice a1 n1 c1, .int .i64 x.act, .bool x.yes] (fun W => Keeps (w.heap.size + 3) W (fun W => Pts W p1 n1 x.base.parts)) #[.int .i64 0, .string ⟨#[]⟩, .int .i64 0, .int .i64 0, .slice none 0 0, .int .i64 0, .bool false]) := (T1.out.on hb).more (stab_keeps _ _) (hp.mono (by omega))
  clear hb hp T1 l0 l1 l2 l3 l4 m1
  unfold gnv
  obtain ⟨o0, f0, l0⟩ := T2.out.out 0
  have o0 : w2.cell? ⟨w.heap.size + 1 + 1, 0, none⟩ = some (.int .i64 0) := o0
  have l0 : w2.cell? ⟨w.heap.size, 0, none⟩ = some (.int .i64 x.base.g.kind) := l0
  obtain ⟨o1, f1, l1⟩ := T2.out.out 1
  have o1 : w2.cell? ⟨w.heap.size + 1 + 1, 1, none⟩ = some (.string ⟨#[]⟩) := o1
  have l1 : w2.cell? ⟨w.heap.size, 1, none⟩ = some (.string x.base.g.text) := l1
  obtain ⟨o2, f2, l2⟩ := T2.out.out 2
  have o2 : w2.cell? ⟨w.heap.size + 1 + 1, 2, none⟩ = some (.int .i64 0) := o2
  have l2 : w2.cell? ⟨w.heap.size, 2, none⟩ = some (.int .i64 x.base.g.addr) := l2
  obtain ⟨o3, f3, l3⟩ := T2.out.out 3
  have o3 : w2.cell? ⟨w.heap.size + 1 + 1, 3, none⟩ = some (.int .i64 0) := o3
  have l3 : w2.cell? ⟨w.heap.size, 3, none⟩ = some (.int .i64 x.base.g.bits) := l3
  obtain ⟨o4, f4, l4⟩ := T2.out.out 4
  have o4 : w2.cell? ⟨w.heap.size + 1 + 1, 4, none⟩ = some (.slice none 0 0) := o4
  have l4 : w2.cell? ⟨w.heap.size, 4, none⟩ = some (.slice a1 n1 c1) := l4
  have m2 := T2.out.lt
  obtain ⟨w3, hw3⟩ : ∃ W, W = (((((w2.setCell ⟨w.heap.size + 1 + 1, 0, none⟩ (.int .i64 x.base.g.kind)).setCell ⟨w.heap.size + 1 + 1, 1, none⟩ (.string x.base.g.text)).setCell ⟨w.heap.size + 1 + 1, 2, none⟩ (.int .i64 x.base.g.addr)).setCell ⟨w.heap.size + 1 + 1, 3, none⟩ (.int .i64 x.base.g.bits)).setCell ⟨w.heap.size + 1 + 1, 4, none⟩ (.slice p1 n1 n1)) := ⟨_, rfl⟩
  have T3 : Hid (ARQ w w3 #[.int .i64 x.base.g.kind, .string x.base.g.text, .int .i64 x.base.g.addr, .int .i64 x.base.g.bits, .slice a1 n1 c1, .int .i64 x.act, .bool x.yes] (fun W => Keeps (w.heap.size + 3) W (fun W => Pts W p1 n1 x.base.parts)) #[.int .i64 x.base.g.kind, .string x.base.g.text, .int .i64 x.base.g.addr, .int .i64 x.base.g.bits, .slice p1 n1 n1, .int .i64 0, .bool false]) := by rw [hw3]; exact (((((T2.out.set 0 _ rfl).set 1 _ rfl).set 2 _ rfl).set 3 _ rfl).set 4 _ rfl)
  have HW3 : Hid (_ = _) := hw3
  clear hw3
  go_upto_region 3 with fail
  rw [← HW3.out]
  clear HW3 o0 f0 l0 o1 f1 l1 o2 f2 l2 o3 f3 l3 o4 f4 l4 m2 T2
  obtain ⟨o5, f5, l5⟩ := T3.out.out 5
  have o5 : w3.cell? ⟨w.heap.size + 1 + 1, 5, none⟩ = some (.int .i64 0) := o5
  have l5 : w3.cell? ⟨w.heap.size, 5, none⟩ = some (.int .i64 x.act) := l5
  have m3 := T3.out.lt
  obtain ⟨w4, hw4⟩ : ∃ W, W = (w3.setCell ⟨w.heap.size + 1 + 1, 5, none⟩ (.int .i64 x.act)) := ⟨_, rfl⟩
  have T4 : Hid (ARQ w w4 #[.int .i64 x.base.g.kind, .string x.base.g.text, .int .i64 x.base.g.addr, .int .i64 x.base.g.bits, .slice a1 n1 c1, .int .i64 x.act, .bool x.yes] (fun W => Keeps (w.heap.size + 3) W (fun W => Pts W p1 n1 x.base.parts)) #[.int .i64 x.base.g.kind, .string x.base.g.text, .int .i64 x.base.g.addr, .int .i64 x.base.g.bits, .slice p1 n1 n1, .int .i64 x.act, .bool false]) := by rw [hw4]; exact (T3.out.set 5 _ rfl)
  have HW4 : Hid (_ = _) := hw4
  clear hw4
  go_upto_region 4 with fail
  rw [← HW4.out]
  clear HW4 o5 f5 l5 m3 T3
  obtain ⟨o6, f6, l6⟩ := T4.out.out 6
  have o6 : w4.cell? ⟨w.heap.size + 1 + 1, 6, none⟩ = some (.bool false) := o6
  have l6 : w4.cell? ⟨w.heap.size, 6, none⟩ = some (.bool x.yes) := l6
  have m4 := T4.out.lt
  obtain ⟨w5, hw5⟩ : ∃ W, W = (w4.setCell ⟨w.heap.size + 1 + 1, 6, none⟩ (.bool x.yes)) := ⟨_, rfl⟩
  have T5 : Hid (ARQ w w5 #[.int .i64 x.base.g.kind, .string x.base.g.text, .int .i64 x.base.g.addr, .int .i64 x.base.g.bits, .slice a1 n1 c1, .int .i64 x.act, .bool x.yes] (fun W => Keeps (w.heap.size + 3) W (fun W => Pts W p1 n1 x.base.parts)) #[.int .i64 x.base.g.kind, .string x.base.g.text, .int .i64 x.base.g.addr, .int .i64 x.base.g.bits, .slice p1 n1 n1, .int .i64 x.act, .bool x.yes]) := by rw [hw5]; exact (T4.out.set 6 _ rfl)
  have HW5 : Hid (_ = _) := hw5
  clear hw5
  go_upto_region 5 with fail
  rw [← HW5.out]
  clear HW5 o6 f6 l6 m4 T4
  have HMX : Hid (ARR w ⟨a1, n1, c1⟩ x) := HK.out
  clear HK
  have hlF := T5.out.lt
  rename_i K0 hK0
  apply wp_region_lit
  refine wpList_load_row rfl 108 _ rfl (w.heap.size + 1 + 1) rfl 108 #[.int .i64 x.base.g.kind, .string x.base.g.text, .int .i64 x.base.g.addr, .int .i64 x.base.g.bits, .slice p1 n1 n1, .int .i64 x.act, .bool x.yes] (0, 0) _ T5.out.b2 Tryz.underlying108 rfl infoSizeAR ?_
  refine wpList_store_rowTo rfl 108 _ _ rfl rfl (w.heap.size + 1) #[.int .i64 x.base.g.kind, .string x.base.g.text, .int .i64 x.base.g.addr, .int .i64 x.base.g.bits, .slice p1 n1 n1, .int .i64 x.act, .bool x.yes] rfl rfl 108 #[.int .i64 0, .string ⟨#[]⟩, .int .i64 0, .int .i64 0, .slice none 0 0, .int .i64 0, .bool false] T5.out.b1 infoSizeAR rfl (by simp [Value.oneCell']) ?_
  apply wpList_nil
  refine hK0 _ _ ?_
  clear hK0 K0
  have hrow : (w5.setRow (w.heap.size + 1) #[.int .i64 x.base.g.kind, .string x.base.g.text, .int .i64 x.base.g.addr, .int .i64 x.base.g.bits, .slice p1 n1 n1, .int .i64 x.act, .bool x.yes]).heap[w.heap.size + 1]? = some (.cells #[.int .i64 x.base.g.kind, .string x.base.g.text, .int .i64 x.base.g.addr, .int .i64 x.base.g.bits, .slice p1 n1 n1, .int .i64 x.act, .bool x.yes] 108 (0, 0)) := setRow_heap _ _ _ _ _ _ T5.out.b1
  have hoth : ∀ l, l ≠ w.heap.size + 1 → (w5.setRow (w.heap.size + 1) #[.int .i64 x.base.g.kind, .string x.base.g.text, .int .i64 x.base.g.addr, .int .i64 x.base.g.bits, .slice p1 n1 n1, .int .i64 x.act, .bool x.yes]).heap[l]? = w5.heap[l]? := fun l hl => setRow_other _ _ _ _ hl
  have hsz : (w5.setRow (w.heap.size + 1) #[.int .i64 x.base.g.kind, .string x.base.g.text, .int .i64 x.base.g.addr, .int .i64 x.base.g.bits, .slice p1 n1 n1, .int .i64 x.act, .bool x.yes]).heap.size = w5.heap.size := by simp
  have hbF : Below w.heap.size w (w5.setRow (w.heap.size + 1) #[.int .i64 x.base.g.kind, .string x.base.g.text, .int .i64 x.base.g.addr, .int .i64 x.base.g.bits, .slice p1 n1 n1, .int .i64 x.act, .bool x.yes]) := ⟨T5.out.below.os, T5.out.below.tape, T5.out.below.output, by rw [hsz]; exact T5.out.below.size, fun l hl => (hoth l (by omega)).trans (T5.out.below.block l hl)⟩
  have hr := T5.out.st w5 (w5.setRow (w.heap.size + 1) #[.int .i64 x.base.g.kind, .string x.base.g.text, .int .i64 x.base.g.addr, .int .i64 x.base.g.bits, .slice p1 n1 n1, .int .i64 x.act, .bool x.yes]) (fun l hl hl2 => hoth l (by omega)) (Nat.le_of_eq hsz.symm) T5.out.r
  go_wp2
  try simp only [Exit.inBlock, Exit.then]
  have k1 : Keeps (w.heap.size + 3) _ (fun W => Pts W p1 n1 x.base.parts) := hr
  refine bodyPost_ret (results_cell_row rfl _ _ (w.heap.size + 1) 108 _ (0, 0) _ rfl hrow Tryz.underlying108 rfl infoSizeAR) rfl ⟨⟨p1, n1, n1⟩, rfl, rfl, Keeps.mono (k1.map fun W q => ?_) (by omega), hbF⟩
  have h1 := q
  exact ⟨h1, HMX.out.t1⟩

set_option maxRecDepth 10000 in
set_option maxHeartbeats 4000000 in
theorem eqAllowRule_k (s t : ARS) (x : AR) (w : World) (h : ARR w s x) (h2 : ARR w t x) (hz : ARZ x) :
    Calls Tryz.prog 72 #[ARv s x, ARv t x] w fun e w' => e = .returned (.bool true) ∧ Below w.heap.size w w' := by
  have hzn := h.zn.1 hz
  obtain ⟨a1, n1, c1⟩ := s
  obtain ⟨b1, m1, d1⟩ := t
  obtain rfl : m1 = n1 := (h2.r1.len).symm.trans h.r1.len
  have H1 : Hid (ARR w ⟨a1, m1, c1⟩ x) := h
  have H2 : Hid (ARR w ⟨b1, m1, d1⟩ x) := h2
  have HZ : Hid (x.base.g.text.size ≤ 1048576 ∧ (m1 ≤ 1048576 ∧ (∀ k, k < m1 → (x.base.parts.getD k default).val.size ≤ 1048576))) := hzn
  clear h h2 hz hzn
  show Calls Tryz.prog 72 #[.agg #[.int .i64 x.base.g.kind, .string x.base.g.text, .int .i64 x.base.g.addr, .int .i64 x.base.g.bits, .slice a1 m1 c1, .int .i64 x.act, .bool x.yes], .agg #[.int .i64 x.base.g.kind, .string x.base.g.text, .int .i64 x.base.g.addr, .int .i64 x.base.g.bits, .slice b1 m1 d1, .int .i64 x.act, .bool x.yes]] w _
  obtain ⟨w0, hW0⟩ : ∃ W0, W0 = ((w.alloc (.cells #[.int .i64 x.base.g.kind, .string x.base.g.text, .int .i64 x.base.g.addr, .int .i64 x.base.g.bits, .slice a1 m1 c1, .int .i64 x.act, .bool x.yes] 108)).alloc (.cells #[.int .i64 x.base.g.kind, .string x.base.g.text, .int .i64 x.base.g.addr, .int .i64 x.base.g.bits, .slice b1 m1 d1, .int .i64 x.act, .bool x.yes] 108)) := ⟨_, rfl⟩
  have HB0 : Hid (Below w.heap.size w w0) := by show Below w.heap.size w w0; rw [hW0]; exact ((Below.refl _ _).alloc (Nat.le_refl _) _).alloc (by simp) _
  have y := two_blocks w (.cells #[.int .i64 x.base.g.kind, .string x.base.g.text, .int .i64 x.base.g.addr, .int .i64 x.base.g.bits, .slice a1 m1 c1, .int .i64 x.act, .bool x.yes] 108) (.cells #[.int .i64 x.base.g.kind, .string x.base.g.text, .int .i64 x.base.g.addr, .int .i64 x.base.g.bits, .slice b1 m1 d1, .int .i64 x.act, .bool x.yes] 108)
  rw [← hW0] at y
  have Y0 : Hid (w0.heap[w.heap.size]? = some (.cells #[.int .i64 x.base.g.kind, .string x.base.g.text, .int .i64 x.base.g.addr, .int .i64 x.base.g.bits, .slice a1 m1 c1, .int .i64 x.act, .bool x.yes] 108)) := y.1
  have Y1 : Hid (w0.heap[w.heap.size + 1]? = some (.cells #[.int .i64 x.base.g.kind, .string x.base.g.text, .int .i64 x.base.g.addr, .int .i64 x.base.g.bits, .slice b1 m1 d1, .int .i64 x.act, .bool x.yes] 108)) := y.2
  have l0 : w.heap.size + 1 < w0.heap.size := (Array.getElem?_eq_some_iff.1 y.2).1
  clear y
  have t_act : (x.act != x.act) = false := by simp
  have t_yes : (x.yes != x.yes) = false := by simp
  go_enter Tryz.func72, Tryz.ntmps72
  go_upto_region 1 with fail
  rw [← hW0]
  clear hW0
  have p0 : w0.cell? ⟨w.heap.size, 0, none⟩ = some (.int .i64 x.base.g.kind) := (cell_of_row _ _ 0 _ 108 (0, 0) Y0.out).trans rfl
  have q0 : w0.cell? ⟨w.heap.size + 1, 0, none⟩ = some (.int .i64 x.base.g.kind) := (cell_of_row _ _ 0 _ 108 (0, 0) Y1.out).trans rfl
  have p1 : w0.cell? ⟨w.heap.size, 1, none⟩ = some (.string x.base.g.text) := (cell_of_row _ _ 1 _ 108 (0, 0) Y0.out).trans rfl
  have q1 : w0.cell? ⟨w.heap.size + 1, 1, none⟩ = some (.string x.base.g.text) := (cell_of_row _ _ 1 _ 108 (0, 0) Y1.out).trans rfl
  have p2 : w0.cell? ⟨w.heap.size, 2, none⟩ = some (.int .i64 x.base.g.addr) := (cell_of_row _ _ 2 _ 108 (0, 0) Y0.out).trans rfl
  have q2 : w0.cell? ⟨w.heap.size + 1, 2, none⟩ = some (.int .i64 x.base.g.addr) := (cell_of_row _ _ 2 _ 108 (0, 0) Y1.out).trans rfl
  have p3 : w0.cell? ⟨w.heap.size, 3, none⟩ = some (.int .i64 x.base.g.bits) := (cell_of_row _ _ 3 _ 108 (0, 0) Y0.out).trans rfl
  have q3 : w0.cell? ⟨w.heap.size + 1, 3, none⟩ = some (.int .i64 x.base.g.bits) := (cell_of_row _ _ 3 _ 108 (0, 0) Y1.out).trans rfl
  have p4 : w0.cell? ⟨w.heap.size, 4, none⟩ = some (.slice a1 m1 c1) := (cell_of_row _ _ 4 _ 108 (0, 0) Y0.out).trans rfl
  have q4 : w0.cell? ⟨w.heap.size + 1, 4, none⟩ = some (.slice b1 m1 d1) := (cell_of_row _ _ 4 _ 108 (0, 0) Y1.out).trans rfl
  go_wp2_with fail
  refine (eqGenName_same x.base.g a1 b1 m1 c1 d1 x.base.parts _ (H1.out.kept HB0.out).r1 (H2.out.kept HB0.out).r1).mono ?_
  rintro e w1 ⟨rfl, hb1⟩
  replace Y0 : Hid (w1.heap[w.heap.size]? = some (.cells #[.int .i64 x.base.g.kind, .string x.base.g.text, .int .i64 x.base.g.addr, .int .i64 x.base.g.bits, .slice a1 m1 c1, .int .i64 x.act, .bool x.yes] 108)) := (hb1.block _ (by omega)).trans Y0.out
  replace Y1 : Hid (w1.heap[w.heap.size + 1]? = some (.cells #[.int .i64 x.base.g.kind, .string x.base.g.text, .int .i64 x.base.g.addr, .int .i64 x.base.g.bits, .slice b1 m1 d1, .int .i64 x.act, .bool x.yes] 108)) := (hb1.block _ l0).trans Y1.out
  have HB1 : Hid (Below w.heap.size w w1) := HB0.out.trans (hb1.mono HB0.out.size)
  have l1 : w.heap.size + 1 < w1.heap.size := (Array.getElem?_eq_some_iff.1 Y1.out).1
  clear p0 q0 p1 q1 p2 q2 p3 q3 p4 q4 hb1 HB0 l0
  have p5 : w1.cell? ⟨w.heap.size, 5, none⟩ = some (.int .i64 x.act) := (cell_of_row _ _ 5 _ 108 (0, 0) Y0.out).trans rfl
  have q5 : w1.cell? ⟨w.heap.size + 1, 5, none⟩ = some (.int .i64 x.act) := (cell_of_row _ _ 5 _ 108 (0, 0) Y1.out).trans rfl
  have p6 : w1.cell? ⟨w.heap.size, 6, none⟩ = some (.bool x.yes) := (cell_of_row _ _ 6 _ 108 (0, 0) Y0.out).trans rfl
  have q6 : w1.cell? ⟨w.heap.size + 1, 6, none⟩ = some (.bool x.yes) := (cell_of_row _ _ 6 _ 108 (0, 0) Y1.out).trans rfl
  go_wp2
  go_ret
  exact ⟨rfl, HB1.out⟩

/-- The cells of one from o on. -/
structure ARC (w : World) (b o : Nat) (s : ARS) (x : AR) : Prop where
  c0 : w.cell? ⟨b, o, none⟩ = some (.int .i64 x.base.g.kind)
  c1 : w.cell? ⟨b, o + 1, none⟩ = some (.string x.base.g.text)
  c2 : w.cell? ⟨b, o + 2, none⟩ = some (.int .i64 x.base.g.addr)
  c3 : w.cell? ⟨b, o + 3, none⟩ = some (.int .i64 x.base.g.bits)
  c4 : w.cell? ⟨b, o + 4, none⟩ = some (.slice s.a1 s.n1 s.c1)
  c5 : w.cell? ⟨b, o + 5, none⟩ = some (.int .i64 x.act)
  c6 : w.cell? ⟨b, o + 6, none⟩ = some (.bool x.yes)
theorem ARC.of {w w' : World} {b o : Nat} {s : ARS} {x : AR} (h : ARC w b o s x) (hc : ∀ i, w'.cell? ⟨b, i, none⟩ = w.cell? ⟨b, i, none⟩) : ARC w' b o s x := ⟨(hc _).trans h.c0, (hc _).trans h.c1, (hc _).trans h.c2, (hc _).trans h.c3, (hc _).trans h.c4, (hc _).trans h.c5, (hc _).trans h.c6⟩
/-- The slice at a reads as these. -/
structure ARs (w : World) (a : Option Addr) (n : Nat) (xs : List AR) : Prop where
  len : xs.length = n
  max : n ≤ 9223372036854775807
  get : ∀ k, k < n → ∃ (b off : Nat) (s : ARS), a = some ⟨b, off, none⟩ ∧ b < w.heap.size ∧ ARC w b (off + k * 7) s (xs.getD k default) ∧ ARR w s (xs.getD k default)
theorem ARs.kept {w w' : World} {a : Option Addr} {n : Nat} {xs : List AR} (h : ARs w a n xs) (hb : Below w.heap.size w w') : ARs w' a n xs := by
  refine ⟨h.len, h.max, fun k hk => ?_⟩
  obtain ⟨b, off, s, ha, hlt, hc, hp⟩ := h.get k hk
  exact ⟨b, off, s, ha, Nat.lt_of_lt_of_le hlt hb.size, hc.of (fun i => hb.cell (p := ⟨b, i, none⟩) hlt), hp.kept hb⟩

set_option maxRecDepth 10000 in
set_option maxHeartbeats 2000000 in
theorem szAllowRuleS_k (a : Option Addr) (n cap : Nat) (xs : List AR) (lf : Int) (w : World) (h : ARs w a n xs) (hl0 : 0 ≤ lf) (hl1 : lf ≤ 1048576) :
    Calls Tryz.prog 16 #[.slice a n cap, .int .i64 lf] w fun e w' => ∃ r, e = .returned (.int .i64 r) ∧ (r < 0 ∨ (0 ≤ r ∧ r ≤ 1048576 ∧ n ≤ 1048576 ∧ ∀ k, k < n → ARZ (xs.getD k default))) ∧ Below w.heap.size w w' := by
  have H0 : Hid (ARs w a n xs) := h
  have hn := h.max
  clear h
  by_cases hlt : (n : Int) ≤ lf
  · go_enter Tryz.func16, Tryz.ntmps16
    go_wp2
    go_loopw [1, 5] (fun l i wr => ∃ (k : Nat) (left : Int), k ≤ n ∧ i = .int .i64 k ∧ l = .int .i64 left ∧ 0 ≤ left ∧ left ≤ 1048576 ∧ Hid (∀ j, j < k → ARZ (xs.getD j default)) ∧ Below w.heap.size w wr) (fun _ i _ => n - (intOf i).toNat)
    case atStart => exact ⟨0, lf - n, Nat.zero_le _, rfl, rfl, by omega, by omega, fun j hj => absurd hj (Nat.not_lt_zero _), Below.refl _ _⟩
    case round =>
      obtain ⟨k, left, hk, rfl, rfl, h0, h1, HA, hbr⟩ := hrel
      by_cases hkn : k < n
      · obtain ⟨b, off, ⟨a1, n1, c1⟩, rfl, hlb, hc, hp⟩ := H0.out.get k hkn
        obtain ⟨y, hy⟩ : ∃ y, y = xs.getD k default := ⟨_, rfl⟩
        rw [← hy] at hc hp
        have HY : Hid (y = xs.getD k default) := hy
        replace hc := hc.of (w' := wr) (fun i => hbr.cell (p := ⟨b, i, none⟩) hlb)
        have u0 : wr.cell? ⟨b, off + k * 7, none⟩ = some (.int .i64 y.base.g.kind) := hc.c0
        have u1 : wr.cell? ⟨b, off + k * 7 + 1, none⟩ = some (.string y.base.g.text) := hc.c1
        have u2 : wr.cell? ⟨b, off + k * 7 + 2, none⟩ = some (.int .i64 y.base.g.addr) := hc.c2
        have u3 : wr.cell? ⟨b, off + k * 7 + 3, none⟩ = some (.int .i64 y.base.g.bits) := hc.c3
        have u4 : wr.cell? ⟨b, off + k * 7 + 4, none⟩ = some (.slice a1 n1 c1) := hc.c4
        have u5 : wr.cell? ⟨b, off + k * 7 + 5, none⟩ = some (.int .i64 y.act) := hc.c5
        have u6 : wr.cell? ⟨b, off + k * 7 + 6, none⟩ = some (.bool y.yes) := hc.c6
        have HP : Hid (ARR wr ⟨a1, n1, c1⟩ y) := hp.kept hbr
        have hkni : (k : Int) < (n : Int) := by omega
        clear hc hy hp
        go_wp2_with fail
        refine (szAllowRule_k ⟨a1, n1, c1⟩ y left _ HP.out h0 h1).mono ?_
        rintro e w2 ⟨r, rfl, hr, hb2⟩
        have hb2' : Below w.heap.size w w2 := hbr.trans (hb2.mono hbr.size)
        by_cases hneg : r < 0
        · clear hr
          go_wp2
          go_ret
          exact ⟨_, rfl, .inl (by decide), hb2'⟩
        · have hr1 : 0 ≤ r := by omega
          have hr2 : r ≤ 1048576 := by omega
          have HR : Hid (ARZ y) := by rcases hr with h | h; exact absurd h hneg; exact h.2.2
          clear hr
          go_wp2
          go_roundw
          case rel =>
            refine ⟨k + 1, r, by omega, by go_num, rfl, hr1, hr2, fun j hj => ?_, hb2'⟩
            by_cases hjk : j = k
            · subst hjk; rw [← HY.out]; exact HR.out
            · exact HA.out j (by omega)
          case measure => simp [intOf]; omega
      · obtain rfl : n = k := by omega
        go_wp2
        go_ret
        exact ⟨_, rfl, .inr ⟨h0, h1, by omega, HA.out⟩, hbr⟩
  · go_enter Tryz.func16, Tryz.ntmps16
    go_wp2
    go_ret
    exact ⟨_, rfl, .inl (by decide), Below.refl _ _⟩

set_option maxRecDepth 10000 in
set_option maxHeartbeats 4000000 in
theorem eqAllowRuleS_k (a b : Option Addr) (n ca cb : Nat) (xs : List AR) (w : World) (h : ARs w a n xs) (h2 : ARs w b n xs) (hz : ∀ k, k < n → ARZ (xs.getD k default)) :
    Calls Tryz.prog 20 #[.slice a n ca, .slice b n cb] w fun e w' => e = .returned (.bool true) ∧ Below w.heap.size w w' := by
  have HK : Hid (ARs w a n xs) := h
  have HK2 : Hid (ARs w b n xs) := h2
  have HZ : Hid (∀ k, k < n → ARZ (xs.getD k default)) := hz
  have hn := h.max
  clear h h2 hz
  go_enter Tryz.func20, Tryz.ntmps20
  go_wp2
  go_loopw [5] (fun i wr => ∃ k : Nat, k ≤ n ∧ i = .int .i64 k ∧ Below w.heap.size w wr) (fun i _ => n - (intOf i).toNat)
  case atStart => exact ⟨0, Nat.zero_le _, rfl, Below.refl _ _⟩
  case round =>
    obtain ⟨k, hk, rfl, hbr⟩ := hrel
    by_cases hkn : k < n
    · obtain ⟨g1, off1, ⟨a1, n1, c1⟩, rfl, hl1, hp, hr1⟩ := HK.out.get k hkn
      obtain ⟨g2, off2, ⟨b1, m1, d1⟩, rfl, hl2, hq, hr2⟩ := HK2.out.get k hkn
      have hgp := HZ.out k hkn
      obtain ⟨y, hy⟩ : ∃ y, y = xs.getD k default := ⟨_, rfl⟩
      rw [← hy] at hp hq hr1 hr2 hgp
      clear hy
      have HGP : Hid (ARZ y) := hgp
      replace hp := hp.of (w' := wr) (fun i => hbr.cell (p := ⟨g1, i, none⟩) hl1)
      replace hq := hq.of (w' := wr) (fun i => hbr.cell (p := ⟨g2, i, none⟩) hl2)
      have p0 : wr.cell? ⟨g1, off1 + k * 7, none⟩ = some (.int .i64 y.base.g.kind) := hp.c0
      have p1 : wr.cell? ⟨g1, off1 + k * 7 + 1, none⟩ = some (.string y.base.g.text) := hp.c1
      have p2 : wr.cell? ⟨g1, off1 + k * 7 + 2, none⟩ = some (.int .i64 y.base.g.addr) := hp.c2
      have p3 : wr.cell? ⟨g1, off1 + k * 7 + 3, none⟩ = some (.int .i64 y.base.g.bits) := hp.c3
      have p4 : wr.cell? ⟨g1, off1 + k * 7 + 4, none⟩ = some (.slice a1 n1 c1) := hp.c4
      have p5 : wr.cell? ⟨g1, off1 + k * 7 + 5, none⟩ = some (.int .i64 y.act) := hp.c5
      have p6 : wr.cell? ⟨g1, off1 + k * 7 + 6, none⟩ = some (.bool y.yes) := hp.c6
      have q0 : wr.cell? ⟨g2, off2 + k * 7, none⟩ = some (.int .i64 y.base.g.kind) := hq.c0
      have q1 : wr.cell? ⟨g2, off2 + k * 7 + 1, none⟩ = some (.string y.base.g.text) := hq.c1
      have q2 : wr.cell? ⟨g2, off2 + k * 7 + 2, none⟩ = some (.int .i64 y.base.g.addr) := hq.c2
      have q3 : wr.cell? ⟨g2, off2 + k * 7 + 3, none⟩ = some (.int .i64 y.base.g.bits) := hq.c3
      have q4 : wr.cell? ⟨g2, off2 + k * 7 + 4, none⟩ = some (.slice b1 m1 d1) := hq.c4
      have q5 : wr.cell? ⟨g2, off2 + k * 7 + 5, none⟩ = some (.int .i64 y.act) := hq.c5
      have q6 : wr.cell? ⟨g2, off2 + k * 7 + 6, none⟩ = some (.bool y.yes) := hq.c6
      have HP1 : Hid (ARR wr.drew ⟨a1, n1, c1⟩ y) := hr1.kept hbr.drew
      have HP2 : Hid (ARR wr.drew ⟨b1, m1, d1⟩ y) := hr2.kept hbr.drew
      have hkni : (k : Int) < (n : Int) := by omega
      have hs := hbr.size
      clear hp hq hr1 hr2 hgp
      have EQ : Hid (Calls Tryz.prog 72 #[.agg #[.int .i64 y.base.g.kind, .string y.base.g.text, .int .i64 y.base.g.addr, .int .i64 y.base.g.bits, .slice a1 n1 c1, .int .i64 y.act, .bool y.yes], .agg #[.int .i64 y.base.g.kind, .string y.base.g.text, .int .i64 y.base.g.addr, .int .i64 y.base.g.bits, .slice b1 m1 d1, .int .i64 y.act, .bool y.yes]] wr.drew fun e w' => e = .returned (.bool true) ∧ Below wr.drew.heap.size wr.drew w') := eqAllowRule_k ⟨a1, n1, c1⟩ ⟨b1, m1, d1⟩ y _ HP1.out HP2.out HGP.out
      go_wp2_with fail
      go_region_with (go_at_call 72; refine EQ.out.mono ?_; rintro e w2 ⟨rfl, hb2⟩)
      all_goals
        have b5 : Below w.heap.size w w2 := hbr.drew.trans (hb2.mono hs)
        go_wp2
        go_roundw
        case rel => exact ⟨k + 1, by omega, by go_num, b5⟩
        case measure => simp [intOf]; omega
    · go_wp2
      go_ret
      exact ⟨rfl, hbr⟩

theorem Tryz.infoAR : (Tryz.prog.info? 108).map (fun i => (i.zero, i.size, i.bytes)) = some (some (.agg #[.int .i64 0, .string ⟨#[]⟩, .int .i64 0, .int .i64 0, .slice none 0 0, .int .i64 0, .bool false]), 7, 80) := by kernel_rfl
/-- The cells of the row g are written, from o on. -/
def putAR (w : World) (g o : Nat) (v0 v1 v2 v3 v4 v5 v6 : Value) : World := (((((((w.setCell ⟨g, o, none⟩ v0).setCell ⟨g, o + 1, none⟩ v1).setCell ⟨g, o + 2, none⟩ v2).setCell ⟨g, o + 3, none⟩ v3).setCell ⟨g, o + 4, none⟩ v4).setCell ⟨g, o + 5, none⟩ v5).setCell ⟨g, o + 6, none⟩ v6)
theorem putAR_other (w : World) (g o l : Nat) (h : l ≠ g) (v0 v1 v2 v3 v4 v5 v6 : Value) : (putAR w g o v0 v1 v2 v3 v4 v5 v6).heap[l]? = w.heap[l]? :=
  (Below.heap_setCell _ _ _ _ (by show l ≠ g; exact h)).trans ((Below.heap_setCell _ _ _ _ (by show l ≠ g; exact h)).trans ((Below.heap_setCell _ _ _ _ (by show l ≠ g; exact h)).trans ((Below.heap_setCell _ _ _ _ (by show l ≠ g; exact h)).trans ((Below.heap_setCell _ _ _ _ (by show l ≠ g; exact h)).trans ((Below.heap_setCell _ _ _ _ (by show l ≠ g; exact h)).trans (Below.heap_setCell _ _ _ _ (by show l ≠ g; exact h)))))))
theorem putAR_size (w : World) (g o : Nat) (v0 v1 v2 v3 v4 v5 v6 : Value) : (putAR w g o v0 v1 v2 v3 v4 v5 v6).heap.size = w.heap.size := by simp [putAR]
theorem putAR_below {B : Nat} {w0 w : World} (h : Below B w0 w) (g o : Nat) (hg : B ≤ g) (v0 v1 v2 v3 v4 v5 v6 : Value) : Below B w0 (putAR w g o v0 v1 v2 v3 v4 v5 v6) := (((((((h.setCell hg _).setCell hg _).setCell hg _).setCell hg _).setCell hg _).setCell hg _).setCell hg _)
/-- The first k lie in the row g, what they have behind it. -/
def ARPre (w : World) (g k : Nat) (xs : List AR) : Prop := ∀ j, j < k → ∃ s : ARS, ARC w g (j * 7) s (xs.getD j default) ∧ Keeps (g + 1) w (fun W => ARR W s (xs.getD j default))
theorem ARPre.kept {w w' : World} {g k : Nat} {xs : List AR} (h : ARPre w g k xs) (hg : g < w.heap.size) (hb : Below w.heap.size w w') : ARPre w' g k xs := fun j hj => by
  obtain ⟨s, h3, h4⟩ := h j hj
  exact ⟨s, h3.of (fun i => hb.cell (p := ⟨g, i, none⟩) hg), stab_keeps _ _ w w' (fun l _ hl => hb.block l hl) hb.size h4⟩
structure PutAR (B : Nat) (w w' : World) (g n cap i : Nat) (s : ARS) (x : AR) : Prop where
  own : ∃ vs, w'.ownsRow B 108 7 (.slice (some ⟨g, 0, none⟩) n cap) n vs
  other : ∀ l, l ≠ g → w'.heap[l]? = w.heap[l]?
  size : w'.heap.size = w.heap.size
  old : ∀ j, j < n * 7 → j < i * 7 ∨ i * 7 + 7 ≤ j → w'.cell? ⟨g, j, none⟩ = w.cell? ⟨g, j, none⟩
  cells : ARC w' g (i * 7) s x

set_option maxRecDepth 10000 in
set_option maxHeartbeats 1000000 in
theorem putAR_is {B : Nat} {w : World} {g n cap : Nat} {vs : List Value} (h : w.ownsRow B 108 7 (.slice (some ⟨g, 0, none⟩) n cap) n vs) (i : Nat) (hi : i < n) (s : ARS) (x : AR) : PutAR B w (putAR w g (i * 7) (.int .i64 x.base.g.kind) (.string x.base.g.text) (.int .i64 x.base.g.addr) (.int .i64 x.base.g.bits) (.slice s.a1 s.n1 s.c1) (.int .i64 x.act) (.bool x.yes)) g n cap i s x := by
  have h1 := (((((((h.stored (i * 7) (.int .i64 x.base.g.kind)).1.stored (i * 7 + 1) (.string x.base.g.text)).1.stored (i * 7 + 2) (.int .i64 x.base.g.addr)).1.stored (i * 7 + 3) (.int .i64 x.base.g.bits)).1.stored (i * 7 + 4) (.slice s.a1 s.n1 s.c1)).1.stored (i * 7 + 5) (.int .i64 x.act)).1.stored (i * 7 + 6) (.bool x.yes)).1
  have hl : vs.length = n * 7 := h.1
  have cc := fun j (hj : j < n * 7) => h1.cellAt j hj
  refine ⟨⟨_, h1⟩, fun l hl => putAR_other _ _ _ _ hl _ _ _ _ _ _ _ , putAR_size _ _ _ _ _ _ _ _ _ _ , fun j hj ho => ?_, ⟨?_, ?_, ?_, ?_, ?_, ?_, ?_⟩⟩
  · refine (cc j hj).trans ?_
    rw [h.cellAt j hj]
    rw [List.getElem?_set_ne (by omega), List.getElem?_set_ne (by omega), List.getElem?_set_ne (by omega), List.getElem?_set_ne (by omega), List.getElem?_set_ne (by omega), List.getElem?_set_ne (by omega), List.getElem?_set_ne (by omega)]
  · refine (cc _ (by omega)).trans ?_
    rw [List.getElem?_set_ne (by omega), List.getElem?_set_ne (by omega), List.getElem?_set_ne (by omega), List.getElem?_set_ne (by omega), List.getElem?_set_ne (by omega), List.getElem?_set_ne (by omega), List.getElem?_set_self (by omega)]
  · refine (cc _ (by omega)).trans ?_
    rw [List.getElem?_set_ne (by omega), List.getElem?_set_ne (by omega), List.getElem?_set_ne (by omega), List.getElem?_set_ne (by omega), List.getElem?_set_ne (by omega), List.getElem?_set_self (by simp; omega)]
  · refine (cc _ (by omega)).trans ?_
    rw [List.getElem?_set_ne (by omega), List.getElem?_set_ne (by omega), List.getElem?_set_ne (by omega), List.getElem?_set_ne (by omega), List.getElem?_set_self (by simp; omega)]
  · refine (cc _ (by omega)).trans ?_
    rw [List.getElem?_set_ne (by omega), List.getElem?_set_ne (by omega), List.getElem?_set_ne (by omega), List.getElem?_set_self (by simp; omega)]
  · refine (cc _ (by omega)).trans ?_
    rw [List.getElem?_set_ne (by omega), List.getElem?_set_ne (by omega), List.getElem?_set_self (by simp; omega)]
  · refine (cc _ (by omega)).trans ?_
    rw [List.getElem?_set_ne (by omega), List.getElem?_set_self (by simp; omega)]
  · refine (cc _ (by omega)).trans ?_
    rw [List.getElem?_set_self (by simp; omega)]

set_option maxRecDepth 10000 in
set_option maxHeartbeats 4000000 in
theorem toAllowRuleS_k (a : Option Addr) (n cap : Nat) (xs : List AR) (w : World) (h : ARs w a n xs) (hn : n ≤ 1048576) (hz : ∀ k, k < n → ARZ (xs.getD k default)) :
    Calls Tryz.prog 18 #[.slice a n cap] w fun e w' => ∃ a', e = .returned (.slice a' n n) ∧ Keeps w.heap.size w' (fun W => ARs W a' n xs) ∧ Below w.heap.size w w' := by
  obtain ⟨i0, hi, hz0, hz1, hz2⟩ := info_parts Tryz.infoAR
  have HK : Hid (ARs w a n xs) := h
  have HZ : Hid (∀ k, k < n → ARZ (xs.getD k default)) := hz
  have hlen : Hid (xs.length = n) := h.len
  clear h hz
  go_enter Tryz.func18, Tryz.ntmps18
  go_wp2_with (first | (at_make; refine wpList_make_full _ rfl _ _ 57 rfl w.heap.size 108 i0 _ 7 Tryz.underlying57 hi hz0 hz1 _ _ _ _ n rfl rfl rfl rfl (by rw [hz2]; omega) (by unfold maxLen; omega) (by exact Nat.le_refl _) ?_; intro w1 hown hgrow))
  have hbl : Below w.heap.size w w1 := (Below.refl _ _).grown hgrow (Nat.le_refl _) (by simp)
  clear hgrow hi hz0 hz1 hz2
  go_loopw [4] (fun i wr => ∃ k : Nat, k ≤ n ∧ i = .int .i64 k ∧ Hid (∃ vs, wr.ownsRow w.heap.size 108 7 (.slice (some ⟨w.heap.size, 0, none⟩) n n) n vs) ∧ Hid (ARPre wr w.heap.size k xs) ∧ Below w.heap.size w wr) (fun i _ => n - (intOf i).toNat)
  case atStart => exact ⟨0, Nat.zero_le _, rfl, ⟨_, hown⟩, fun j hj => absurd hj (Nat.not_lt_zero _), hbl⟩
  case round =>
    obtain ⟨k, hk, rfl, HOR, HPRE, hbr⟩ := hrel
    obtain ⟨vs, hor⟩ := HOR.out
    have hgl := (hor.lt _ rfl).2
    have HOV : Hid (_) := hor
    clear HOR hor hown hbl
    by_cases hkn : k < n
    · obtain ⟨b, off, ⟨a1, n1, c1⟩, rfl, hlb, hc, hp⟩ := HK.out.get k hkn
      have hgp := HZ.out k hkn
      obtain ⟨y, hy⟩ : ∃ y, y = xs.getD k default := ⟨_, rfl⟩
      rw [← hy] at hc hp hgp
      have HY : Hid (y = xs.getD k default) := hy
      have HG : Hid (ARZ y) := hgp
      replace hc := hc.of (w' := wr) (fun i => hbr.cell (p := ⟨b, i, none⟩) hlb)
      have u0 : wr.cell? ⟨b, off + k * 7, none⟩ = some (.int .i64 y.base.g.kind) := hc.c0
      have u1 : wr.cell? ⟨b, off + k * 7 + 1, none⟩ = some (.string y.base.g.text) := hc.c1
      have u2 : wr.cell? ⟨b, off + k * 7 + 2, none⟩ = some (.int .i64 y.base.g.addr) := hc.c2
      have u3 : wr.cell? ⟨b, off + k * 7 + 3, none⟩ = some (.int .i64 y.base.g.bits) := hc.c3
      have u4 : wr.cell? ⟨b, off + k * 7 + 4, none⟩ = some (.slice a1 n1 c1) := hc.c4
      have u5 : wr.cell? ⟨b, off + k * 7 + 5, none⟩ = some (.int .i64 y.act) := hc.c5
      have u6 : wr.cell? ⟨b, off + k * 7 + 6, none⟩ = some (.bool y.yes) := hc.c6
      have HP : Hid (ARR wr ⟨a1, n1, c1⟩ y) := hp.kept hbr
      have hkni : (k : Int) < (n : Int) := by omega
      have hs := hbr.size
      clear hc hy hp hgp
      go_wp2_with fail
      refine (toAllowRule_k ⟨a1, n1, c1⟩ y _ HP.out HG.out).mono ?_
      rintro e w2 ⟨s, rfl, _, hp2, hb2⟩
      have hor2 : w2.ownsRow w.heap.size 108 7 (.slice (some ⟨w.heap.size, 0, none⟩) n n) n vs := ownsRow_below HOV.out hb2
      have hs2 := hb2.size
      have fr : ∀ j, w2.frozen? ⟨w.heap.size, j, none⟩ = false := fun j => hor2.frozenAt j
      have hvl : vs.length = n * 7 := hor2.1
      have cx : ∀ j, j < n * 7 → ∃ z, w2.cell? ⟨w.heap.size, j, none⟩ = some z := fun j hj => ⟨_, (hor2.cellAt j hj).trans (List.getElem?_eq_getElem (by omega))⟩
      obtain ⟨z0, x0⟩ := cx (k * 7) (by omega)
      obtain ⟨z1, x1⟩ := cx (k * 7 + 1) (by omega)
      obtain ⟨z2, x2⟩ := cx (k * 7 + 2) (by omega)
      obtain ⟨z3, x3⟩ := cx (k * 7 + 3) (by omega)
      obtain ⟨z4, x4⟩ := cx (k * 7 + 4) (by omega)
      obtain ⟨z5, x5⟩ := cx (k * 7 + 5) (by omega)
      obtain ⟨z6, x6⟩ := cx (k * 7 + 6) (by omega)
      have f0 := fr (k * 7)
      have f1 := fr (k * 7 + 1)
      have f2 := fr (k * 7 + 2)
      have f3 := fr (k * 7 + 3)
      have f4 := fr (k * 7 + 4)
      have f5 := fr (k * 7 + 5)
      have f6 := fr (k * 7 + 6)
      have hS := putAR_is hor2 k hkn s y
      have hP : ARPre (putAR w2 w.heap.size (k * 7) (.int .i64 y.base.g.kind) (.string y.base.g.text) (.int .i64 y.base.g.addr) (.int .i64 y.base.g.bits) (.slice s.a1 s.n1 s.c1) (.int .i64 y.act) (.bool y.yes)) w.heap.size (k + 1) xs := by
        intro j hj
        by_cases hjk : j = k
        · subst hjk
          rw [← HY.out]
          exact ⟨s, hS.cells, stab_keeps _ _ w2 _ (fun l hl _ => hS.other l (by omega)) (Nat.le_of_eq hS.size.symm) (hp2.mono (by omega))⟩
        · obtain ⟨r, q2, q3⟩ := (HPRE.out.kept hgl hb2) j (by omega)
          have hx := hS.old
          exact ⟨r, ⟨(hx _ (by omega) (by omega)).trans q2.c0, (hx _ (by omega) (by omega)).trans q2.c1, (hx _ (by omega) (by omega)).trans q2.c2, (hx _ (by omega) (by omega)).trans q2.c3, (hx _ (by omega) (by omega)).trans q2.c4, (hx _ (by omega) (by omega)).trans q2.c5, (hx _ (by omega) (by omega)).trans q2.c6⟩, stab_keeps _ _ w2 _ (fun l hl _ => hS.other l (by omega)) (Nat.le_of_eq hS.size.symm) q3⟩
      have hB2 := hbr.trans (hb2.mono hs)
      have hB4 : Below w.heap.size w (putAR w2 w.heap.size (k * 7) (.int .i64 y.base.g.kind) (.string y.base.g.text) (.int .i64 y.base.g.addr) (.int .i64 y.base.g.bits) (.slice s.a1 s.n1 s.c1) (.int .i64 y.act) (.bool y.yes)) := putAR_below hB2 _ _ (Nat.le_refl _) _ _ _ _ _ _ _ 
      have FIN : Hid (_ ∧ _ ∧ _) := ⟨hS.own, hP, hB4⟩
      have hgl2 : w.heap.size < w2.heap.size := by omega
      clear fr cx hS hP hB4 hB2 hor2 hp2 hb2 hvl HPRE HOV HP HK
      unfold ARv
      go_wp2
      go_roundw
      case rel => exact ⟨k + 1, by omega, by go_num, FIN.out.1, FIN.out.2.1, FIN.out.2.2⟩
      case measure => simp [intOf]; omega
    · obtain rfl : n = k := by omega
      have HX : Hid (n ≤ 9223372036854775807) := HK.out.max
      clear HOV HK
      go_wp2
      go_ret
      refine ⟨_, rfl, ⟨fun W => ARPre W w.heap.size n xs ∧ w.heap.size < W.heap.size, ?_, ⟨HPRE.out, hgl⟩, ?_⟩, hbr⟩
      · intro W W' e s r
        refine ⟨fun j hj => ?_, Nat.lt_of_lt_of_le r.2 s⟩
        obtain ⟨q, h1, h2⟩ := r.1 j hj
        have hbk := e w.heap.size (Nat.le_refl _) r.2
        exact ⟨q, h1.of (fun i => by simp [World.cell?, hbk]), stab_keeps _ _ W W' (fun l hl hl2 => e l (by omega) hl2) s h2⟩
      · intro W r
        refine ⟨hlen.out, HX.out, fun k hk => ?_⟩
        obtain ⟨q, h1, h2⟩ := r.1 k hk
        exact ⟨w.heap.size, 0, q, rfl, r.2, by rw [Nat.zero_add]; exact h1, h2.now⟩

end Go.Proofs.YtkpabanjlhlmfaaGreatDoor

set_option linter.unusedVariables false
namespace Go.Proofs.YtkpabanjlhlmfaaGreatDoor
open Go.RowKit

/-- A rule speaks of those names and that action. -/
def spkR (xs : List GE) (n : Nat) (act : Int) (r : AR) : Prop := (r.act = 0 ∨ r.act = act) ∧ ∃ k, k < n ∧ wn (xs.getD k default) r.base

set_option maxRecDepth 10000 in
set_option maxHeartbeats 1000000 in
theorem hasBase_any (r : AR) (ra : Option Addr) (rn rc : Nat) (w : World) (hm : MaxW w) (h : Pts w ra rn r.base.parts) (hz : r.base.g.text.size ≤ 1048576 ∧ ∀ k, k < rn → (r.base.parts.getD k default).val.size ≤ 1048576) :
    Calls Tryz.prog 67 #[.agg #[.int .i64 r.base.g.kind, .string r.base.g.text, .int .i64 r.base.g.addr, .int .i64 r.base.g.bits, .slice ra rn rc, .int .i64 r.act, .bool r.yes]] w (SaysB (baseP r.base.g r.base.parts) w) := by
  obtain ⟨w0, hw0⟩ : ∃ w0, w0 = w.alloc (.cells #[.int .i64 r.base.g.kind, .string r.base.g.text, .int .i64 r.base.g.addr, .int .i64 r.base.g.bits, .slice ra rn rc, .int .i64 r.act, .bool r.yes] 108) := ⟨_, rfl⟩
  have hb0 : Below w.heap.size w w0 := by rw [hw0]; exact (Below.refl _ _).alloc (Nat.le_refl _) _
  have hx0 : w0.heap[w.heap.size]? = some (.cells #[.int .i64 r.base.g.kind, .string r.base.g.text, .int .i64 r.base.g.addr, .int .i64 r.base.g.bits, .slice ra rn rc, .int .i64 r.act, .bool r.yes] 108 (0, 0)) := by rw [hw0]; exact heap_alloc_new w _
  have e0 : w0.cell? ⟨w.heap.size, 0, none⟩ = some (.int .i64 r.base.g.kind) := (cell_of_row _ _ 0 _ 108 (0, 0) hx0).trans rfl
  have e1 : w0.cell? ⟨w.heap.size, 1, none⟩ = some (.string r.base.g.text) := (cell_of_row _ _ 1 _ 108 (0, 0) hx0).trans rfl
  have e2 : w0.cell? ⟨w.heap.size, 2, none⟩ = some (.int .i64 r.base.g.addr) := (cell_of_row _ _ 2 _ 108 (0, 0) hx0).trans rfl
  have e3 : w0.cell? ⟨w.heap.size, 3, none⟩ = some (.int .i64 r.base.g.bits) := (cell_of_row _ _ 3 _ 108 (0, 0) hx0).trans rfl
  have e4 : w0.cell? ⟨w.heap.size, 4, none⟩ = some (.slice ra rn rc) := (cell_of_row _ _ 4 _ 108 (0, 0) hx0).trans rfl
  have BO : Hid (Calls Tryz.prog 57 #[.agg #[.int .i64 r.base.g.kind, .string r.base.g.text, .int .i64 r.base.g.addr, .int .i64 r.base.g.bits, .slice ra rn rc]] w0 (SaysB (baseP r.base.g r.base.parts) w0)) := implBaseOk_any r.base.g ra rn rc r.base.parts w0 (hm.kept hb0) (h.kept hb0) hz.2 hz.1
  have HB : Hid (Below w.heap.size w w0) := hb0
  clear hx0 hb0 h hm
  go_enter Tryz.func67, Tryz.ntmps67
  go_upto_region 1 with fail
  rw [← hw0]
  clear hw0
  go_wp2_with fail
  refine BO.out.mono ?_
  rintro e w1 ⟨v, rfl, hv, hb1⟩
  have HV : Hid _ := hv
  have B1 : Hid (Below w.heap.size w w1) := HB.out.trans (hb1.mono HB.out.size)
  clear hv hb1 e0 e1 e2 e3 e4
  go_wp2
  go_ret
  exact ⟨v, rfl, HV, B1.out⟩

set_option maxRecDepth 10000 in
set_option maxHeartbeats 2000000 in
theorem everyRule_any (a : Option Addr) (n c : Nat) (xs : List AR) (w : World) (hm : MaxW w) (h : ARs w a n xs) (hz : ∀ k, k < n → ARZ (xs.getD k default)) :
    Calls Tryz.prog 66 #[.slice a n c, .func (Fn.func 67) #[] #[]] w (SaysB (∀ k, k < n → baseP (xs.getD k default).base.g (xs.getD k default).base.parts) w) := by
  have H0 : Hid (ARs w a n xs) := h
  have HZ : Hid (∀ k, k < n → ARZ (xs.getD k default)) := hz
  have HM : Hid (∀ W, Below w.heap.size w W → MaxW W) := fun W hW => hm.kept hW
  have hn := h.max
  clear h hz hm
  go_enter Tryz.func66, Tryz.ntmps66
  go_wp2
  go_loopw [9] (fun i wr => ∃ k : Nat, k ≤ n ∧ i = .int .i64 k ∧ Hid (∀ j, j < k → baseP (xs.getD j default).base.g (xs.getD j default).base.parts) ∧ Below w.heap.size w wr) (fun i _ => n - (intOf i).toNat)
  case atStart => exact ⟨0, Nat.zero_le _, rfl, fun k hk => absurd hk (Nat.not_lt_zero _), Below.refl _ _⟩
  case round =>
    obtain ⟨k, hk, rfl, HE, hbr⟩ := hrel
    by_cases hkn : k < n
    case pos =>
      obtain ⟨b, off, ⟨an, nn, cn⟩, rfl, hlb, hcc, hp⟩ := H0.out.get k hkn
      have hgp := HZ.out k hkn
      obtain ⟨y, hy⟩ : ∃ y, y = xs.getD k default := ⟨_, rfl⟩
      rw [← hy] at hcc hp hgp
      have HY : Hid (y = xs.getD k default) := hy
      replace hcc := hcc.of (w' := wr) (fun i => hbr.cell (p := ⟨b, i, none⟩) hlb)
      have u0 : wr.cell? ⟨b, off + k * 7, none⟩ = some (.int .i64 y.base.g.kind) := hcc.c0
      have u1 : wr.cell? ⟨b, off + k * 7 + 1, none⟩ = some (.string y.base.g.text) := hcc.c1
      have u2 : wr.cell? ⟨b, off + k * 7 + 2, none⟩ = some (.int .i64 y.base.g.addr) := hcc.c2
      have u3 : wr.cell? ⟨b, off + k * 7 + 3, none⟩ = some (.int .i64 y.base.g.bits) := hcc.c3
      have u4 : wr.cell? ⟨b, off + k * 7 + 4, none⟩ = some (.slice an nn cn) := hcc.c4
      have u5 : wr.cell? ⟨b, off + k * 7 + 5, none⟩ = some (.int .i64 y.act) := hcc.c5
      have u6 : wr.cell? ⟨b, off + k * 7 + 6, none⟩ = some (.bool y.yes) := hcc.c6
      have HS : Hid (y.base.g.text.size ≤ 1048576 ∧ ∀ k, k < nn → (y.base.parts.getD k default).val.size ≤ 1048576) := by
        have h2 := hp.zn.1 hgp
        exact ⟨h2.1, h2.2.2⟩
      have HPW : Hid (∀ W, Below w.heap.size w W → Pts W an nn y.base.parts) := fun W hW => (hp.kept hW).r1
      have hkni : (k : Int) < (n : Int) := by omega
      clear hcc hy hp hgp
      obtain ⟨W2, hW2⟩ : ∃ W2, W2 = wr.alloc (.cells #[.int .i64 y.base.g.kind, .string y.base.g.text, .int .i64 y.base.g.addr, .int .i64 y.base.g.bits, .slice an nn cn, .int .i64 y.act, .bool y.yes] 108) := ⟨_, rfl⟩
      have hb2 : Below wr.heap.size wr W2 := by rw [hW2]; exact (Below.refl _ _).alloc (Nat.le_refl _) _
      have X2 : Hid (W2.heap[wr.heap.size]? = some (.cells #[.int .i64 y.base.g.kind, .string y.base.g.text, .int .i64 y.base.g.addr, .int .i64 y.base.g.bits, .slice an nn cn, .int .i64 y.act, .bool y.yes] 108 (0, 0))) := by show _ = _; rw [hW2]; exact heap_alloc_new wr _
      have B2 : Hid (Below w.heap.size w W2) := hbr.trans (hb2.mono hbr.size)
      have CO : Hid (Calls Tryz.prog 67 #[.agg #[.int .i64 y.base.g.kind, .string y.base.g.text, .int .i64 y.base.g.addr, .int .i64 y.base.g.bits, .slice an nn cn, .int .i64 y.act, .bool y.yes]] W2 (SaysB (baseP y.base.g y.base.parts) W2)) := hasBase_any y an nn cn W2 (HM.out _ B2.out) (HPW.out _ B2.out) HS.out
      have HW2 : Hid (_ = _) := hW2
      clear hW2 hb2
      go_upto_region 4 with fail
      rw [← HW2.out]
      clear HW2 u0 u1 u2 u3 u4 u5 u6
      have e0 : W2.cell? ⟨wr.heap.size, 0, none⟩ = some (.int .i64 y.base.g.kind) := (cell_of_row _ _ 0 _ 108 (0, 0) X2.out).trans rfl
      have e1 : W2.cell? ⟨wr.heap.size, 1, none⟩ = some (.string y.base.g.text) := (cell_of_row _ _ 1 _ 108 (0, 0) X2.out).trans rfl
      have e2 : W2.cell? ⟨wr.heap.size, 2, none⟩ = some (.int .i64 y.base.g.addr) := (cell_of_row _ _ 2 _ 108 (0, 0) X2.out).trans rfl
      have e3 : W2.cell? ⟨wr.heap.size, 3, none⟩ = some (.int .i64 y.base.g.bits) := (cell_of_row _ _ 3 _ 108 (0, 0) X2.out).trans rfl
      have e4 : W2.cell? ⟨wr.heap.size, 4, none⟩ = some (.slice an nn cn) := (cell_of_row _ _ 4 _ 108 (0, 0) X2.out).trans rfl
      have e5 : W2.cell? ⟨wr.heap.size, 5, none⟩ = some (.int .i64 y.act) := (cell_of_row _ _ 5 _ 108 (0, 0) X2.out).trans rfl
      have e6 : W2.cell? ⟨wr.heap.size, 6, none⟩ = some (.bool y.yes) := (cell_of_row _ _ 6 _ 108 (0, 0) X2.out).trans rfl
      go_wp2_with fail
      refine CO.out.mono ?_
      rintro e w3 ⟨v, rfl, hv, hb3⟩
      have B3 : Hid (Below w.heap.size w w3) := B2.out.trans (hb3.mono B2.out.size)
      have HV : Hid _ := hv
      clear hv hb3 e0 e1 e2 e3 e4 e5 e6
      cases v with
      | false =>
        have HN : Hid (¬ ∀ k, k < n → baseP (xs.getD k default).base.g (xs.getD k default).base.parts) := fun q => by have := q k hkn; rw [← HY.out] at this; have := HV.out.2 this; simp at this
        go_wp2
        go_ret
        exact saysB_f HN.out B3.out
      | true =>
        have HN : Hid (∀ j, j < k + 1 → baseP (xs.getD j default).base.g (xs.getD j default).base.parts) := fun j hj => by
          by_cases e : j < k
          · exact HE.out j e
          · obtain rfl : j = k := by omega
            rw [← HY.out]; exact HV.out.1 rfl
        go_wp2
        go_roundw
        case rel => exact ⟨k + 1, by omega, by go_num, HN, B3.out⟩
        case measure => simp [intOf]; omega
    have hkn' : k = n := by omega
    subst hkn'
    go_wp2
    go_ret
    exact saysB_t HE.out hbr

set_option maxRecDepth 10000 in
set_option maxHeartbeats 1000000 in
theorem cl_speak_any (r : AR) (ra : Option Addr) (rn rc : Nat) (an : Option Addr) (nn cn : Nat) (y : GE) (g : Nat) (w : World) (hm : MaxW w) (hx : w.heap[g]? = some (.cells #[.int .i64 r.base.g.kind, .string r.base.g.text, .int .i64 r.base.g.addr, .int .i64 r.base.g.bits, .slice ra rn rc, .int .i64 r.act, .bool r.yes] 108 (0, 0))) (hq : Pts w ra rn r.base.parts) (hqz : r.base.g.text.size ≤ 1048576 ∧ ∀ k, k < rn → (r.base.parts.getD k default).val.size ≤ 1048576) (hy : Pts w an nn y.parts) (hyz : y.g.text.size ≤ 1048576 ∧ ∀ k, k < nn → (y.parts.getD k default).val.size ≤ 1048576) :
    Calls Tryz.prog 106 #[.agg #[.int .i64 y.g.kind, .string y.g.text, .int .i64 y.g.addr, .int .i64 y.g.bits, .slice an nn cn], .pointer (some ⟨g, 0, none⟩)] w (SaysB (wn y r.base) w) := by
  have hg : g < w.heap.size := (Array.getElem?_eq_some_iff.1 hx).1
  obtain ⟨w0, hw0⟩ : ∃ w0, w0 = w.alloc (.cells #[.int .i64 y.g.kind, .string y.g.text, .int .i64 y.g.addr, .int .i64 y.g.bits, .slice an nn cn] 96) := ⟨_, rfl⟩
  have hb0 : Below w.heap.size w w0 := by rw [hw0]; exact (Below.refl _ _).alloc (Nat.le_refl _) _
  have hy0 : w0.heap[w.heap.size]? = some (.cells #[.int .i64 y.g.kind, .string y.g.text, .int .i64 y.g.addr, .int .i64 y.g.bits, .slice an nn cn] 96 (0, 0)) := by rw [hw0]; exact heap_alloc_new w _
  have hx0 := (hb0.block _ hg).trans hx
  have e0 : w0.cell? ⟨w.heap.size, 0, none⟩ = some (.int .i64 y.g.kind) := (cell_of_row _ _ 0 _ 96 (0, 0) hy0).trans rfl
  have e1 : w0.cell? ⟨w.heap.size, 1, none⟩ = some (.string y.g.text) := (cell_of_row _ _ 1 _ 96 (0, 0) hy0).trans rfl
  have e2 : w0.cell? ⟨w.heap.size, 2, none⟩ = some (.int .i64 y.g.addr) := (cell_of_row _ _ 2 _ 96 (0, 0) hy0).trans rfl
  have e3 : w0.cell? ⟨w.heap.size, 3, none⟩ = some (.int .i64 y.g.bits) := (cell_of_row _ _ 3 _ 96 (0, 0) hy0).trans rfl
  have e4 : w0.cell? ⟨w.heap.size, 4, none⟩ = some (.slice an nn cn) := (cell_of_row _ _ 4 _ 96 (0, 0) hy0).trans rfl
  have d0 : w0.cell? ⟨g, 0, none⟩ = some (.int .i64 r.base.g.kind) := (cell_of_row _ _ 0 _ 108 (0, 0) hx0).trans rfl
  have d1 : w0.cell? ⟨g, 1, none⟩ = some (.string r.base.g.text) := (cell_of_row _ _ 1 _ 108 (0, 0) hx0).trans rfl
  have d2 : w0.cell? ⟨g, 2, none⟩ = some (.int .i64 r.base.g.addr) := (cell_of_row _ _ 2 _ 108 (0, 0) hx0).trans rfl
  have d3 : w0.cell? ⟨g, 3, none⟩ = some (.int .i64 r.base.g.bits) := (cell_of_row _ _ 3 _ 108 (0, 0) hx0).trans rfl
  have d4 : w0.cell? ⟨g, 4, none⟩ = some (.slice ra rn rc) := (cell_of_row _ _ 4 _ 108 (0, 0) hx0).trans rfl
  have HC : Hid (Calls Tryz.prog 104 #[.agg #[.int .i64 y.g.kind, .string y.g.text, .int .i64 y.g.addr, .int .i64 y.g.bits, .slice an nn cn], .agg #[.int .i64 r.base.g.kind, .string r.base.g.text, .int .i64 r.base.g.addr, .int .i64 r.base.g.bits, .slice ra rn rc]] w0 (SaysB (wn y r.base) w0)) := implWithin_any y.g an nn cn y.parts r.base.g ra rn rc r.base.parts w0 (hm.kept hb0) (hy.kept hb0) hyz.2 hyz.1 (hq.kept hb0) hqz.2 hqz.1
  have HB : Hid (Below w.heap.size w w0) := hb0
  clear hx hx0 hy0 hb0 hq hy hm
  go_enter Tryz.func106, Tryz.ntmps106
  go_upto_region 1 with fail
  rw [← hw0]
  clear hw0
  go_wp2_with fail
  refine HC.out.mono ?_
  rintro e w1 ⟨v, rfl, hv, hb1⟩
  have HV : Hid _ := hv
  have B1 : Hid (Below w.heap.size w w1) := HB.out.trans (hb1.mono HB.out.size)
  clear hv hb1 e0 e1 e2 e3 e4 d0 d1 d2 d3 d4
  go_wp2
  go_ret
  exact ⟨v, rfl, HV, B1.out⟩

set_option maxRecDepth 10000 in
set_option maxHeartbeats 2000000 in
theorem index_speak (p : GE → Prop) (g : Nat) (a : Option Addr) (n c : Nat) (xs : List GE) (w : World) (h : Ges w a n xs) (hz : ∀ k, k < n → GeOk (xs.getD k default)) (hc : ∀ (W : World) (an : Option Addr) (nn cn : Nat) (y : GE), Below w.heap.size w W → Pts W an nn y.parts → (y.g.text.size ≤ 1048576 ∧ ∀ k, k < nn → (y.parts.getD k default).val.size ≤ 1048576) → Calls Tryz.prog 106 #[.agg #[.int .i64 y.g.kind, .string y.g.text, .int .i64 y.g.addr, .int .i64 y.g.bits, .slice an nn cn], .pointer (some ⟨g, 0, none⟩)] W (SaysB (p y) W)) :
    Calls Tryz.prog 137 #[.slice a n c, .func (Fn.func 106) #[] #[.pointer (some ⟨g, 0, none⟩)]] w fun e w' => ∃ r : Int, e = .returned (.int .i64 r) ∧ Hid (0 ≤ r ↔ ∃ k, k < n ∧ p (xs.getD k default)) ∧ Below w.heap.size w w' := by
  have H0 : Hid (Ges w a n xs) := h
  have HZ : Hid (∀ k, k < n → GeOk (xs.getD k default)) := hz
  have HCC : Hid (_) := hc
  have hn := h.max
  clear h hz hc
  go_enter Tryz.func137, Tryz.ntmps137
  go_wp2
  go_loopw [8] (fun i wr => ∃ k : Nat, k ≤ n ∧ i = .int .i64 k ∧ Hid (∀ j, j < k → ¬ p (xs.getD j default)) ∧ Below w.heap.size w wr) (fun i _ => n - (intOf i).toNat)
  case atStart => exact ⟨0, Nat.zero_le _, rfl, fun k hk => absurd hk (Nat.not_lt_zero _), Below.refl _ _⟩
  case round =>
    obtain ⟨k, hk, rfl, HN, hbr⟩ := hrel
    by_cases hkn : k < n
    · obtain ⟨b, off, an, nn, cn, rfl, hlb, hcc, hp, _⟩ := H0.out.get k hkn
      have hgp := HZ.out k hkn
      obtain ⟨y, hy⟩ : ∃ y, y = xs.getD k default := ⟨_, rfl⟩
      rw [← hy] at hcc hp hgp
      have HY : Hid (y = xs.getD k default) := hy
      obtain ⟨c0, c1, c2, c3, c4⟩ := hcc.of (w' := wr) (fun i => hbr.cell (p := ⟨b, i, none⟩) hlb)
      have HP : Hid (Pts wr an nn y.parts) := hp.kept hbr
      have HS : Hid (y.g.text.size ≤ 1048576 ∧ ∀ k, k < nn → (y.parts.getD k default).val.size ≤ 1048576) := ⟨hgp.1, by rw [← hp.len]; exact hgp.2.2⟩
      have hkni : (k : Int) < (n : Int) := by omega
      clear hcc hy hp hgp
      go_wp2_with fail
      refine (HCC.out _ an nn cn y hbr HP.out HS.out).mono ?_
      rintro e w2 ⟨v, rfl, hv, hb2⟩
      have B2 : Below w.heap.size w w2 := hbr.trans (hb2.mono hbr.size)
      have HV : Hid _ := hv
      clear hb2 hv
      cases v with
      | true =>
        have HT : Hid (0 ≤ (k : Int) ↔ ∃ k, k < n ∧ p (xs.getD k default)) := ⟨fun _ => ⟨k, hkn, by rw [← HY.out]; exact HV.out.1 rfl⟩, fun _ => by omega⟩
        go_wp2
        go_ret
        exact ⟨_, rfl, HT, B2⟩
      | false =>
        have HN2 : Hid (∀ j, j < k + 1 → ¬ p (xs.getD j default)) := fun j hj => by
          by_cases e : j < k
          · exact HN.out j e
          · obtain rfl : j = k := by omega
            rw [← HY.out]; exact fun q => by have := HV.out.2 q; cases this
        go_wp2
        go_roundw
        case rel => exact ⟨k + 1, by omega, by go_num, HN2, B2⟩
        case measure => simp [intOf]; omega
    · obtain rfl : k = n := by omega
      have HT : Hid (0 ≤ (-1 : Int) ↔ ∃ j, j < k ∧ p (xs.getD j default)) := ⟨fun h => absurd h (by decide), fun ⟨j, hj, hp⟩ => absurd hp (HN.out j hj)⟩
      go_wp2
      go_ret
      exact ⟨_, rfl, HT, hbr⟩

set_option maxRecDepth 10000 in
set_option maxHeartbeats 1000000 in
theorem contains_speak (p : GE → Prop) (g : Nat) (a : Option Addr) (n c : Nat) (xs : List GE) (w : World) (h : Ges w a n xs) (hz : ∀ k, k < n → GeOk (xs.getD k default)) (hc : ∀ (W : World) (an : Option Addr) (nn cn : Nat) (y : GE), Below w.heap.size w W → Pts W an nn y.parts → (y.g.text.size ≤ 1048576 ∧ ∀ k, k < nn → (y.parts.getD k default).val.size ≤ 1048576) → Calls Tryz.prog 106 #[.agg #[.int .i64 y.g.kind, .string y.g.text, .int .i64 y.g.addr, .int .i64 y.g.bits, .slice an nn cn], .pointer (some ⟨g, 0, none⟩)] W (SaysB (p y) W)) :
    Calls Tryz.prog 102 #[.slice a n c, .func (Fn.func 106) #[] #[.pointer (some ⟨g, 0, none⟩)]] w (SaysB (∃ k, k < n ∧ p (xs.getD k default)) w) := by
  have IDX := index_speak p g a n c xs w h hz hc
  have HI : Hid (_) := IDX
  clear IDX hc
  go_enter Tryz.func102, Tryz.ntmps102
  go_wp2_with fail
  refine Calls.mono HI.out ?_
  rintro e w2 ⟨r, rfl, hr, hb2⟩
  have HR : Hid (decide (0 ≤ r) = true ↔ ∃ k, k < n ∧ p (xs.getD k default)) := ⟨fun e => hr.out.1 (of_decide_eq_true e), fun q => decide_eq_true (hr.out.2 q)⟩
  clear hr
  go_wp2
  go_ret
  exact ⟨decide (0 ≤ r), rfl, HR, hb2⟩

set_option maxRecDepth 10000 in
set_option maxHeartbeats 1000000 in
theorem speaksOf_any (r : AR) (ra : Option Addr) (rn rc : Nat) (a : Option Addr) (n c : Nat) (xs : List GE) (act : Int) (w : World) (hm : MaxW w) (hq : Pts w ra rn r.base.parts) (hqz : r.base.g.text.size ≤ 1048576 ∧ ∀ k, k < rn → (r.base.parts.getD k default).val.size ≤ 1048576) (h : Ges w a n xs) (hz : ∀ k, k < n → GeOk (xs.getD k default)) :
    Calls Tryz.prog 71 #[.agg #[.int .i64 r.base.g.kind, .string r.base.g.text, .int .i64 r.base.g.addr, .int .i64 r.base.g.bits, .slice ra rn rc, .int .i64 r.act, .bool r.yes], .slice a n c, .int .i64 act] w (SaysB (spkR xs n act r) w) := by
  obtain ⟨w0, hw0⟩ : ∃ w0, w0 = w.alloc (.cells #[.int .i64 r.base.g.kind, .string r.base.g.text, .int .i64 r.base.g.addr, .int .i64 r.base.g.bits, .slice ra rn rc, .int .i64 r.act, .bool r.yes] 108) := ⟨_, rfl⟩
  have hb0 : Below w.heap.size w w0 := by rw [hw0]; exact (Below.refl _ _).alloc (Nat.le_refl _) _
  have hx0 : w0.heap[w.heap.size]? = some (.cells #[.int .i64 r.base.g.kind, .string r.base.g.text, .int .i64 r.base.g.addr, .int .i64 r.base.g.bits, .slice ra rn rc, .int .i64 r.act, .bool r.yes] 108 (0, 0)) := by rw [hw0]; exact heap_alloc_new w _
  have CON : Hid (Calls Tryz.prog 102 #[.slice a n c, .func (Fn.func 106) #[] #[.pointer (some ⟨w.heap.size, 0, none⟩)]] w0 (SaysB (∃ k, k < n ∧ wn (xs.getD k default) r.base) w0)) := contains_speak (fun y => wn y r.base) w.heap.size a n c xs w0 (h.kept hb0) hz (fun W an nn cn y hW hy hyz => cl_speak_any r ra rn rc an nn cn y w.heap.size W ((hm.kept hb0).kept hW) ((hW.block _ (Array.getElem?_eq_some_iff.1 hx0).1).trans hx0) ((hq.kept hb0).kept hW) hqz hy hyz)
  have HB : Hid (Below w.heap.size w w0) := hb0
  have e5 : w0.cell? ⟨w.heap.size, 5, none⟩ = some (.int .i64 r.act) := (cell_of_row _ _ 5 _ 108 (0, 0) hx0).trans rfl
  clear hx0 hb0 hq h hm hz
  by_cases h0 : r.act = 0 ∨ r.act = act
  case neg =>
    have z0 : (r.act == 0) = false := by simp; exact fun q => h0 (.inl q)
    have z1 : (r.act == act) = false := by simp; exact fun q => h0 (.inr q)
    have HN : Hid (¬ spkR xs n act r) := fun q => h0 q.1
    clear h0
    go_enter Tryz.func71, Tryz.ntmps71
    go_upto_region 1 with fail
    rw [← hw0]
    clear hw0
    go_wp2
    go_ret
    exact saysB_f HN.out HB.out
  have HA : Hid (r.act = 0 ∨ r.act = act) := h0
  by_cases h1 : r.act = 0
  · have z0 : (r.act == 0) = true := by simp [h1]
    clear h0 h1
    go_enter Tryz.func71, Tryz.ntmps71
    go_upto_region 1 with fail
    rw [← hw0]
    clear hw0
    go_wp2_with fail
    refine CON.out.mono ?_
    rintro e w1 ⟨v, rfl, hv, hb1⟩
    have HV : Hid (v = true ↔ spkR xs n act r) := ⟨fun e => ⟨HA.out, hv.out.1 e⟩, fun q => hv.out.2 q.2⟩
    have B1 : Hid (Below w.heap.size w w1) := HB.out.trans (hb1.mono HB.out.size)
    clear hv hb1 e5
    go_wp2
    go_ret
    exact ⟨v, rfl, HV, B1.out⟩
  · have z0 : (r.act == 0) = false := by simp [h1]
    have z1 : (r.act == act) = true := by simp; exact h0.resolve_left h1
    clear h0 h1
    go_enter Tryz.func71, Tryz.ntmps71
    go_upto_region 1 with fail
    rw [← hw0]
    clear hw0
    go_wp2_with fail
    refine CON.out.mono ?_
    rintro e w1 ⟨v, rfl, hv, hb1⟩
    have HV : Hid (v = true ↔ spkR xs n act r) := ⟨fun e => ⟨HA.out, hv.out.1 e⟩, fun q => hv.out.2 q.2⟩
    have B1 : Hid (Below w.heap.size w w1) := HB.out.trans (hb1.mono HB.out.size)
    clear hv hb1 e5
    go_wp2
    go_ret
    exact ⟨v, rfl, HV, B1.out⟩

set_option maxRecDepth 10000 in
set_option maxHeartbeats 1000000 in
theorem cl_allow_any (r : AR) (ra : Option Addr) (rn rc : Nat) (a : Option Addr) (n c : Nat) (xs : List GE) (act : Int) (g1 g2 : Nat) (w : World) (hm : MaxW w) (hx1 : w.heap[g1]? = some (.cells #[.slice a n c] 41 (0, 0))) (hx2 : w.heap[g2]? = some (.cells #[.int .i64 act] 2 (0, 0))) (hq : Pts w ra rn r.base.parts) (hqz : r.base.g.text.size ≤ 1048576 ∧ ∀ k, k < rn → (r.base.parts.getD k default).val.size ≤ 1048576) (h : Ges w a n xs) (hz : ∀ k, k < n → GeOk (xs.getD k default)) :
    Calls Tryz.prog 70 #[.agg #[.int .i64 r.base.g.kind, .string r.base.g.text, .int .i64 r.base.g.addr, .int .i64 r.base.g.bits, .slice ra rn rc, .int .i64 r.act, .bool r.yes], .pointer (some ⟨g1, 0, none⟩), .pointer (some ⟨g2, 0, none⟩)] w (SaysB (spkR xs n act r) w) := by
  have hg1 : g1 < w.heap.size := (Array.getElem?_eq_some_iff.1 hx1).1
  have hg2 : g2 < w.heap.size := (Array.getElem?_eq_some_iff.1 hx2).1
  obtain ⟨w0, hw0⟩ : ∃ w0, w0 = w.alloc (.cells #[.int .i64 r.base.g.kind, .string r.base.g.text, .int .i64 r.base.g.addr, .int .i64 r.base.g.bits, .slice ra rn rc, .int .i64 r.act, .bool r.yes] 108) := ⟨_, rfl⟩
  have hb0 : Below w.heap.size w w0 := by rw [hw0]; exact (Below.refl _ _).alloc (Nat.le_refl _) _
  have hx0 : w0.heap[w.heap.size]? = some (.cells #[.int .i64 r.base.g.kind, .string r.base.g.text, .int .i64 r.base.g.addr, .int .i64 r.base.g.bits, .slice ra rn rc, .int .i64 r.act, .bool r.yes] 108 (0, 0)) := by rw [hw0]; exact heap_alloc_new w _
  have k1 : w0.cell? ⟨g1, 0, none⟩ = some (.slice a n c) := (cell_of_row _ _ 0 _ _ (0, 0) ((hb0.block _ hg1).trans hx1)).trans rfl
  have k2 : w0.cell? ⟨g2, 0, none⟩ = some (.int .i64 act) := (cell_of_row _ _ 0 _ _ (0, 0) ((hb0.block _ hg2).trans hx2)).trans rfl
  have e0 : w0.cell? ⟨w.heap.size, 0, none⟩ = some (.int .i64 r.base.g.kind) := (cell_of_row _ _ 0 _ 108 (0, 0) hx0).trans rfl
  have e1 : w0.cell? ⟨w.heap.size, 1, none⟩ = some (.string r.base.g.text) := (cell_of_row _ _ 1 _ 108 (0, 0) hx0).trans rfl
  have e2 : w0.cell? ⟨w.heap.size, 2, none⟩ = some (.int .i64 r.base.g.addr) := (cell_of_row _ _ 2 _ 108 (0, 0) hx0).trans rfl
  have e3 : w0.cell? ⟨w.heap.size, 3, none⟩ = some (.int .i64 r.base.g.bits) := (cell_of_row _ _ 3 _ 108 (0, 0) hx0).trans rfl
  have e4 : w0.cell? ⟨w.heap.size, 4, none⟩ = some (.slice ra rn rc) := (cell_of_row _ _ 4 _ 108 (0, 0) hx0).trans rfl
  have e5 : w0.cell? ⟨w.heap.size, 5, none⟩ = some (.int .i64 r.act) := (cell_of_row _ _ 5 _ 108 (0, 0) hx0).trans rfl
  have e6 : w0.cell? ⟨w.heap.size, 6, none⟩ = some (.bool r.yes) := (cell_of_row _ _ 6 _ 108 (0, 0) hx0).trans rfl
  have CO : Hid (Calls Tryz.prog 71 #[.agg #[.int .i64 r.base.g.kind, .string r.base.g.text, .int .i64 r.base.g.addr, .int .i64 r.base.g.bits, .slice ra rn rc, .int .i64 r.act, .bool r.yes], .slice a n c, .int .i64 act] w0 (SaysB (spkR xs n act r) w0)) := speaksOf_any r ra rn rc a n c xs act w0 (hm.kept hb0) (hq.kept hb0) hqz (h.kept hb0) hz
  have HB : Hid (Below w.heap.size w w0) := hb0
  clear hx0 hb0 hq h hm hz hx1 hx2
  go_enter Tryz.func70, Tryz.ntmps70
  go_upto_region 1 with fail
  rw [← hw0]
  clear hw0
  go_wp2_with fail
  refine CO.out.mono ?_
  rintro e w1 ⟨v, rfl, hv, hb1⟩
  have HV : Hid _ := hv
  have B1 : Hid (Below w.heap.size w w1) := HB.out.trans (hb1.mono HB.out.size)
  clear hv hb1 e0 e1 e2 e3 e4 e5 e6 k1 k2
  go_wp2
  go_ret
  exact ⟨v, rfl, HV, B1.out⟩

/-- The first place at which p holds, or -1. -/
def Frst (xs : List AR) (n : Nat) (p : AR → Prop) (r : Int) : Prop := (∃ k : Nat, r = k ∧ k < n ∧ p (xs.getD k default) ∧ ∀ j, j < k → ¬ p (xs.getD j default)) ∨ (r = -1 ∧ ∀ j, j < n → ¬ p (xs.getD j default))

set_option maxRecDepth 10000 in
set_option maxHeartbeats 2000000 in
theorem index_rule (p : AR → Prop) (g1 g2 : Nat) (a : Option Addr) (n c : Nat) (xs : List AR) (w : World) (h : ARs w a n xs) (hz : ∀ k, k < n → ARZ (xs.getD k default)) (hc : ∀ (W : World) (an : Option Addr) (nn cn : Nat) (y : AR), Below w.heap.size w W → Pts W an nn y.base.parts → (y.base.g.text.size ≤ 1048576 ∧ ∀ k, k < nn → (y.base.parts.getD k default).val.size ≤ 1048576) → Calls Tryz.prog 70 #[.agg #[.int .i64 y.base.g.kind, .string y.base.g.text, .int .i64 y.base.g.addr, .int .i64 y.base.g.bits, .slice an nn cn, .int .i64 y.act, .bool y.yes], .pointer (some ⟨g1, 0, none⟩), .pointer (some ⟨g2, 0, none⟩)] W (SaysB (p y) W)) :
    Calls Tryz.prog 69 #[.slice a n c, .func (Fn.func 70) #[] #[.pointer (some ⟨g1, 0, none⟩), .pointer (some ⟨g2, 0, none⟩)]] w fun e w' => ∃ r : Int, e = .returned (.int .i64 r) ∧ Hid (Frst xs n p r) ∧ Below w.heap.size w w' := by
  have H0 : Hid (ARs w a n xs) := h
  have HZ : Hid (∀ k, k < n → ARZ (xs.getD k default)) := hz
  have HCC : Hid (_) := hc
  have hn := h.max
  clear h hz hc
  go_enter Tryz.func69, Tryz.ntmps69
  go_wp2
  go_loopw [8] (fun i wr => ∃ k : Nat, k ≤ n ∧ i = .int .i64 k ∧ Hid (∀ j, j < k → ¬ p (xs.getD j default)) ∧ Below w.heap.size w wr) (fun i _ => n - (intOf i).toNat)
  case atStart => exact ⟨0, Nat.zero_le _, rfl, fun k hk => absurd hk (Nat.not_lt_zero _), Below.refl _ _⟩
  case round =>
    obtain ⟨k, hk, rfl, HN, hbr⟩ := hrel
    by_cases hkn : k < n
    case pos =>
      obtain ⟨b, off, ⟨an, nn, cn⟩, rfl, hlb, hcc, hp⟩ := H0.out.get k hkn
      have hgp := HZ.out k hkn
      obtain ⟨y, hy⟩ : ∃ y, y = xs.getD k default := ⟨_, rfl⟩
      rw [← hy] at hcc hp hgp
      have HY : Hid (y = xs.getD k default) := hy
      replace hcc := hcc.of (w' := wr) (fun i => hbr.cell (p := ⟨b, i, none⟩) hlb)
      have u0 : wr.cell? ⟨b, off + k * 7, none⟩ = some (.int .i64 y.base.g.kind) := hcc.c0
      have u1 : wr.cell? ⟨b, off + k * 7 + 1, none⟩ = some (.string y.base.g.text) := hcc.c1
      have u2 : wr.cell? ⟨b, off + k * 7 + 2, none⟩ = some (.int .i64 y.base.g.addr) := hcc.c2
      have u3 : wr.cell? ⟨b, off + k * 7 + 3, none⟩ = some (.int .i64 y.base.g.bits) := hcc.c3
      have u4 : wr.cell? ⟨b, off + k * 7 + 4, none⟩ = some (.slice an nn cn) := hcc.c4
      have u5 : wr.cell? ⟨b, off + k * 7 + 5, none⟩ = some (.int .i64 y.act) := hcc.c5
      have u6 : wr.cell? ⟨b, off + k * 7 + 6, none⟩ = some (.bool y.yes) := hcc.c6
      have HS : Hid (y.base.g.text.size ≤ 1048576 ∧ ∀ k, k < nn → (y.base.parts.getD k default).val.size ≤ 1048576) := by
        have h2 := hp.zn.1 hgp
        exact ⟨h2.1, h2.2.2⟩
      have HPW : Hid (∀ W, Below w.heap.size w W → Pts W an nn y.base.parts) := fun W hW => (hp.kept hW).r1
      have hkni : (k : Int) < (n : Int) := by omega
      clear hcc hy hp hgp
      go_wp2_with fail
      refine (HCC.out _ an nn cn y hbr (HPW.out _ hbr) HS.out).mono ?_
      rintro e w2 ⟨v, rfl, hv, hb2⟩
      have B2 : Below w.heap.size w w2 := hbr.trans (hb2.mono hbr.size)
      have HV : Hid _ := hv
      clear hb2 hv
      cases v with
      | true =>
        have HT : Hid (Frst xs n p k) := .inl ⟨k, rfl, hkn, by rw [← HY.out]; exact HV.out.1 rfl, HN.out⟩
        go_wp2
        go_ret
        exact ⟨_, rfl, HT, B2⟩
      | false =>
        have HN2 : Hid (∀ j, j < k + 1 → ¬ p (xs.getD j default)) := fun j hj => by
          by_cases e : j < k
          · exact HN.out j e
          · obtain rfl : j = k := by omega
            rw [← HY.out]; exact fun q => by have := HV.out.2 q; cases this
        go_wp2
        go_roundw
        case rel => exact ⟨k + 1, by omega, by go_num, HN2, B2⟩
        case measure => simp [intOf]; omega
    have hkn' : k = n := by omega
    subst hkn'
    have HT : Hid (Frst xs k p (-1)) := .inr ⟨rfl, HN.out⟩
    go_wp2
    go_ret
    exact ⟨_, rfl, HT, hbr⟩

end Go.Proofs.YtkpabanjlhlmfaaGreatDoor

set_option linter.unusedVariables false
namespace Go.Proofs.YtkpabanjlhlmfaaGreatDoor
open Go.RowKit

/-- The first rule that speaks of it allows it. -/
def alP (rules : List AR) (n : Nat) (act : Int) (x : CE) : Prop := ceP x ∧ n ≤ 20 ∧ 1 ≤ act ∧ (∀ k, k < n → baseP (rules.getD k default).base.g (rules.getD k default).base.parts) ∧ ∃ k, k < n ∧ spkR (allN x) (allN x).length act (rules.getD k default) ∧ (∀ j, j < k → ¬ spkR (allN x) (allN x).length act (rules.getD j default)) ∧ (rules.getD k default).yes = true

theorem isAction_any (a : Int) (w : World) : Calls Tryz.prog 68 #[.int .i64 a] w fun e w' => e = .returned (.bool (decide (1 ≤ a))) ∧ w = w' := by
  by_cases h : 1 ≤ a
  · have HD : Hid (decide (1 ≤ a) = true) := decide_eq_true h
    go_enter Tryz.func68, Tryz.ntmps68
    go_wp2
    go_ret
    exact ⟨by rw [HD.out]; rfl, rfl⟩
  · have HD : Hid (decide (1 ≤ a) = false) := decide_eq_false h
    go_enter Tryz.func68, Tryz.ntmps68
    go_wp2
    go_ret
    exact ⟨by first | (rw [HD.out]; rfl) | rfl, rfl⟩

set_option maxRecDepth 10000 in
set_option maxHeartbeats 4000000 in
theorem implAllowed_any (a : Option Addr) (n c : Nat) (rules : List AR) (s : CES) (x : CE) (act : Int) (w : World) (hm : MaxW w) (hr : ARs w a n rules) (hrz : ∀ k, k < n → ARZ (rules.getD k default)) (h : CER w s x) (hz : CEZ x) (ht : CET s) (hu : U64 x.key.2.1) :
    Calls Tryz.prog 19 #[.slice a n c, CEv s x, .int .i64 act] w (SaysB (alP rules n act x) w) := by
  have HM : Hid (∀ W, Below w.heap.size w W → MaxW W) := fun W hW => hm.kept hW
  have HCO : Hid (∀ W, Below w.heap.size w W → Calls Tryz.prog 9 #[.agg #[.int .i64 x.ser, .slice s.a1 s.n1 s.c1, .slice s.a2 s.n2 s.c2, .int .i64 x.frm, .int .i64 x.til, .int .i64 x.key.1, .int .u64 x.key.2.1, .int .i64 x.key.2.2, .bool x.ca, .int .i64 x.room, .int .i64 x.uses, .slice s.a3 s.n3 s.c3, .slice s.a4 s.n4 s.c4, .slice s.a5 s.n5 s.c5, .slice s.a6 s.n6 s.c6, .slice s.a7 s.n7 s.c7, .int .i64 x.need, .int .i64 x.nomap, .int .i64 x.noany, .slice s.a8 s.n8 s.c8, .slice s.a9 s.n9 s.c9]] W (Says (ceP x) W)) := fun W hW => implCertOk_any s x W (hm.kept hW) (h.kept hW) hz ht hu
  have HAN : Hid (∀ W, Below w.heap.size w W → Calls Tryz.prog 58 #[.agg #[.int .i64 x.ser, .slice s.a1 s.n1 s.c1, .slice s.a2 s.n2 s.c2, .int .i64 x.frm, .int .i64 x.til, .int .i64 x.key.1, .int .u64 x.key.2.1, .int .i64 x.key.2.2, .bool x.ca, .int .i64 x.room, .int .i64 x.uses, .slice s.a3 s.n3 s.c3, .slice s.a4 s.n4 s.c4, .slice s.a5 s.n5 s.c5, .slice s.a6 s.n6 s.c6, .slice s.a7 s.n7 s.c7, .int .i64 x.need, .int .i64 x.nomap, .int .i64 x.noany, .slice s.a8 s.n8 s.c8, .slice s.a9 s.n9 s.c9]] W fun e w' => ∃ a n c, e = .returned (.slice a n c) ∧ Ges w' a n (allN x) ∧ (∀ k, k < n → GeOk ((allN x).getD k default)) ∧ n ≤ 2097152 ∧ Below W.heap.size W w') := fun W hW => allNames_any s x W (h.kept hW) hz ht
  have HR : Hid (ARs w a n rules) := hr
  have HRZ : Hid (∀ k, k < n → ARZ (rules.getD k default)) := hrz
  have hmx := hr.max
  clear h hz ht hu hm hr hrz
  show Calls Tryz.prog 19 #[.slice a n c, .agg #[.int .i64 x.ser, .slice s.a1 s.n1 s.c1, .slice s.a2 s.n2 s.c2, .int .i64 x.frm, .int .i64 x.til, .int .i64 x.key.1, .int .u64 x.key.2.1, .int .i64 x.key.2.2, .bool x.ca, .int .i64 x.room, .int .i64 x.uses, .slice s.a3 s.n3 s.c3, .slice s.a4 s.n4 s.c4, .slice s.a5 s.n5 s.c5, .slice s.a6 s.n6 s.c6, .slice s.a7 s.n7 s.c7, .int .i64 x.need, .int .i64 x.nomap, .int .i64 x.noany, .slice s.a8 s.n8 s.c8, .slice s.a9 s.n9 s.c9], .int .i64 act] w _
  obtain ⟨w0, hw0⟩ : ∃ w0, w0 = (w.alloc (.cells #[.int .i64 x.ser, .slice s.a1 s.n1 s.c1, .slice s.a2 s.n2 s.c2, .int .i64 x.frm, .int .i64 x.til, .int .i64 x.key.1, .int .u64 x.key.2.1, .int .i64 x.key.2.2, .bool x.ca, .int .i64 x.room, .int .i64 x.uses, .slice s.a3 s.n3 s.c3, .slice s.a4 s.n4 s.c4, .slice s.a5 s.n5 s.c5, .slice s.a6 s.n6 s.c6, .slice s.a7 s.n7 s.c7, .int .i64 x.need, .int .i64 x.nomap, .int .i64 x.noany, .slice s.a8 s.n8 s.c8, .slice s.a9 s.n9 s.c9] 45)).alloc (.cells #[.int .i64 act] 2) := ⟨_, rfl⟩
  have B0 : Hid (Below w.heap.size w w0) := by show Below _ _ _; rw [hw0]; exact two_below _ _ _
  have b0 := two_blocks w (.cells #[.int .i64 x.ser, .slice s.a1 s.n1 s.c1, .slice s.a2 s.n2 s.c2, .int .i64 x.frm, .int .i64 x.til, .int .i64 x.key.1, .int .u64 x.key.2.1, .int .i64 x.key.2.2, .bool x.ca, .int .i64 x.room, .int .i64 x.uses, .slice s.a3 s.n3 s.c3, .slice s.a4 s.n4 s.c4, .slice s.a5 s.n5 s.c5, .slice s.a6 s.n6 s.c6, .slice s.a7 s.n7 s.c7, .int .i64 x.need, .int .i64 x.nomap, .int .i64 x.noany, .slice s.a8 s.n8 s.c8, .slice s.a9 s.n9 s.c9] 45) (.cells #[.int .i64 act] 2)
  rw [← hw0] at b0
  have Y0 : Hid (w0.heap[w.heap.size]? = some (.cells #[.int .i64 x.ser, .slice s.a1 s.n1 s.c1, .slice s.a2 s.n2 s.c2, .int .i64 x.frm, .int .i64 x.til, .int .i64 x.key.1, .int .u64 x.key.2.1, .int .i64 x.key.2.2, .bool x.ca, .int .i64 x.room, .int .i64 x.uses, .slice s.a3 s.n3 s.c3, .slice s.a4 s.n4 s.c4, .slice s.a5 s.n5 s.c5, .slice s.a6 s.n6 s.c6, .slice s.a7 s.n7 s.c7, .int .i64 x.need, .int .i64 x.nomap, .int .i64 x.noany, .slice s.a8 s.n8 s.c8, .slice s.a9 s.n9 s.c9] 45)) := b0.1
  have Z0 : Hid (w0.heap[w.heap.size + 1]? = some (.cells #[.int .i64 act] 2)) := b0.2
  clear b0
  go_enter Tryz.func19, Tryz.ntmps19
  go_upto_region 1 with fail
  rw [← hw0]
  clear hw0
  by_cases h20 : (20 : Int) < (n : Int)
  · have HN : Hid (¬ alP rules n act x) := fun q => by have := q.2.1; omega
    go_wp2
    go_ret
    exact saysB_f HN.out B0.out
  have hn20 : n ≤ 20 := by omega
  go_wp2_with fail
  refine (everyRule_any a n c rules _ (HM.out _ B0.out) (HR.out.kept B0.out) HRZ.out).mono ?_
  rintro e w1 ⟨v1, rfl, hv1, hb1⟩
  have B1 : Hid (Below w.heap.size w w1) := B0.out.trans (hb1.mono B0.out.size)
  have Z1 : Hid (w1.heap[w.heap.size + 1]? = some (.cells #[.int .i64 act] 2)) := (hb1.block _ (Array.getElem?_eq_some_iff.1 Z0.out).1).trans Z0.out
  have Y1 : Hid (w1.heap[w.heap.size]? = some (.cells #[.int .i64 x.ser, .slice s.a1 s.n1 s.c1, .slice s.a2 s.n2 s.c2, .int .i64 x.frm, .int .i64 x.til, .int .i64 x.key.1, .int .u64 x.key.2.1, .int .i64 x.key.2.2, .bool x.ca, .int .i64 x.room, .int .i64 x.uses, .slice s.a3 s.n3 s.c3, .slice s.a4 s.n4 s.c4, .slice s.a5 s.n5 s.c5, .slice s.a6 s.n6 s.c6, .slice s.a7 s.n7 s.c7, .int .i64 x.need, .int .i64 x.nomap, .int .i64 x.noany, .slice s.a8 s.n8 s.c8, .slice s.a9 s.n9 s.c9] 45)) := (hb1.block _ (Array.getElem?_eq_some_iff.1 Y0.out).1).trans Y0.out
  have HV1 : Hid _ := hv1
  clear hb1 hv1 B0 Z0 Y0
  rcases v1 with _ | _
  · have HN : Hid (¬ alP rules n act x) := fun q => by have := HV1.out.2 q.2.2.2.1; cases this
    go_wp2
    go_ret
    exact saysB_f HN.out B1.out
  have HBS : Hid (∀ k, k < n → baseP (rules.getD k default).base.g (rules.getD k default).base.parts) := HV1.out.1 rfl
  clear HV1
  have k1 : w1.cell? ⟨w.heap.size + 1, 0, none⟩ = some (.int .i64 act) := (cell_of_row _ _ 0 _ _ (0, 0) Z1.out).trans rfl
  go_wp2_with fail
  by_cases ha : 1 ≤ act
  case neg =>
    refine (isAction_any act _).mono ?_
    rintro e w9_ ⟨rfl, hw9⟩
    subst hw9
    rw [decide_eq_false ha]
    have HN : Hid (¬ alP rules n act x) := fun q => ha q.2.2.1
    clear ha
    go_wp2
    go_ret
    exact saysB_f HN.out B1.out
  refine (isAction_any act _).mono ?_
  rintro e w9_ ⟨rfl, hw9⟩
  subst hw9
  rw [decide_eq_true ha]
  have HA : Hid (1 ≤ act) := ha
  clear ha k1
  go_wp2_with (first | (refine wpList_take 13 false 22 rfl rfl rfl ?_; intro K hK; refine wp_load_row 45 _ rfl w.heap.size rfl 45 #[.int .i64 x.ser, .slice s.a1 s.n1 s.c1, .slice s.a2 s.n2 s.c2, .int .i64 x.frm, .int .i64 x.til, .int .i64 x.key.1, .int .u64 x.key.2.1, .int .i64 x.key.2.2, .bool x.ca, .int .i64 x.room, .int .i64 x.uses, .slice s.a3 s.n3 s.c3, .slice s.a4 s.n4 s.c4, .slice s.a5 s.n5 s.c5, .slice s.a6 s.n6 s.c6, .slice s.a7 s.n7 s.c7, .int .i64 x.need, .int .i64 x.nomap, .int .i64 x.noany, .slice s.a8 s.n8 s.c8, .slice s.a9 s.n9 s.c9] (0, 0) _ Y1.out Tryz.underlying45 rfl infoSizeC7 ?_; apply hK) | fail)
  refine (HCO.out _ B1.out).mono ?_
  rintro e w2 ⟨v2, rfl, hv2, hb2⟩
  have B2 : Hid (Below w.heap.size w w2) := B1.out.trans (hb2.mono B1.out.size)
  have Z2 : Hid (w2.heap[w.heap.size + 1]? = some (.cells #[.int .i64 act] 2)) := (hb2.block _ (Array.getElem?_eq_some_iff.1 Z1.out).1).trans Z1.out
  have Y2 : Hid (w2.heap[w.heap.size]? = some (.cells #[.int .i64 x.ser, .slice s.a1 s.n1 s.c1, .slice s.a2 s.n2 s.c2, .int .i64 x.frm, .int .i64 x.til, .int .i64 x.key.1, .int .u64 x.key.2.1, .int .i64 x.key.2.2, .bool x.ca, .int .i64 x.room, .int .i64 x.uses, .slice s.a3 s.n3 s.c3, .slice s.a4 s.n4 s.c4, .slice s.a5 s.n5 s.c5, .slice s.a6 s.n6 s.c6, .slice s.a7 s.n7 s.c7, .int .i64 x.need, .int .i64 x.nomap, .int .i64 x.noany, .slice s.a8 s.n8 s.c8, .slice s.a9 s.n9 s.c9] 45)) := (hb2.block _ (Array.getElem?_eq_some_iff.1 Y1.out).1).trans Y1.out
  have HV2 : Hid _ := hv2
  clear hb2 hv2 B1 Z1 Y1
  rcases v2 with _ | _
  · have HN : Hid (¬ alP rules n act x) := fun q => by have := HV2.out.2 q.1; cases this
    go_wp2
    go_ret
    exact saysB_f HN.out B2.out
  have HCE : Hid (ceP x) := HV2.out.1 rfl
  clear HV2
  go_wp2_with (first | (refine wpList_load_row rfl 45 _ rfl w.heap.size rfl 45 #[.int .i64 x.ser, .slice s.a1 s.n1 s.c1, .slice s.a2 s.n2 s.c2, .int .i64 x.frm, .int .i64 x.til, .int .i64 x.key.1, .int .u64 x.key.2.1, .int .i64 x.key.2.2, .bool x.ca, .int .i64 x.room, .int .i64 x.uses, .slice s.a3 s.n3 s.c3, .slice s.a4 s.n4 s.c4, .slice s.a5 s.n5 s.c5, .slice s.a6 s.n6 s.c6, .slice s.a7 s.n7 s.c7, .int .i64 x.need, .int .i64 x.nomap, .int .i64 x.noany, .slice s.a8 s.n8 s.c8, .slice s.a9 s.n9 s.c9] (0, 0) _ Y2.out Tryz.underlying45 rfl infoSizeC7 ?_) | fail)
  refine (HAN.out _ B2.out).mono ?_
  rintro e w3 ⟨an, nn, cn, rfl, hg3, hz3, hn3, hb3⟩
  have B3 : Hid (Below w.heap.size w w3) := B2.out.trans (hb3.mono B2.out.size)
  have Z3 : Hid (w3.heap[w.heap.size + 1]? = some (.cells #[.int .i64 act] 2)) := (hb3.block _ (Array.getElem?_eq_some_iff.1 Z2.out).1).trans Z2.out
  have Y3 : Hid (w3.heap[w.heap.size]? = some (.cells #[.int .i64 x.ser, .slice s.a1 s.n1 s.c1, .slice s.a2 s.n2 s.c2, .int .i64 x.frm, .int .i64 x.til, .int .i64 x.key.1, .int .u64 x.key.2.1, .int .i64 x.key.2.2, .bool x.ca, .int .i64 x.room, .int .i64 x.uses, .slice s.a3 s.n3 s.c3, .slice s.a4 s.n4 s.c4, .slice s.a5 s.n5 s.c5, .slice s.a6 s.n6 s.c6, .slice s.a7 s.n7 s.c7, .int .i64 x.need, .int .i64 x.nomap, .int .i64 x.noany, .slice s.a8 s.n8 s.c8, .slice s.a9 s.n9 s.c9] 45)) := (hb3.block _ (Array.getElem?_eq_some_iff.1 Y2.out).1).trans Y2.out
  obtain ⟨w4, hw4⟩ : ∃ w4, w4 = w3.alloc (.cells #[.slice an nn cn] 41) := ⟨_, rfl⟩
  have hb4 : Below w3.heap.size w3 w4 := by rw [hw4]; exact (Below.refl _ _).alloc (Nat.le_refl _) _
  have X4 : Hid (w4.heap[w3.heap.size]? = some (.cells #[.slice an nn cn] 41 (0, 0))) := by show _ = _; rw [hw4]; exact heap_alloc_new w3 _
  have B4 : Hid (Below w.heap.size w w4) := B3.out.trans (hb4.mono B3.out.size)
  have Z4 : Hid (w4.heap[w.heap.size + 1]? = some (.cells #[.int .i64 act] 2)) := (hb4.block _ (Array.getElem?_eq_some_iff.1 Z3.out).1).trans Z3.out
  have Y4 : Hid (w4.heap[w.heap.size]? = some (.cells #[.int .i64 x.ser, .slice s.a1 s.n1 s.c1, .slice s.a2 s.n2 s.c2, .int .i64 x.frm, .int .i64 x.til, .int .i64 x.key.1, .int .u64 x.key.2.1, .int .i64 x.key.2.2, .bool x.ca, .int .i64 x.room, .int .i64 x.uses, .slice s.a3 s.n3 s.c3, .slice s.a4 s.n4 s.c4, .slice s.a5 s.n5 s.c5, .slice s.a6 s.n6 s.c6, .slice s.a7 s.n7 s.c7, .int .i64 x.need, .int .i64 x.nomap, .int .i64 x.noany, .slice s.a8 s.n8 s.c8, .slice s.a9 s.n9 s.c9] 45)) := (hb4.block _ (Array.getElem?_eq_some_iff.1 Y3.out).1).trans Y3.out
  have HLN : Hid ((allN x).length = nn) := hg3.len
  have IX : Hid (Calls Tryz.prog 69 #[.slice a n c, .func (Fn.func 70) #[] #[.pointer (some ⟨w3.heap.size, 0, none⟩), .pointer (some ⟨w.heap.size + 1, 0, none⟩)]] w4 fun e w' => ∃ r : Int, e = .returned (.int .i64 r) ∧ Hid (Frst rules n (spkR (allN x) nn act) r) ∧ Below w4.heap.size w4 w') := index_rule (spkR (allN x) nn act) w3.heap.size (w.heap.size + 1) a n c rules w4 (HR.out.kept B4.out) HRZ.out (fun W bn mn dn y hW hy hyz => cl_allow_any y bn mn dn an nn cn (allN x) act w3.heap.size (w.heap.size + 1) W (HM.out _ (B4.out.trans (hW.mono B4.out.size))) ((hW.block _ (Array.getElem?_eq_some_iff.1 X4.out).1).trans X4.out) ((hW.block _ (Array.getElem?_eq_some_iff.1 Z4.out).1).trans Z4.out) hy hyz ((hg3.kept hb4).kept hW) hz3)
  have HW4 : Hid (_ = _) := hw4
  clear hw4 hb3 hb4 hg3 hz3 B2 Z2 Y2 B3 Z3 Y3
  go_upto_region 4 with fail
  rw [← HW4.out]
  clear HW4
  go_wp2_with fail
  refine IX.out.mono ?_
  rintro e w5 ⟨r, rfl, hfr, hb5⟩
  have B5 : Hid (Below w.heap.size w w5) := B4.out.trans (hb5.mono B4.out.size)
  clear hb5 IX
  rcases hfr.out with ⟨k, rfl, hkn, hp, hno⟩ | ⟨rfl, hno⟩
  · obtain ⟨b, off, ⟨ba, bn, bc⟩, rfl, hlb, hcc, hpp⟩ := HR.out.get k hkn
    obtain ⟨y, hy⟩ : ∃ y, y = rules.getD k default := ⟨_, rfl⟩
    rw [← hy] at hcc
    have u6 : w5.cell? ⟨b, off + k * 7 + 6, none⟩ = some (.bool y.yes) := (hcc.of (w' := w5) (fun i => B5.out.cell (p := ⟨b, i, none⟩) hlb)).c6
    have h0k : (0 : Int) ≤ (k : Int) := by omega
    have hkni : (k : Int) < (n : Int) := by omega
    have HIF : Hid (y.yes = true ↔ alP rules n act x) := by
      constructor
      · intro e
        exact ⟨HCE.out, hn20, HA.out, HBS.out, k, hkn, by rw [HLN.out]; exact hp, fun j hj => by rw [HLN.out]; exact hno j hj, by rw [← hy]; exact e⟩
      · intro q
        obtain ⟨j, hj, hs, hb, hyj⟩ := q.2.2.2.2
        rw [HLN.out] at hs hb
        have : j = k := by
          rcases Nat.lt_trichotomy j k with z | z | z
          · exact absurd hs (hno j z)
          · exact z
          · exact absurd hp (hb k z)
        rw [this, ← hy] at hyj
        exact hyj
    clear hcc hpp hy hp hno hfr
    go_wp2
    go_ret
    exact ⟨y.yes, rfl, HIF, B5.out⟩
  · have HN : Hid (¬ alP rules n act x) := fun q => by
      obtain ⟨j, hj, hs, _⟩ := q.2.2.2.2
      rw [HLN.out] at hs
      exact hno j hj hs
    clear hno hfr
    go_wp2
    go_ret
    exact saysB_f HN.out B5.out

end Go.Proofs.YtkpabanjlhlmfaaGreatDoor

set_option linter.unusedVariables false
namespace Go.Proofs.YtkpabanjlhlmfaaGreatDoor
open Go.RowKit

theorem some_split {x : CE} {p : GE → Prop} : (∃ k, k < (allN x).length ∧ p ((allN x).getD k default)) ↔ (∃ k, k < x.nms.length ∧ p (x.nms.getD k default)) ∨ (x.sub ≠ [] ∧ p (⟨⟨4, ⟨#[]⟩, 0, 0⟩, x.sub⟩ : GE)) := by
  have h := all_split (x := x) (p := fun y => ¬ p y)
  constructor
  · intro ⟨k, hk, hp⟩
    by_cases e : (∃ k, k < x.nms.length ∧ p (x.nms.getD k default)) ∨ (x.sub ≠ [] ∧ p (⟨⟨4, ⟨#[]⟩, 0, 0⟩, x.sub⟩ : GE))
    · exact e
    · exact absurd hp (h.2 ⟨fun j hj hq => e (.inl ⟨j, hj, hq⟩), fun hs hq => e (.inr ⟨hs, hq⟩)⟩ k hk)
  · intro q
    by_cases e : ∃ k, k < (allN x).length ∧ p ((allN x).getD k default)
    · exact e
    · have h2 := h.1 (fun k hk hp => e ⟨k, hk, hp⟩)
      rcases q with ⟨k, hk, hp⟩ | ⟨hs, hp⟩
      · exact absurd hp (h2.1 k hk)
      · exact absurd hp (h2.2 hs)

set_option maxRecDepth 10000 in
set_option maxHeartbeats 4000000 in
theorem named_any (s : CES) (x : CE) (q : GE) (qa : Option Addr) (qn qc : Nat) (w : World) (h : CER w s x) (hz : CEZ x) (hq : Pts w qa qn q.parts) (hqz : q.g.text.size ≤ 1048576 ∧ ∀ k, k < qn → (q.parts.getD k default).val.size ≤ 1048576) :
    Calls Tryz.prog 64 #[CEv s x, .agg #[.int .i64 q.g.kind, .string q.g.text, .int .i64 q.g.addr, .int .i64 q.g.bits, .slice qa qn qc]] w (SaysB (∃ k, k < (allN x).length ∧ wn ((allN x).getD k default) q) w) := by
  have HK : Hid (CER w s x) := h
  have HZN : Hid ((s.n1 ≤ 1048576 ∧ (∀ k, k < s.n1 → (x.iss.getD k default).val.size ≤ 1048576)) ∧ (s.n2 ≤ 1048576 ∧ (∀ k, k < s.n2 → (x.sub.getD k default).val.size ≤ 1048576)) ∧ (s.n3 ≤ 1048576 ∧ (∀ k, k < s.n3 → GeOk (x.nms.getD k default))) ∧ (s.n4 ≤ 1048576 ∧ (∀ k, k < s.n4 → GeOk (x.per.getD k default))) ∧ (s.n5 ≤ 1048576 ∧ (∀ k, k < s.n5 → GeOk (x.den.getD k default))) ∧ (s.n6 ≤ 1048576) ∧ (s.n7 ≤ 1048576) ∧ (s.n8 ≤ 1048576 ∧ (∀ k, k < s.n8 → XPZ (x.ext.getD k default))) ∧ (s.n9 ≤ 1048576)) := h.zn.1 hz
  have HL2 : Hid (x.sub.length = s.n2) := h.r2.len
  have HL3 : Hid (x.nms.length = s.n3) := h.r3.len
  have HQ : Hid (Pts w qa qn q.parts) := hq
  have HQZ : Hid (q.g.text.size ≤ 1048576 ∧ ∀ k, k < qn → (q.parts.getD k default).val.size ≤ 1048576) := hqz
  clear h hz hq hqz
  show Calls Tryz.prog 64 #[.agg #[.int .i64 x.ser, .slice s.a1 s.n1 s.c1, .slice s.a2 s.n2 s.c2, .int .i64 x.frm, .int .i64 x.til, .int .i64 x.key.1, .int .u64 x.key.2.1, .int .i64 x.key.2.2, .bool x.ca, .int .i64 x.room, .int .i64 x.uses, .slice s.a3 s.n3 s.c3, .slice s.a4 s.n4 s.c4, .slice s.a5 s.n5 s.c5, .slice s.a6 s.n6 s.c6, .slice s.a7 s.n7 s.c7, .int .i64 x.need, .int .i64 x.nomap, .int .i64 x.noany, .slice s.a8 s.n8 s.c8, .slice s.a9 s.n9 s.c9], .agg #[.int .i64 q.g.kind, .string q.g.text, .int .i64 q.g.addr, .int .i64 q.g.bits, .slice qa qn qc]] w _
  obtain ⟨w0, hw0⟩ : ∃ w0, w0 = (w.alloc (.cells #[.int .i64 x.ser, .slice s.a1 s.n1 s.c1, .slice s.a2 s.n2 s.c2, .int .i64 x.frm, .int .i64 x.til, .int .i64 x.key.1, .int .u64 x.key.2.1, .int .i64 x.key.2.2, .bool x.ca, .int .i64 x.room, .int .i64 x.uses, .slice s.a3 s.n3 s.c3, .slice s.a4 s.n4 s.c4, .slice s.a5 s.n5 s.c5, .slice s.a6 s.n6 s.c6, .slice s.a7 s.n7 s.c7, .int .i64 x.need, .int .i64 x.nomap, .int .i64 x.noany, .slice s.a8 s.n8 s.c8, .slice s.a9 s.n9 s.c9] 45)).alloc (.cells #[.int .i64 q.g.kind, .string q.g.text, .int .i64 q.g.addr, .int .i64 q.g.bits, .slice qa qn qc] 96) := ⟨_, rfl⟩
  have B0 : Hid (Below w.heap.size w w0) := by show Below _ _ _; rw [hw0]; exact two_below _ _ _
  have b0 := two_blocks w (.cells #[.int .i64 x.ser, .slice s.a1 s.n1 s.c1, .slice s.a2 s.n2 s.c2, .int .i64 x.frm, .int .i64 x.til, .int .i64 x.key.1, .int .u64 x.key.2.1, .int .i64 x.key.2.2, .bool x.ca, .int .i64 x.room, .int .i64 x.uses, .slice s.a3 s.n3 s.c3, .slice s.a4 s.n4 s.c4, .slice s.a5 s.n5 s.c5, .slice s.a6 s.n6 s.c6, .slice s.a7 s.n7 s.c7, .int .i64 x.need, .int .i64 x.nomap, .int .i64 x.noany, .slice s.a8 s.n8 s.c8, .slice s.a9 s.n9 s.c9] 45) (.cells #[.int .i64 q.g.kind, .string q.g.text, .int .i64 q.g.addr, .int .i64 q.g.bits, .slice qa qn qc] 96)
  rw [← hw0] at b0
  have Y0 : Hid (w0.heap[w.heap.size]? = some (.cells #[.int .i64 x.ser, .slice s.a1 s.n1 s.c1, .slice s.a2 s.n2 s.c2, .int .i64 x.frm, .int .i64 x.til, .int .i64 x.key.1, .int .u64 x.key.2.1, .int .i64 x.key.2.2, .bool x.ca, .int .i64 x.room, .int .i64 x.uses, .slice s.a3 s.n3 s.c3, .slice s.a4 s.n4 s.c4, .slice s.a5 s.n5 s.c5, .slice s.a6 s.n6 s.c6, .slice s.a7 s.n7 s.c7, .int .i64 x.need, .int .i64 x.nomap, .int .i64 x.noany, .slice s.a8 s.n8 s.c8, .slice s.a9 s.n9 s.c9] 45)) := b0.1
  have X0 : Hid (w0.heap[w.heap.size + 1]? = some (.cells #[.int .i64 q.g.kind, .string q.g.text, .int .i64 q.g.addr, .int .i64 q.g.bits, .slice qa qn qc] 96 (0, 0))) := b0.2
  clear b0
  go_enter Tryz.func64, Tryz.ntmps64
  go_upto_region 1 with fail
  rw [← hw0]
  clear hw0
  go_wp2
  go_loopw [5] (fun i wr => ∃ k : Nat, k ≤ s.n3 ∧ i = .int .i64 k ∧ Hid (∀ j, j < k → ¬ wn (x.nms.getD j default) q) ∧ Below w0.heap.size w0 wr) (fun i _ => s.n3 - (intOf i).toNat)
  case atStart => exact ⟨0, Nat.zero_le _, rfl, fun j hj => absurd hj (Nat.not_lt_zero _), Below.refl _ _⟩
  case round =>
    obtain ⟨k, hk, rfl, HN, hbr⟩ := hrel
    have Br : Hid (Below w.heap.size w wr) := B0.out.trans (hbr.mono B0.out.size)
    have Yr : Hid (wr.heap[w.heap.size]? = some (.cells #[.int .i64 x.ser, .slice s.a1 s.n1 s.c1, .slice s.a2 s.n2 s.c2, .int .i64 x.frm, .int .i64 x.til, .int .i64 x.key.1, .int .u64 x.key.2.1, .int .i64 x.key.2.2, .bool x.ca, .int .i64 x.room, .int .i64 x.uses, .slice s.a3 s.n3 s.c3, .slice s.a4 s.n4 s.c4, .slice s.a5 s.n5 s.c5, .slice s.a6 s.n6 s.c6, .slice s.a7 s.n7 s.c7, .int .i64 x.need, .int .i64 x.nomap, .int .i64 x.noany, .slice s.a8 s.n8 s.c8, .slice s.a9 s.n9 s.c9] 45)) := (hbr.block _ (Array.getElem?_eq_some_iff.1 Y0.out).1).trans Y0.out
    have Xr : Hid (wr.heap[w.heap.size + 1]? = some (.cells #[.int .i64 q.g.kind, .string q.g.text, .int .i64 q.g.addr, .int .i64 q.g.bits, .slice qa qn qc] 96 (0, 0))) := (hbr.block _ (Array.getElem?_eq_some_iff.1 X0.out).1).trans X0.out
    have hx3 : s.n3 ≤ 1048576 := HZN.out.2.2.1.1
    have hx2 : s.n2 ≤ 1048576 := HZN.out.2.1.1
    have d0 : wr.cell? ⟨w.heap.size + 1, 0, none⟩ = some (.int .i64 q.g.kind) := (cell_of_row _ _ 0 _ 96 (0, 0) Xr.out).trans rfl
    have d1 : wr.cell? ⟨w.heap.size + 1, 1, none⟩ = some (.string q.g.text) := (cell_of_row _ _ 1 _ 96 (0, 0) Xr.out).trans rfl
    have d2 : wr.cell? ⟨w.heap.size + 1, 2, none⟩ = some (.int .i64 q.g.addr) := (cell_of_row _ _ 2 _ 96 (0, 0) Xr.out).trans rfl
    have d3 : wr.cell? ⟨w.heap.size + 1, 3, none⟩ = some (.int .i64 q.g.bits) := (cell_of_row _ _ 3 _ 96 (0, 0) Xr.out).trans rfl
    have d4 : wr.cell? ⟨w.heap.size + 1, 4, none⟩ = some (.slice qa qn qc) := (cell_of_row _ _ 4 _ 96 (0, 0) Xr.out).trans rfl
    by_cases hkn : k < s.n3
    · obtain ⟨b, off, an, nn, cn, hae, hlb, hc, hp, _⟩ := HK.out.r3.get k hkn
      have hgp := HZN.out.2.2.1.2 k hkn
      obtain ⟨y, hy⟩ : ∃ y, y = x.nms.getD k default := ⟨_, rfl⟩
      rw [← hy] at hc hp hgp
      have HY : Hid (y = x.nms.getD k default) := hy
      obtain ⟨e0, e1, e2, e3, e4⟩ := hc.of (w' := wr) (fun i => Br.out.cell (p := ⟨b, i, none⟩) hlb)
      have p11 : wr.cell? ⟨w.heap.size, 11, none⟩ = some (.slice (some ⟨b, off, none⟩) s.n3 s.c3) := by rw [← hae]; exact (cell_of_row _ _ 11 _ 45 (0, 0) Yr.out).trans rfl
      have WI : Hid (Calls Tryz.prog 99 #[.agg #[.int .i64 y.g.kind, .string y.g.text, .int .i64 y.g.addr, .int .i64 y.g.bits, .slice an nn cn], .agg #[.int .i64 q.g.kind, .string q.g.text, .int .i64 q.g.addr, .int .i64 q.g.bits, .slice qa qn qc]] wr.drew (SaysB (wn y q) wr.drew)) := specWithin_any y.g an nn cn y.parts q.g qa qn qc q.parts wr.drew (hp.kept Br.out.drew) (by rw [← hp.len]; exact hgp.2.2) hgp.1 (HQ.out.kept Br.out.drew) HQZ.out.2 HQZ.out.1
      have hkni : (k : Int) < (s.n3 : Int) := by omega
      have hs := hbr.size
      clear hc hy hp hgp hae
      go_wp2_with fail
      go_region_with (go_at_call 99; refine WI.out.mono ?_; rintro e w2 ⟨v, rfl, hv, hb2⟩)
      all_goals
        have b2 : Below w0.heap.size w0 w2 := hbr.drew.trans (hb2.mono hs)
        have B2 : Hid (Below w.heap.size w w2) := B0.out.trans (b2.mono B0.out.size)
        have HV : Hid _ := hv
        clear hb2 hv e0 e1 e2 e3 e4 d0 d1 d2 d3 d4 p11
        cases v with
        | true =>
          have HT : Hid (∃ k, k < (allN x).length ∧ wn ((allN x).getD k default) q) := (some_split (x := x) (p := fun y => wn y q)).2 (.inl ⟨k, by rw [HL3.out]; exact hkn, by rw [← HY.out]; exact HV.out.1 rfl⟩)
          go_wp2
          go_ret
          exact saysB_t HT.out B2.out
        | false =>
          have HN2 : Hid (∀ j, j < k + 1 → ¬ wn (x.nms.getD j default) q) := fun j hj => by
            by_cases e : j < k
            · exact HN.out j e
            · obtain rfl : j = k := by omega
              rw [← HY.out]; exact fun z => by have := HV.out.2 z; cases this
          go_wp2
          go_roundw
          case rel => exact ⟨k + 1, by omega, by go_num, HN2, b2⟩
          case measure => simp [intOf]; omega
    have hki : ¬ ((k : Int) < (s.n3 : Int)) := by omega
    have HNM : Hid (¬ ∃ j, j < x.nms.length ∧ wn (x.nms.getD j default) q) := fun ⟨j, hj, hw⟩ => HN.out j (by rw [HL3.out] at hj; omega) hw
    have p11 : wr.cell? ⟨w.heap.size, 11, none⟩ = some (.slice s.a3 s.n3 s.c3) := (cell_of_row _ _ 11 _ 45 (0, 0) Yr.out).trans rfl
    have p2 : wr.cell? ⟨w.heap.size, 2, none⟩ = some (.slice s.a2 s.n2 s.c2) := (cell_of_row _ _ 2 _ 45 (0, 0) Yr.out).trans rfl
    clear HN hkn
    by_cases h0 : s.n2 = 0
    · have he : ¬ ((0 : Int) < (s.n2 : Int)) := by omega
      have HF : Hid (¬ ∃ k, k < (allN x).length ∧ wn ((allN x).getD k default) q) := fun z => by
        rcases (some_split (x := x) (p := fun y => wn y q)).1 z with z | z
        · exact HNM.out z
        · exact z.1 (List.eq_nil_of_length_eq_zero (by rw [HL2.out]; exact h0))
      clear h0
      go_wp2
      go_ret
      exact saysB_f HF.out Br.out
    · have he : (0 : Int) < (s.n2 : Int) := by omega
      have HSN : Hid (x.sub ≠ []) := fun z => h0 (by rw [← HL2.out, z]; rfl)
      clear h0
      have WI : Hid (Calls Tryz.prog 99 #[.agg #[.int .i64 4, .string ⟨#[]⟩, .int .i64 0, .int .i64 0, .slice s.a2 s.n2 s.c2], .agg #[.int .i64 q.g.kind, .string q.g.text, .int .i64 q.g.addr, .int .i64 q.g.bits, .slice qa qn qc]] wr (SaysB (wn (⟨⟨4, ⟨#[]⟩, 0, 0⟩, x.sub⟩ : GE) q) wr)) := specWithin_any ⟨4, ⟨#[]⟩, 0, 0⟩ s.a2 s.n2 s.c2 x.sub q.g qa qn qc q.parts wr (HK.out.kept Br.out).r2 HZN.out.2.1.2 (by show ByteArray.size ⟨#[]⟩ ≤ 1048576; decide) (HQ.out.kept Br.out) HQZ.out.2 HQZ.out.1
      go_wp2_with fail
      refine WI.out.mono ?_
      rintro e w2 ⟨v, rfl, hv, hb2⟩
      have B2 : Hid (Below w.heap.size w w2) := Br.out.trans (hb2.mono Br.out.size)
      have HV : Hid (v = true ↔ ∃ k, k < (allN x).length ∧ wn ((allN x).getD k default) q) := ⟨fun e => (some_split (x := x) (p := fun y => wn y q)).2 (.inr ⟨HSN.out, hv.out.1 e⟩), fun z => hv.out.2 (((some_split (x := x) (p := fun y => wn y q)).1 z).resolve_left HNM.out).2⟩
      clear hv hb2 p2 p11 d0 d1 d2 d3 d4 WI
      go_wp2
      go_ret
      exact ⟨v, rfl, HV, B2.out⟩

end Go.Proofs.YtkpabanjlhlmfaaGreatDoor

set_option linter.unusedVariables false
namespace Go.Proofs.YtkpabanjlhlmfaaGreatDoor
open Go.RowKit

theorem opw_indexR {P : Program} {Q : Exit → Act → World → Prop} {o : Oper} {a : Act} {w : World} {K : Act → World → Prop} (t : TypeId) (x y : Nat) (ho : o.op = .indexAddr t (.tmp x) (.tmp y)) (p q : Value) (hx : aT a x = p) (hy : aT a y = q) (v : Value) (hr : (Instr.indexAt t p q).run P w = .ok v w) (h : K (a.put o.dst v) w) : o.wp P a w K Q := by
  refine opw_value v ?_ h
  have hx' : a.eval (.tmp x) = p := hx
  have hy' : a.eval (.tmp y) = q := hy
  unfold execOp
  simp [ho, hx', hy', hr]
theorem indexRu (bq oq n c kq : Nat) (W : World) (h : kq < n) : (Instr.indexAt 57 (.slice (some ⟨bq, oq, none⟩) n c) (.int .i64 (kq : Int))).run Tryz.prog W = .ok (.pointer (some ⟨bq, oq + kq * 7, none⟩)) W := by
  refine (run_indexAt_slice (P := Tryz.prog) (w := W) 57 ⟨bq, oq, none⟩ n c .i64 (kq : Int) (by kernel_rfl)).trans ?_
  rw [if_pos ⟨by omega, by omega⟩]
  have hs : (sizeOf (Tryz.prog.elem 57)).run Tryz.prog W = .ok 7 W := by kernel_rfl
  rw [hs]
  simp [Result.andThen, Addr.add_lit]
theorem opw_eqlc {P : Program} {Q : Exit → Act → World → Prop} {o : Oper} {a : Act} {w : World} {K : Act → World → Prop} (t t2 x : Nat) (q : Int) (ho : o.op = .binOp .eql t (.tmp x) (.const (.int .i64 q)) t2) (p : Int) (hx : aT a x = .int .i64 p) (c : Bool) (hc : (p == q) = c) (h : K (a.put o.dst (.bool c)) w) : o.wp P a w K Q := by
  refine opw_value (.bool c) ?_ h
  have hx' : a.eval (.tmp x) = .int .i64 p := hx
  have hy' : a.eval (.const (.int .i64 q)) = .int .i64 q := rfl
  unfold execOp
  subst hc
  simp only [ho, hx', hy']
  simp [go_sem]

/-- What is known of a region (RJ). -/
def sa1 (b0 off n c kq : Nat) (an : Option Addr) (nn cn : Nat) (y : AR) (s : CES) (x : CE) (act : Int) (G B : Nat) : RSpec where
  m := 24
  n := 25
  slots := [40, 41, 42, 43, 44, 45, 46, 47, 48, 49, 50, 51, 52, 53, 54, 55, 56, 57, 58, 59, 60, 61, 62, 63, 100024]
  kills := [[], [], [], [], [], [], [], [], [], [], [], [], [], [], [], [], [], [], [], [], [], [], [], [], []]
  pres := [[], [], [], [], [], [], [], [], [], [], [], [], [], [], [], [], [], [], [], [], [], [], [], [], []]
  fact := fun k v w => match k with
    | 0 => v = .slice (some ⟨b0, off, none⟩) n c
    | 1 => v = .int .i64 (kq : Int)
    | 2 => v = .pointer (some ⟨b0, off + kq * 7, none⟩)
    | 3 => v = .pointer (some ⟨b0, off + kq * 7 + 5, none⟩)
    | 4 => v = .int .i64 y.act
    | 5 => v = .bool true
    | 6 => v = .bool true
    | 7 => v = undef
    | 8 => v = undef
    | 9 => v = undef
    | 10 => v = undef
    | 11 => v = undef
    | 12 => v = undef
    | 13 => v = undef
    | 14 => v = .bool true
    | 15 => v = .bool true
    | 16 => v = .agg #[.int .i64 x.ser, .slice s.a1 s.n1 s.c1, .slice s.a2 s.n2 s.c2, .int .i64 x.frm, .int .i64 x.til, .int .i64 x.key.1, .int .u64 x.key.2.1, .int .i64 x.key.2.2, .bool x.ca, .int .i64 x.room, .int .i64 x.uses, .slice s.a3 s.n3 s.c3, .slice s.a4 s.n4 s.c4, .slice s.a5 s.n5 s.c5, .slice s.a6 s.n6 s.c6, .slice s.a7 s.n7 s.c7, .int .i64 x.need, .int .i64 x.nomap, .int .i64 x.noany, .slice s.a8 s.n8 s.c8, .slice s.a9 s.n9 s.c9]
    | 17 => v = .slice (some ⟨b0, off, none⟩) n c
    | 18 => v = .int .i64 (kq : Int)
    | 19 => v = .pointer (some ⟨b0, off + kq * 7, none⟩)
    | 20 => v = .pointer (some ⟨b0, off + kq * 7, none⟩)
    | 21 => v = .agg #[.int .i64 y.base.g.kind, .string y.base.g.text, .int .i64 y.base.g.addr, .int .i64 y.base.g.bits, .slice an nn cn]
    | 22 => ∃ (vb : Bool), v = .bool vb ∧ (vb = true ↔ ∃ k, k < (allN x).length ∧ wn ((allN x).getD k default) y.base)
    | 23 => ∃ (vb : Bool), v = .bool vb ∧ (vb = true ↔ ∃ k, k < (allN x).length ∧ wn ((allN x).getD k default) y.base)
    | _ => w.heap[G]? = some (.cells #[.int .i64 x.ser, .slice s.a1 s.n1 s.c1, .slice s.a2 s.n2 s.c2, .int .i64 x.frm, .int .i64 x.til, .int .i64 x.key.1, .int .u64 x.key.2.1, .int .i64 x.key.2.2, .bool x.ca, .int .i64 x.room, .int .i64 x.uses, .slice s.a3 s.n3 s.c3, .slice s.a4 s.n4 s.c4, .slice s.a5 s.n5 s.c5, .slice s.a6 s.n6 s.c6, .slice s.a7 s.n7 s.c7, .int .i64 x.need, .int .i64 x.nomap, .int .i64 x.noany, .slice s.a8 s.n8 s.c8, .slice s.a9 s.n9 s.c9] 45 (0, 0))
set_option linter.unusedVariables false in
theorem sa1_stb (b0 off n c kq : Nat) (an : Option Addr) (nn cn : Nat) (y : AR) (s : CES) (x : CE) (act : Int) (G B : Nat) (k : Nat) (hk : k < 25) : StB ((sa1 b0 off n c kq an nn cn y s x act G (B)).fact k) := by
  match k, hk with
  | 0, _ => exact fun _ _ _ h _ => h
  | 1, _ => exact fun _ _ _ h _ => h
  | 2, _ => exact fun _ _ _ h _ => h
  | 3, _ => exact fun _ _ _ h _ => h
  | 4, _ => exact fun _ _ _ h _ => h
  | 5, _ => exact fun _ _ _ h _ => h
  | 6, _ => exact fun _ _ _ h _ => h
  | 7, _ => exact fun _ _ _ h _ => h
  | 8, _ => exact fun _ _ _ h _ => h
  | 9, _ => exact fun _ _ _ h _ => h
  | 10, _ => exact fun _ _ _ h _ => h
  | 11, _ => exact fun _ _ _ h _ => h
  | 12, _ => exact fun _ _ _ h _ => h
  | 13, _ => exact fun _ _ _ h _ => h
  | 14, _ => exact fun _ _ _ h _ => h
  | 15, _ => exact fun _ _ _ h _ => h
  | 16, _ => exact fun _ _ _ h _ => h
  | 17, _ => exact fun _ _ _ h _ => h
  | 18, _ => exact fun _ _ _ h _ => h
  | 19, _ => exact fun _ _ _ h _ => h
  | 20, _ => exact fun _ _ _ h _ => h
  | 21, _ => exact fun _ _ _ h _ => h
  | 22, _ => exact fun _ _ _ ⟨vb, hv, q_0⟩ hb => ⟨vb, hv, q_0⟩
  | 23, _ => exact fun _ _ _ ⟨vb, hv, q_0⟩ hb => ⟨vb, hv, q_0⟩
  | 24, _ => exact fun _ _ _ q_0 hb => below_kept q_0 hb
  | k + 25, hk => omega

/-- What is known of a region (RJ). -/
def sa2 (b0 off n c kq : Nat) (an : Option Addr) (nn cn : Nat) (y : AR) (s : CES) (x : CE) (act : Int) (G B : Nat) : RSpec where
  m := 24
  n := 25
  slots := [40, 41, 42, 43, 44, 45, 46, 47, 48, 49, 50, 51, 52, 53, 54, 55, 56, 57, 58, 59, 60, 61, 62, 63, 100024]
  kills := [[], [], [], [], [], [], [], [], [], [], [], [], [], [], [], [], [], [], [], [], [], [], [], [], []]
  pres := [[], [], [], [], [], [], [], [], [], [], [], [], [], [], [], [], [], [], [], [], [], [], [], [], []]
  fact := fun k v w => match k with
    | 0 => v = .slice (some ⟨b0, off, none⟩) n c
    | 1 => v = .int .i64 (kq : Int)
    | 2 => v = .pointer (some ⟨b0, off + kq * 7, none⟩)
    | 3 => v = .pointer (some ⟨b0, off + kq * 7 + 5, none⟩)
    | 4 => v = .int .i64 y.act
    | 5 => v = .bool false
    | 6 => v = .bool false
    | 7 => v = .slice (some ⟨b0, off, none⟩) n c
    | 8 => v = .int .i64 (kq : Int)
    | 9 => v = .pointer (some ⟨b0, off + kq * 7, none⟩)
    | 10 => v = .pointer (some ⟨b0, off + kq * 7 + 5, none⟩)
    | 11 => v = .int .i64 y.act
    | 12 => v = .int .i64 act
    | 13 => v = .bool true
    | 14 => v = .bool true
    | 15 => v = .bool true
    | 16 => v = .agg #[.int .i64 x.ser, .slice s.a1 s.n1 s.c1, .slice s.a2 s.n2 s.c2, .int .i64 x.frm, .int .i64 x.til, .int .i64 x.key.1, .int .u64 x.key.2.1, .int .i64 x.key.2.2, .bool x.ca, .int .i64 x.room, .int .i64 x.uses, .slice s.a3 s.n3 s.c3, .slice s.a4 s.n4 s.c4, .slice s.a5 s.n5 s.c5, .slice s.a6 s.n6 s.c6, .slice s.a7 s.n7 s.c7, .int .i64 x.need, .int .i64 x.nomap, .int .i64 x.noany, .slice s.a8 s.n8 s.c8, .slice s.a9 s.n9 s.c9]
    | 17 => v = .slice (some ⟨b0, off, none⟩) n c
    | 18 => v = .int .i64 (kq : Int)
    | 19 => v = .pointer (some ⟨b0, off + kq * 7, none⟩)
    | 20 => v = .pointer (some ⟨b0, off + kq * 7, none⟩)
    | 21 => v = .agg #[.int .i64 y.base.g.kind, .string y.base.g.text, .int .i64 y.base.g.addr, .int .i64 y.base.g.bits, .slice an nn cn]
    | 22 => ∃ (vb : Bool), v = .bool vb ∧ (vb = true ↔ ∃ k, k < (allN x).length ∧ wn ((allN x).getD k default) y.base)
    | 23 => ∃ (vb : Bool), v = .bool vb ∧ (vb = true ↔ ∃ k, k < (allN x).length ∧ wn ((allN x).getD k default) y.base)
    | _ => w.heap[G]? = some (.cells #[.int .i64 x.ser, .slice s.a1 s.n1 s.c1, .slice s.a2 s.n2 s.c2, .int .i64 x.frm, .int .i64 x.til, .int .i64 x.key.1, .int .u64 x.key.2.1, .int .i64 x.key.2.2, .bool x.ca, .int .i64 x.room, .int .i64 x.uses, .slice s.a3 s.n3 s.c3, .slice s.a4 s.n4 s.c4, .slice s.a5 s.n5 s.c5, .slice s.a6 s.n6 s.c6, .slice s.a7 s.n7 s.c7, .int .i64 x.need, .int .i64 x.nomap, .int .i64 x.noany, .slice s.a8 s.n8 s.c8, .slice s.a9 s.n9 s.c9] 45 (0, 0))
set_option linter.unusedVariables false in
theorem sa2_stb (b0 off n c kq : Nat) (an : Option Addr) (nn cn : Nat) (y : AR) (s : CES) (x : CE) (act : Int) (G B : Nat) (k : Nat) (hk : k < 25) : StB ((sa2 b0 off n c kq an nn cn y s x act G (B)).fact k) := by
  match k, hk with
  | 0, _ => exact fun _ _ _ h _ => h
  | 1, _ => exact fun _ _ _ h _ => h
  | 2, _ => exact fun _ _ _ h _ => h
  | 3, _ => exact fun _ _ _ h _ => h
  | 4, _ => exact fun _ _ _ h _ => h
  | 5, _ => exact fun _ _ _ h _ => h
  | 6, _ => exact fun _ _ _ h _ => h
  | 7, _ => exact fun _ _ _ h _ => h
  | 8, _ => exact fun _ _ _ h _ => h
  | 9, _ => exact fun _ _ _ h _ => h
  | 10, _ => exact fun _ _ _ h _ => h
  | 11, _ => exact fun _ _ _ h _ => h
  | 12, _ => exact fun _ _ _ h _ => h
  | 13, _ => exact fun _ _ _ h _ => h
  | 14, _ => exact fun _ _ _ h _ => h
  | 15, _ => exact fun _ _ _ h _ => h
  | 16, _ => exact fun _ _ _ h _ => h
  | 17, _ => exact fun _ _ _ h _ => h
  | 18, _ => exact fun _ _ _ h _ => h
  | 19, _ => exact fun _ _ _ h _ => h
  | 20, _ => exact fun _ _ _ h _ => h
  | 21, _ => exact fun _ _ _ h _ => h
  | 22, _ => exact fun _ _ _ ⟨vb, hv, q_0⟩ hb => ⟨vb, hv, q_0⟩
  | 23, _ => exact fun _ _ _ ⟨vb, hv, q_0⟩ hb => ⟨vb, hv, q_0⟩
  | 24, _ => exact fun _ _ _ q_0 hb => below_kept q_0 hb
  | k + 25, hk => omega

set_option maxRecDepth 10000 in
set_option maxHeartbeats 4000000 in
theorem specAllowed_any (a : Option Addr) (n c : Nat) (rules : List AR) (s : CES) (x : CE) (act : Int) (w : World) (hr : ARs w a n rules) (hrz : ∀ k, k < n → ARZ (rules.getD k default)) (h : CER w s x) (hz : CEZ x) (ht : CET s) (hu : U64 x.key.2.1) :
    Calls Tryz.prog 17 #[.slice a n c, CEv s x, .int .i64 act] w (SaysB (alP rules n act x) w) := by
  have HK : Hid (CER w s x) := h
  have HZ : Hid (CEZ x) := hz
  have HCO : Hid (∀ W, Below w.heap.size w W → Calls Tryz.prog 7 #[.agg #[.int .i64 x.ser, .slice s.a1 s.n1 s.c1, .slice s.a2 s.n2 s.c2, .int .i64 x.frm, .int .i64 x.til, .int .i64 x.key.1, .int .u64 x.key.2.1, .int .i64 x.key.2.2, .bool x.ca, .int .i64 x.room, .int .i64 x.uses, .slice s.a3 s.n3 s.c3, .slice s.a4 s.n4 s.c4, .slice s.a5 s.n5 s.c5, .slice s.a6 s.n6 s.c6, .slice s.a7 s.n7 s.c7, .int .i64 x.need, .int .i64 x.nomap, .int .i64 x.noany, .slice s.a8 s.n8 s.c8, .slice s.a9 s.n9 s.c9]] W (Says (ceP x) W)) := fun W hW => specCertOk_any s x W (h.kept hW) hz ht hu
  have HR : Hid (ARs w a n rules) := hr
  have HRZ : Hid (∀ k, k < n → ARZ (rules.getD k default)) := hrz
  have hmx := hr.max
  clear h hz ht hu hr hrz
  show Calls Tryz.prog 17 #[.slice a n c, .agg #[.int .i64 x.ser, .slice s.a1 s.n1 s.c1, .slice s.a2 s.n2 s.c2, .int .i64 x.frm, .int .i64 x.til, .int .i64 x.key.1, .int .u64 x.key.2.1, .int .i64 x.key.2.2, .bool x.ca, .int .i64 x.room, .int .i64 x.uses, .slice s.a3 s.n3 s.c3, .slice s.a4 s.n4 s.c4, .slice s.a5 s.n5 s.c5, .slice s.a6 s.n6 s.c6, .slice s.a7 s.n7 s.c7, .int .i64 x.need, .int .i64 x.nomap, .int .i64 x.noany, .slice s.a8 s.n8 s.c8, .slice s.a9 s.n9 s.c9], .int .i64 act] w _
  obtain ⟨w0, hw0⟩ : ∃ w0, w0 = w.alloc (.cells #[.int .i64 x.ser, .slice s.a1 s.n1 s.c1, .slice s.a2 s.n2 s.c2, .int .i64 x.frm, .int .i64 x.til, .int .i64 x.key.1, .int .u64 x.key.2.1, .int .i64 x.key.2.2, .bool x.ca, .int .i64 x.room, .int .i64 x.uses, .slice s.a3 s.n3 s.c3, .slice s.a4 s.n4 s.c4, .slice s.a5 s.n5 s.c5, .slice s.a6 s.n6 s.c6, .slice s.a7 s.n7 s.c7, .int .i64 x.need, .int .i64 x.nomap, .int .i64 x.noany, .slice s.a8 s.n8 s.c8, .slice s.a9 s.n9 s.c9] 45) := ⟨_, rfl⟩
  have B0 : Hid (Below w.heap.size w w0) := by show Below _ _ _; rw [hw0]; exact (Below.refl _ _).alloc (Nat.le_refl _) _
  have Y0 : Hid (w0.heap[w.heap.size]? = some (.cells #[.int .i64 x.ser, .slice s.a1 s.n1 s.c1, .slice s.a2 s.n2 s.c2, .int .i64 x.frm, .int .i64 x.til, .int .i64 x.key.1, .int .u64 x.key.2.1, .int .i64 x.key.2.2, .bool x.ca, .int .i64 x.room, .int .i64 x.uses, .slice s.a3 s.n3 s.c3, .slice s.a4 s.n4 s.c4, .slice s.a5 s.n5 s.c5, .slice s.a6 s.n6 s.c6, .slice s.a7 s.n7 s.c7, .int .i64 x.need, .int .i64 x.nomap, .int .i64 x.noany, .slice s.a8 s.n8 s.c8, .slice s.a9 s.n9 s.c9] 45)) := by show _ = _; rw [hw0]; exact heap_alloc_new w _
  go_enter Tryz.func17, Tryz.ntmps17
  go_upto_region 1 with fail
  rw [← hw0]
  clear hw0
  by_cases h20 : (20 : Int) < (n : Int)
  · have HN : Hid (¬ alP rules n act x) := fun q => by have := q.2.1; omega
    go_wp2
    go_ret
    exact saysB_f HN.out B0.out
  have hn20 : n ≤ 20 := by omega
  by_cases ha : act < 1
  · have HN : Hid (¬ alP rules n act x) := fun q => by have := q.2.2.1; omega
    go_wp2
    go_ret
    exact saysB_f HN.out B0.out
  have HA1 : Hid (1 ≤ act) := by show 1 ≤ act; omega
  go_wp2_with (first | (refine wpList_take 7 false 16 rfl rfl rfl ?_; intro K hK; refine wp_load_row 45 _ rfl w.heap.size rfl 45 #[.int .i64 x.ser, .slice s.a1 s.n1 s.c1, .slice s.a2 s.n2 s.c2, .int .i64 x.frm, .int .i64 x.til, .int .i64 x.key.1, .int .u64 x.key.2.1, .int .i64 x.key.2.2, .bool x.ca, .int .i64 x.room, .int .i64 x.uses, .slice s.a3 s.n3 s.c3, .slice s.a4 s.n4 s.c4, .slice s.a5 s.n5 s.c5, .slice s.a6 s.n6 s.c6, .slice s.a7 s.n7 s.c7, .int .i64 x.need, .int .i64 x.nomap, .int .i64 x.noany, .slice s.a8 s.n8 s.c8, .slice s.a9 s.n9 s.c9] (0, 0) _ Y0.out Tryz.underlying45 rfl infoSizeC7 ?_; apply hK) | fail)
  refine (HCO.out _ B0.out).mono ?_
  rintro e w1 ⟨v1, rfl, hv1, hb1⟩
  have B1 : Hid (Below w.heap.size w w1) := B0.out.trans (hb1.mono B0.out.size)
  have Y1 : Hid (w1.heap[w.heap.size]? = some (.cells #[.int .i64 x.ser, .slice s.a1 s.n1 s.c1, .slice s.a2 s.n2 s.c2, .int .i64 x.frm, .int .i64 x.til, .int .i64 x.key.1, .int .u64 x.key.2.1, .int .i64 x.key.2.2, .bool x.ca, .int .i64 x.room, .int .i64 x.uses, .slice s.a3 s.n3 s.c3, .slice s.a4 s.n4 s.c4, .slice s.a5 s.n5 s.c5, .slice s.a6 s.n6 s.c6, .slice s.a7 s.n7 s.c7, .int .i64 x.need, .int .i64 x.nomap, .int .i64 x.noany, .slice s.a8 s.n8 s.c8, .slice s.a9 s.n9 s.c9] 45)) := (hb1.block _ (Array.getElem?_eq_some_iff.1 Y0.out).1).trans Y0.out
  have HV1 : Hid _ := hv1
  clear hb1 hv1 B0 Y0
  rcases v1 with _ | _
  · have HN : Hid (¬ alP rules n act x) := fun q => by have := HV1.out.2 q.1; cases this
    go_wp2
    go_ret
    exact saysB_f HN.out B1.out
  have HCE : Hid (ceP x) := HV1.out.1 rfl
  clear HV1 HCO
  go_wp2
  clear ha h20
  go_loopw [7] (fun i wr => ∃ k : Nat, k ≤ n ∧ i = .int .i64 k ∧ Hid (∀ j, j < k → baseP (rules.getD j default).base.g (rules.getD j default).base.parts) ∧ Below w1.heap.size w1 wr) (fun i _ => n - (intOf i).toNat)
  case atStart => exact ⟨0, Nat.zero_le _, rfl, fun k hk => absurd hk (Nat.not_lt_zero _), Below.refl _ _⟩
  case round =>
    obtain ⟨wq, hwq⟩ : ∃ wq, wq = wr := ⟨_, rfl⟩
    subst hwq
    obtain ⟨k, hk, rfl, HE, hbr⟩ := hrel
    have Bq : Hid (Below w.heap.size w wq) := B1.out.trans (hbr.mono B1.out.size)
    have Yq : Hid (wq.heap[w.heap.size]? = some (.cells #[.int .i64 x.ser, .slice s.a1 s.n1 s.c1, .slice s.a2 s.n2 s.c2, .int .i64 x.frm, .int .i64 x.til, .int .i64 x.key.1, .int .u64 x.key.2.1, .int .i64 x.key.2.2, .bool x.ca, .int .i64 x.room, .int .i64 x.uses, .slice s.a3 s.n3 s.c3, .slice s.a4 s.n4 s.c4, .slice s.a5 s.n5 s.c5, .slice s.a6 s.n6 s.c6, .slice s.a7 s.n7 s.c7, .int .i64 x.need, .int .i64 x.nomap, .int .i64 x.noany, .slice s.a8 s.n8 s.c8, .slice s.a9 s.n9 s.c9] 45)) := (hbr.block _ (Array.getElem?_eq_some_iff.1 Y1.out).1).trans Y1.out
    by_cases hkn : k < n
    case pos =>
      obtain ⟨b0, off, ⟨an, nn, cn⟩, rfl, hlb, hcc, hp⟩ := HR.out.get k hkn
      have hgp := HRZ.out k hkn
      obtain ⟨y, hy⟩ : ∃ y, y = rules.getD k default := ⟨_, rfl⟩
      rw [← hy] at hcc hp hgp
      have HY : Hid (y = rules.getD k default) := hy
      have HCW : Hid (∀ W, Below w.heap.size w W → ARC W b0 (off + k * 7) ⟨an, nn, cn⟩ y) := fun W hW => hcc.of (fun i => hW.cell (p := ⟨b0, i, none⟩) hlb)
      have HS : Hid (y.base.g.text.size ≤ 1048576 ∧ ∀ k, k < nn → (y.base.parts.getD k default).val.size ≤ 1048576) := by
        have h2 := hp.zn.1 hgp
        exact ⟨h2.1, h2.2.2⟩
      have HPW : Hid (∀ W, Below w.heap.size w W → Pts W an nn y.base.parts) := fun W hW => (hp.kept hW).r1
      have hkni : (k : Int) < (n : Int) := by omega
      clear hcc hy hp hgp
      obtain ⟨u0, u1, u2, u3, u4, u5_, u6_⟩ := HCW.out wq Bq.out
      clear u5_ u6_
      go_wp2_with fail
      refine (specBaseOk_any y.base.g an nn cn y.base.parts _ (HPW.out _ Bq.out) HS.out.2 HS.out.1).mono ?_
      rintro e w2 ⟨v, rfl, hv, hb2⟩
      have b2 : Below w1.heap.size w1 w2 := hbr.trans (hb2.mono hbr.size)
      have B2 : Hid (Below w.heap.size w w2) := B1.out.trans (b2.mono B1.out.size)
      have HV : Hid _ := hv
      clear hb2 hv u0 u1 u2 u3 u4
      cases v with
      | false =>
        have HN : Hid (¬ alP rules n act x) := fun q => by have := q.2.2.2.1 k hkn; rw [← HY.out] at this; have := HV.out.2 this; simp at this
        go_wp2
        go_ret
        exact saysB_f HN.out B2.out
      | true =>
        have HN : Hid (∀ j, j < k + 1 → baseP (rules.getD j default).base.g (rules.getD j default).base.parts) := fun j hj => by
          by_cases e : j < k
          · exact HE.out j e
          · obtain rfl : j = k := by omega
            rw [← HY.out]; exact HV.out.1 rfl
        go_wp2
        go_roundw
        case rel => exact ⟨k + 1, by omega, by go_num, HN, b2⟩
        case measure => simp [intOf]; omega
    have hki : ¬ ((k : Int) < (n : Int)) := by omega
    have HBS : Hid (∀ k, k < n → baseP (rules.getD k default).base.g (rules.getD k default).base.parts) := fun j hj => HE.out j (by omega)
    clear HE hkn
    go_wp2
    go_loopw [8] (fun i wr => ∃ k : Nat, k ≤ n ∧ i = .int .i64 k ∧ Hid (∀ j, j < k → ¬ spkR (allN x) (allN x).length act (rules.getD j default)) ∧ Below wq.heap.size wq wr) (fun i _ => n - (intOf i).toNat)
    case atStart => exact ⟨0, Nat.zero_le _, rfl, fun j hj => absurd hj (Nat.not_lt_zero _), Below.refl _ _⟩
    case round =>
      obtain ⟨kq, hkq, rfl, HN, hbm⟩ := hrel
      have Bm : Hid (Below w.heap.size w wr) := Bq.out.trans (hbm.mono Bq.out.size)
      have Ym : Hid (wr.heap[w.heap.size]? = some (.cells #[.int .i64 x.ser, .slice s.a1 s.n1 s.c1, .slice s.a2 s.n2 s.c2, .int .i64 x.frm, .int .i64 x.til, .int .i64 x.key.1, .int .u64 x.key.2.1, .int .i64 x.key.2.2, .bool x.ca, .int .i64 x.room, .int .i64 x.uses, .slice s.a3 s.n3 s.c3, .slice s.a4 s.n4 s.c4, .slice s.a5 s.n5 s.c5, .slice s.a6 s.n6 s.c6, .slice s.a7 s.n7 s.c7, .int .i64 x.need, .int .i64 x.nomap, .int .i64 x.noany, .slice s.a8 s.n8 s.c8, .slice s.a9 s.n9 s.c9] 45)) := (hbm.block _ (Array.getElem?_eq_some_iff.1 Yq.out).1).trans Yq.out
      by_cases hkn : kq < n
      case neg =>
        have hki : ¬ ((kq : Int) < (n : Int)) := by omega
        have HF : Hid (¬ alP rules n act x) := fun q => by
          obtain ⟨j, hj, hs, _⟩ := q.2.2.2.2
          exact HN.out j (by omega) hs
        go_wp2
        go_ret
        exact saysB_f HF.out Bm.out
      obtain ⟨b0, off, ⟨an, nn, cn⟩, rfl, hlb, hcc, hp⟩ := HR.out.get kq hkn
      have hgp := HRZ.out kq hkn
      obtain ⟨y, hy⟩ : ∃ y, y = rules.getD kq default := ⟨_, rfl⟩
      rw [← hy] at hcc hp hgp
      have HY : Hid (y = rules.getD kq default) := hy
      have HCW : Hid (∀ W, Below w.heap.size w W → ARC W b0 (off + kq * 7) ⟨an, nn, cn⟩ y) := fun W hW => hcc.of (fun i => hW.cell (p := ⟨b0, i, none⟩) hlb)
      have HS : Hid (y.base.g.text.size ≤ 1048576 ∧ ∀ k, k < nn → (y.base.parts.getD k default).val.size ≤ 1048576) := by
        have h2 := hp.zn.1 hgp
        exact ⟨h2.1, h2.2.2⟩
      have HPW : Hid (∀ W, Below w.heap.size w W → Pts W an nn y.base.parts) := fun W hW => (hp.kept hW).r1
      have hkni : (kq : Int) < (n : Int) := by omega
      clear hcc hy hp hgp
      have HCE4 : Hid (∀ W, Below wr.heap.size wr W → ARC W b0 (off + kq * 7) ⟨an, nn, cn⟩ y) := fun W hW => HCW.out W (Bm.out.trans (hW.mono Bm.out.size))
      have HNA : Hid (∀ W, Below wr.heap.size wr W → Calls Tryz.prog 64 #[.agg #[.int .i64 x.ser, .slice s.a1 s.n1 s.c1, .slice s.a2 s.n2 s.c2, .int .i64 x.frm, .int .i64 x.til, .int .i64 x.key.1, .int .u64 x.key.2.1, .int .i64 x.key.2.2, .bool x.ca, .int .i64 x.room, .int .i64 x.uses, .slice s.a3 s.n3 s.c3, .slice s.a4 s.n4 s.c4, .slice s.a5 s.n5 s.c5, .slice s.a6 s.n6 s.c6, .slice s.a7 s.n7 s.c7, .int .i64 x.need, .int .i64 x.nomap, .int .i64 x.noany, .slice s.a8 s.n8 s.c8, .slice s.a9 s.n9 s.c9], .agg #[.int .i64 y.base.g.kind, .string y.base.g.text, .int .i64 y.base.g.addr, .int .i64 y.base.g.bits, .slice an nn cn]] W (SaysB (∃ k, k < (allN x).length ∧ wn ((allN x).getD k default) y.base) W)) := fun W hW => named_any s x y.base an nn cn W (HK.out.kept (Bm.out.trans (hW.mono Bm.out.size))) HZ.out (HPW.out _ (Bm.out.trans (hW.mono Bm.out.size))) HS.out
      have HBB : wr.heap.size ≤ wr.heap.size := Nat.le_refl _
      by_cases ha0 : y.act = 0
      · have HC0 : Hid ((y.act == 0) = true) := by show _ = _; simp [ha0]
        have HAC : Hid (y.act = 0 ∨ y.act = act) := .inl ha0
        clear ha0
        go_upto_region 11 with fail
        refine wp_region_rk (sa1 b0 off n c kq an nn cn y s x act w.heap.size (wr.heap.size)) [40, 41, 42, 43, 44, 45, 46, 47, 48, 49, 50, 51, 52, 53, 54, 55, 56, 57, 58, 59, 60, 61, 62, 63] (wr.heap.size) (fun a0 => a0.tmps.size = 69 ∧ aT a0 0 = .slice (some ⟨b0, off, none⟩) n c ∧ aT a0 4 = .pointer (some ⟨w.heap.size, 0, none⟩) ∧ aT a0 8 = .int .i64 (kq : Int)) (by kernel_rfl) rfl (by kernel_rfl) rfl ⟨rfl, rfl, rfl, rfl⟩ (sa1_stb b0 off n c kq an nn cn y s x act w.heap.size (wr.heap.size)) ?_ ?_ ?_
        · intro k hk hk2
          match k, hk, hk2 with
          | 24, _, _ => exact Ym.out
          | 0, hk, _ => exact absurd hk (by show ¬ (24 ≤ 0); omega)
          | 1, hk, _ => exact absurd hk (by show ¬ (24 ≤ 1); omega)
          | 2, hk, _ => exact absurd hk (by show ¬ (24 ≤ 2); omega)
          | 3, hk, _ => exact absurd hk (by show ¬ (24 ≤ 3); omega)
          | 4, hk, _ => exact absurd hk (by show ¬ (24 ≤ 4); omega)
          | 5, hk, _ => exact absurd hk (by show ¬ (24 ≤ 5); omega)
          | 6, hk, _ => exact absurd hk (by show ¬ (24 ≤ 6); omega)
          | 7, hk, _ => exact absurd hk (by show ¬ (24 ≤ 7); omega)
          | 8, hk, _ => exact absurd hk (by show ¬ (24 ≤ 8); omega)
          | 9, hk, _ => exact absurd hk (by show ¬ (24 ≤ 9); omega)
          | 10, hk, _ => exact absurd hk (by show ¬ (24 ≤ 10); omega)
          | 11, hk, _ => exact absurd hk (by show ¬ (24 ≤ 11); omega)
          | 12, hk, _ => exact absurd hk (by show ¬ (24 ≤ 12); omega)
          | 13, hk, _ => exact absurd hk (by show ¬ (24 ≤ 13); omega)
          | 14, hk, _ => exact absurd hk (by show ¬ (24 ≤ 14); omega)
          | 15, hk, _ => exact absurd hk (by show ¬ (24 ≤ 15); omega)
          | 16, hk, _ => exact absurd hk (by show ¬ (24 ≤ 16); omega)
          | 17, hk, _ => exact absurd hk (by show ¬ (24 ≤ 17); omega)
          | 18, hk, _ => exact absurd hk (by show ¬ (24 ≤ 18); omega)
          | 19, hk, _ => exact absurd hk (by show ¬ (24 ≤ 19); omega)
          | 20, hk, _ => exact absurd hk (by show ¬ (24 ≤ 20); omega)
          | 21, hk, _ => exact absurd hk (by show ¬ (24 ≤ 21); omega)
          | 22, hk, _ => exact absurd hk (by show ¬ (24 ≤ 22); omega)
          | 23, hk, _ => exact absurd hk (by show ¬ (24 ≤ 23); omega)
          | k + 25, _, hk2 => exact absurd hk2 (by show ¬ (k + 25 < 25); omega)
        · rintro a0 ⟨hz, g0, g4, g8⟩
          refine StepsRK.cons ?_ (StepsRK.cons ?_ (StepsRK.cons ?_ (StepsRK.cons ?_ (StepsRK.cons ?_ (StepsRK.cons ?_ (StepsRK.cons ?_ (StepsRK.cons ?_ (StepsRK.cons ?_ (StepsRK.cons ?_ (StepsRK.cons ?_ (StepsRK.cons ?_ (StepsRK.cons ?_ (StepsRK.cons ?_ (StepsRK.cons ?_ (StepsRK.cons ?_ (StepsRK.cons ?_ (StepsRK.cons ?_ (StepsRK.cons ?_ (StepsRK.cons ?_ (StepsRK.cons ?_ (StepsRK.cons ?_ (StepsRK.cons ?_ (StepsRK.cons ?_ (StepsRK.nil))))))))))))))))))))))))
          · intro lQ b W hI hUN hED KQ hKQ
            refine rk_plain rfl ?_
            exact opw_move 0 rfl (hKQ.out _ _ (hI.put 0 40 rfl rfl (by rw [hz]; decide) rfl hUN rfl HBB (sa1_stb b0 off n c kq an nn cn y s x act w.heap.size (wr.heap.size)) (Below.refl _ _) ((hI.fr.same 0 (by decide)).trans g0)))
          · intro lQ b W hI hUN hED KQ hKQ
            refine rk_plain rfl ?_
            exact opw_move 8 rfl (hKQ.out _ _ (hI.put 1 41 rfl rfl (by rw [hz]; decide) rfl hUN rfl HBB (sa1_stb b0 off n c kq an nn cn y s x act w.heap.size (wr.heap.size)) (Below.refl _ _) ((hI.fr.same 8 (by decide)).trans g8)))
          · intro lQ b W hI hUN hED KQ hKQ
            refine rk_plain rfl ?_
            have f0 : aT b 40 = .slice (some ⟨b0, off, none⟩) n c := hI.got 0 (of_decide_eq_true rfl) (edge hED 0 (by kernel_rfl)) rfl
            have f1 : aT b 41 = .int .i64 (kq : Int) := hI.got 1 (of_decide_eq_true rfl) (edge hED 1 (by kernel_rfl)) rfl
            exact opw_indexR 57 40 41 rfl _ _ f0 f1 _ (indexRu b0 off n c kq W hkn) (hKQ.out _ _ (hI.put 2 42 rfl rfl (by rw [hz]; decide) rfl hUN rfl HBB (sa1_stb b0 off n c kq an nn cn y s x act w.heap.size (wr.heap.size)) (Below.refl _ _) rfl))
          · intro lQ b W hI hUN hED KQ hKQ
            refine rk_plain rfl ?_
            have f : aT b 42 = .pointer (some ⟨b0, off + kq * 7, none⟩) := hI.got 2 (of_decide_eq_true rfl) (edge hED 2 (by kernel_rfl)) rfl
            exact opw_field 108 42 1 rfl _ f _ (by kernel_rfl) (hKQ.out _ _ (hI.put 3 43 rfl rfl (by rw [hz]; decide) rfl hUN rfl HBB (sa1_stb b0 off n c kq an nn cn y s x act w.heap.size (wr.heap.size)) (Below.refl _ _) rfl))
          · intro lQ b W hI hUN hED KQ hKQ
            refine rk_plain rfl ?_
            have f : aT b 43 = .pointer (some ⟨b0, off + kq * 7 + 5, none⟩) := hI.got 3 (of_decide_eq_true rfl) (edge hED 3 (by kernel_rfl)) rfl
            have hc := (HCE4.out W hI.bel).c5
            exact opw_load1 2 43 rfl _ f _ (by simp [Instr.loadAt, go_sem, hc]) (hKQ.out _ _ (hI.put 4 44 rfl rfl (by rw [hz]; decide) rfl hUN rfl HBB (sa1_stb b0 off n c kq an nn cn y s x act w.heap.size (wr.heap.size)) (Below.refl _ _) rfl))
          · intro lQ b W hI hUN hED KQ hKQ
            refine rk_plain rfl ?_
            have f : aT b 44 = .int .i64 y.act := hI.got 4 (of_decide_eq_true rfl) (edge hED 4 (by kernel_rfl)) rfl
            exact opw_eqlc _ _ 44 0 rfl _ f true HC0.out (hKQ.out _ _ (hI.put 5 45 rfl rfl (by rw [hz]; decide) rfl hUN rfl HBB (sa1_stb b0 off n c kq an nn cn y s x act w.heap.size (wr.heap.size)) (Below.refl _ _) rfl))
          · intro lQ b W hI hUN hED KQ hKQ
            refine rk_plain rfl ?_
            have f := hI.got 5 (of_decide_eq_true rfl) (edge hED 5 (by kernel_rfl)) rfl
            exact opw_move 45 rfl (hKQ.out _ _ (hI.put 6 46 rfl rfl (by rw [hz]; decide) rfl hUN rfl HBB (sa1_stb b0 off n c kq an nn cn y s x act w.heap.size (wr.heap.size)) (Below.refl _ _) f))
          · intro lQ b W hI hUN hED KQ hKQ
            exact rk_skip 6 false 46 (.bool true) rfl rfl (hI.got 6 (of_decide_eq_true rfl) (edge hED 6 (by kernel_rfl)) rfl) rfl (hKQ.out _ _ (hI.put 7 47 rfl rfl (by rw [hz]; decide) rfl hUN rfl HBB (sa1_stb b0 off n c kq an nn cn y s x act w.heap.size (wr.heap.size)) (Below.refl _ _) rfl))
          · intro lQ b W hI hUN hED KQ hKQ
            exact rk_skip 6 false 46 (.bool true) rfl rfl (hI.got 6 (of_decide_eq_true rfl) (edge hED 6 (by kernel_rfl)) rfl) rfl (hKQ.out _ _ (hI.put 8 48 rfl rfl (by rw [hz]; decide) rfl hUN rfl HBB (sa1_stb b0 off n c kq an nn cn y s x act w.heap.size (wr.heap.size)) (Below.refl _ _) rfl))
          · intro lQ b W hI hUN hED KQ hKQ
            exact rk_skip 6 false 46 (.bool true) rfl rfl (hI.got 6 (of_decide_eq_true rfl) (edge hED 6 (by kernel_rfl)) rfl) rfl (hKQ.out _ _ (hI.put 9 49 rfl rfl (by rw [hz]; decide) rfl hUN rfl HBB (sa1_stb b0 off n c kq an nn cn y s x act w.heap.size (wr.heap.size)) (Below.refl _ _) rfl))
          · intro lQ b W hI hUN hED KQ hKQ
            exact rk_skip 6 false 46 (.bool true) rfl rfl (hI.got 6 (of_decide_eq_true rfl) (edge hED 6 (by kernel_rfl)) rfl) rfl (hKQ.out _ _ (hI.put 10 50 rfl rfl (by rw [hz]; decide) rfl hUN rfl HBB (sa1_stb b0 off n c kq an nn cn y s x act w.heap.size (wr.heap.size)) (Below.refl _ _) rfl))
          · intro lQ b W hI hUN hED KQ hKQ
            exact rk_skip 6 false 46 (.bool true) rfl rfl (hI.got 6 (of_decide_eq_true rfl) (edge hED 6 (by kernel_rfl)) rfl) rfl (hKQ.out _ _ (hI.put 11 51 rfl rfl (by rw [hz]; decide) rfl hUN rfl HBB (sa1_stb b0 off n c kq an nn cn y s x act w.heap.size (wr.heap.size)) (Below.refl _ _) rfl))
          · intro lQ b W hI hUN hED KQ hKQ
            exact rk_skip 6 false 46 (.bool true) rfl rfl (hI.got 6 (of_decide_eq_true rfl) (edge hED 6 (by kernel_rfl)) rfl) rfl (hKQ.out _ _ (hI.put 12 52 rfl rfl (by rw [hz]; decide) rfl hUN rfl HBB (sa1_stb b0 off n c kq an nn cn y s x act w.heap.size (wr.heap.size)) (Below.refl _ _) rfl))
          · intro lQ b W hI hUN hED KQ hKQ
            exact rk_skip 6 false 46 (.bool true) rfl rfl (hI.got 6 (of_decide_eq_true rfl) (edge hED 6 (by kernel_rfl)) rfl) rfl (hKQ.out _ _ (hI.put 13 53 rfl rfl (by rw [hz]; decide) rfl hUN rfl HBB (sa1_stb b0 off n c kq an nn cn y s x act w.heap.size (wr.heap.size)) (Below.refl _ _) rfl))
          · intro lQ b W hI hUN hED KQ hKQ
            refine rk_plain rfl ?_
            have fc : aT b 46 = .bool true := hI.got 6 (of_decide_eq_true rfl) (edge hED 6 (by kernel_rfl)) rfl
            exact opw_pick_t 46 _ _ rfl fc _ rfl (hKQ.out _ _ (hI.put 14 54 rfl rfl (by rw [hz]; decide) rfl hUN rfl HBB (sa1_stb b0 off n c kq an nn cn y s x act w.heap.size (wr.heap.size)) (Below.refl _ _) rfl))
          · intro lQ b W hI hUN hED KQ hKQ
            refine rk_plain rfl ?_
            have f := hI.got 14 (of_decide_eq_true rfl) (edge hED 14 (by kernel_rfl)) rfl
            exact opw_move 54 rfl (hKQ.out _ _ (hI.put 15 55 rfl rfl (by rw [hz]; decide) rfl hUN rfl HBB (sa1_stb b0 off n c kq an nn cn y s x act w.heap.size (wr.heap.size)) (Below.refl _ _) f))
          · intro lQ b W hI hUN hED KQ hKQ
            refine rk_take 15 true 55 rfl rfl (hI.got 15 (of_decide_eq_true rfl) (edge hED 15 (by kernel_rfl)) rfl) ?_
            have hg := (hI.vot 24 (of_decide_eq_true rfl) (of_decide_eq_true rfl) rfl)
            refine wp_load_row 45 _ rfl (w.heap.size) ((hI.fr.same 4 (by decide)).trans g4) 45 #[.int .i64 x.ser, .slice s.a1 s.n1 s.c1, .slice s.a2 s.n2 s.c2, .int .i64 x.frm, .int .i64 x.til, .int .i64 x.key.1, .int .u64 x.key.2.1, .int .i64 x.key.2.2, .bool x.ca, .int .i64 x.room, .int .i64 x.uses, .slice s.a3 s.n3 s.c3, .slice s.a4 s.n4 s.c4, .slice s.a5 s.n5 s.c5, .slice s.a6 s.n6 s.c6, .slice s.a7 s.n7 s.c7, .int .i64 x.need, .int .i64 x.nomap, .int .i64 x.noany, .slice s.a8 s.n8 s.c8, .slice s.a9 s.n9 s.c9] (0, 0) _ hg Tryz.underlying45 rfl (by kernel_rfl) ?_
            exact hKQ.out _ _ (hI.put 16 56 rfl rfl (by rw [hz]; decide) rfl hUN rfl HBB (sa1_stb b0 off n c kq an nn cn y s x act w.heap.size (wr.heap.size)) (Below.refl _ _) rfl)
          · intro lQ b W hI hUN hED KQ hKQ
            refine rk_take 15 true 55 rfl rfl (hI.got 15 (of_decide_eq_true rfl) (edge hED 15 (by kernel_rfl)) rfl) ?_
            exact opw_move 0 rfl (hKQ.out _ _ (hI.put 17 57 rfl rfl (by rw [hz]; decide) rfl hUN rfl HBB (sa1_stb b0 off n c kq an nn cn y s x act w.heap.size (wr.heap.size)) (Below.refl _ _) ((hI.fr.same 0 (by decide)).trans g0)))
          · intro lQ b W hI hUN hED KQ hKQ
            refine rk_take 15 true 55 rfl rfl (hI.got 15 (of_decide_eq_true rfl) (edge hED 15 (by kernel_rfl)) rfl) ?_
            exact opw_move 8 rfl (hKQ.out _ _ (hI.put 18 58 rfl rfl (by rw [hz]; decide) rfl hUN rfl HBB (sa1_stb b0 off n c kq an nn cn y s x act w.heap.size (wr.heap.size)) (Below.refl _ _) ((hI.fr.same 8 (by decide)).trans g8)))
          · intro lQ b W hI hUN hED KQ hKQ
            refine rk_take 15 true 55 rfl rfl (hI.got 15 (of_decide_eq_true rfl) (edge hED 15 (by kernel_rfl)) rfl) ?_
            have f0 : aT b 57 = .slice (some ⟨b0, off, none⟩) n c := hI.got 17 (of_decide_eq_true rfl) (edge hED 17 (by kernel_rfl)) rfl
            have f1 : aT b 58 = .int .i64 (kq : Int) := hI.got 18 (of_decide_eq_true rfl) (edge hED 18 (by kernel_rfl)) rfl
            exact opw_indexR 57 57 58 rfl _ _ f0 f1 _ (indexRu b0 off n c kq W hkn) (hKQ.out _ _ (hI.put 19 59 rfl rfl (by rw [hz]; decide) rfl hUN rfl HBB (sa1_stb b0 off n c kq an nn cn y s x act w.heap.size (wr.heap.size)) (Below.refl _ _) rfl))
          · intro lQ b W hI hUN hED KQ hKQ
            refine rk_take 15 true 55 rfl rfl (hI.got 15 (of_decide_eq_true rfl) (edge hED 15 (by kernel_rfl)) rfl) ?_
            have f : aT b 59 = .pointer (some ⟨b0, off + kq * 7, none⟩) := hI.got 19 (of_decide_eq_true rfl) (edge hED 19 (by kernel_rfl)) rfl
            exact opw_field 108 59 0 rfl _ f _ (by kernel_rfl) (hKQ.out _ _ (hI.put 20 60 rfl rfl (by rw [hz]; decide) rfl hUN rfl HBB (sa1_stb b0 off n c kq an nn cn y s x act w.heap.size (wr.heap.size)) (Below.refl _ _) rfl))
          · intro lQ b W hI hUN hED KQ hKQ
            refine rk_take 15 true 55 rfl rfl (hI.got 15 (of_decide_eq_true rfl) (edge hED 15 (by kernel_rfl)) rfl) ?_
            have f : aT b 60 = .pointer (some ⟨b0, off + kq * 7, none⟩) := hI.got 20 (of_decide_eq_true rfl) (edge hED 20 (by kernel_rfl)) rfl
            obtain ⟨h0, h1, h2, h3, h4, _, _⟩ := HCE4.out W hI.bel
            exact opw_load1 96 60 rfl _ f _ (by simp [Instr.loadAt, go_sem, h0, h1, h2, h3, h4]) (hKQ.out _ _ (hI.put 21 61 rfl rfl (by rw [hz]; decide) rfl hUN rfl HBB (sa1_stb b0 off n c kq an nn cn y s x act w.heap.size (wr.heap.size)) (Below.refl _ _) rfl))
          · intro lQ b W hI hUN hED KQ hKQ
            refine rk_take 15 true 55 rfl rfl (hI.got 15 (of_decide_eq_true rfl) (edge hED 15 (by kernel_rfl)) rfl) ?_
            have f0 := hI.got 16 (of_decide_eq_true rfl) (edge hED 16 (by kernel_rfl)) rfl
            replace f0 : aT b 56 = .agg #[.int .i64 x.ser, .slice s.a1 s.n1 s.c1, .slice s.a2 s.n2 s.c2, .int .i64 x.frm, .int .i64 x.til, .int .i64 x.key.1, .int .u64 x.key.2.1, .int .i64 x.key.2.2, .bool x.ca, .int .i64 x.room, .int .i64 x.uses, .slice s.a3 s.n3 s.c3, .slice s.a4 s.n4 s.c4, .slice s.a5 s.n5 s.c5, .slice s.a6 s.n6 s.c6, .slice s.a7 s.n7 s.c7, .int .i64 x.need, .int .i64 x.nomap, .int .i64 x.noany, .slice s.a8 s.n8 s.c8, .slice s.a9 s.n9 s.c9] := f0
            have f1 := hI.got 21 (of_decide_eq_true rfl) (edge hED 21 (by kernel_rfl)) rfl
            replace f1 : aT b 61 = .agg #[.int .i64 y.base.g.kind, .string y.base.g.text, .int .i64 y.base.g.addr, .int .i64 y.base.g.bits, .slice an nn cn] := f1
            refine opw_call 64 #[.tmp 56, .tmp 61] _ _ _ rfl Tryz.func64 (by kernel_rfl) rfl #[.agg #[.int .i64 x.ser, .slice s.a1 s.n1 s.c1, .slice s.a2 s.n2 s.c2, .int .i64 x.frm, .int .i64 x.til, .int .i64 x.key.1, .int .u64 x.key.2.1, .int .i64 x.key.2.2, .bool x.ca, .int .i64 x.room, .int .i64 x.uses, .slice s.a3 s.n3 s.c3, .slice s.a4 s.n4 s.c4, .slice s.a5 s.n5 s.c5, .slice s.a6 s.n6 s.c6, .slice s.a7 s.n7 s.c7, .int .i64 x.need, .int .i64 x.nomap, .int .i64 x.noany, .slice s.a8 s.n8 s.c8, .slice s.a9 s.n9 s.c9], .agg #[.int .i64 y.base.g.kind, .string y.base.g.text, .int .i64 y.base.g.addr, .int .i64 y.base.g.bits, .slice an nn cn]] (by simp [ev, f0, f1]) ?_
            refine (HNA.out W hI.bel).mono ?_
            rintro e W2 ⟨vb, rfl, hv, hb⟩
            exact ⟨_, rfl, hKQ.out _ _ (hI.put 22 62 rfl rfl (by rw [hz]; decide) rfl hUN rfl HBB (sa1_stb b0 off n c kq an nn cn y s x act w.heap.size (wr.heap.size)) hb ⟨vb, rfl, hv.out⟩)⟩
          · intro lQ b W hI hUN hED KQ hKQ
            refine rk_plain rfl ?_
            have fc : aT b 55 = .bool true := hI.got 15 (of_decide_eq_true rfl) (edge hED 15 (by kernel_rfl)) rfl
            have f := hI.got 22 (of_decide_eq_true rfl) (edge hED 22 (by kernel_rfl)) rfl
            obtain ⟨vb, f, o_0⟩ := f
            replace f : aT b 62 = .bool vb := f
            exact opw_pick_t 55 _ _ rfl fc _ f (hKQ.out _ _ (hI.put 23 63 rfl rfl (by rw [hz]; decide) rfl hUN rfl HBB (sa1_stb b0 off n c kq an nn cn y s x act w.heap.size (wr.heap.size)) (Below.refl _ _) ⟨vb, rfl, o_0⟩))
        · intro b W hf hb F
          obtain ⟨vb, e63, hv⟩ := F 23 (of_decide_eq_true rfl) rfl
          replace e63 : aT b 63 = .bool vb := e63
          rw [hf.eq]
          simp only [puts, Act.put, List.setIfInBounds_toArray, List.set_cons_zero, List.set_cons_succ, e63]
          clear hf F e63
          generalize aT b = AT
          clear b
          obtain ⟨w7, hw7⟩ : ∃ w7, w7 = W := ⟨_, rfl⟩
          subst hw7
          have b7 : Below wq.heap.size wq w7 := hbm.trans (hb.mono hbm.size)
          have B7 : Hid (Below w.heap.size w w7) := Bq.out.trans (b7.mono Bq.out.size)
          have HV : Hid (vb = true ↔ ∃ k, k < (allN x).length ∧ wn ((allN x).getD k default) y.base) := hv
          clear hv hb
          rcases vb with _ | _
          · have HN2 : Hid (∀ j, j < kq + 1 → ¬ spkR (allN x) (allN x).length act (rules.getD j default)) := fun j hj => by
              by_cases e : j < kq
              · exact HN.out j e
              · obtain rfl : j = kq := by omega
                rw [← HY.out]; exact fun z => by have := HV.out.2 z.2; cases this
            go_wp2
            go_roundw
            case rel => exact ⟨kq + 1, by omega, by go_num, HN2, b7⟩
            case measure => simp [intOf]; omega
          · have HSP : Hid (spkR (allN x) (allN x).length act (rules.getD kq default)) := by rw [← HY.out]; exact ⟨HAC.out, HV.out.1 rfl⟩
            have u6 : w7.cell? ⟨b0, off + kq * 7 + 6, none⟩ = some (.bool y.yes) := (HCW.out w7 B7.out).c6
            have HIF : Hid (y.yes = true ↔ alP rules n act x) := by
              constructor
              · intro e
                exact ⟨HCE.out, hn20, HA1.out, HBS.out, kq, hkn, HSP.out, HN.out, by rw [← HY.out]; exact e⟩
              · intro q
                obtain ⟨j, hj, hs, hb, hyj⟩ := q.2.2.2.2
                have : j = kq := by
                  rcases Nat.lt_trichotomy j kq with z | z | z
                  · exact absurd hs (HN.out j z)
                  · exact z
                  · exact absurd HSP.out (hb kq z)
                rw [this, ← HY.out] at hyj
                exact hyj
            go_wp2
            go_ret
            exact ⟨y.yes, rfl, HIF, B7.out⟩
      · have HC0 : Hid ((y.act == 0) = false) := by show _ = _; simp [ha0]
        by_cases ha1 : y.act = act
        · have HC1 : Hid ((y.act == act) = true) := by show _ = _; simp [ha1]
          have HAC : Hid (y.act = 0 ∨ y.act = act) := .inr ha1
          clear ha0 ha1
          go_upto_region 11 with fail
          refine wp_region_rk (sa2 b0 off n c kq an nn cn y s x act w.heap.size (wr.heap.size)) [40, 41, 42, 43, 44, 45, 46, 47, 48, 49, 50, 51, 52, 53, 54, 55, 56, 57, 58, 59, 60, 61, 62, 63] (wr.heap.size) (fun a0 => a0.tmps.size = 69 ∧ aT a0 0 = .slice (some ⟨b0, off, none⟩) n c ∧ aT a0 2 = .int .i64 act ∧ aT a0 4 = .pointer (some ⟨w.heap.size, 0, none⟩) ∧ aT a0 8 = .int .i64 (kq : Int)) (by kernel_rfl) rfl (by kernel_rfl) rfl ⟨rfl, rfl, rfl, rfl, rfl⟩ (sa2_stb b0 off n c kq an nn cn y s x act w.heap.size (wr.heap.size)) ?_ ?_ ?_
          · intro k hk hk2
            match k, hk, hk2 with
            | 24, _, _ => exact Ym.out
            | 0, hk, _ => exact absurd hk (by show ¬ (24 ≤ 0); omega)
            | 1, hk, _ => exact absurd hk (by show ¬ (24 ≤ 1); omega)
            | 2, hk, _ => exact absurd hk (by show ¬ (24 ≤ 2); omega)
            | 3, hk, _ => exact absurd hk (by show ¬ (24 ≤ 3); omega)
            | 4, hk, _ => exact absurd hk (by show ¬ (24 ≤ 4); omega)
            | 5, hk, _ => exact absurd hk (by show ¬ (24 ≤ 5); omega)
            | 6, hk, _ => exact absurd hk (by show ¬ (24 ≤ 6); omega)
            | 7, hk, _ => exact absurd hk (by show ¬ (24 ≤ 7); omega)
            | 8, hk, _ => exact absurd hk (by show ¬ (24 ≤ 8); omega)
            | 9, hk, _ => exact absurd hk (by show ¬ (24 ≤ 9); omega)
            | 10, hk, _ => exact absurd hk (by show ¬ (24 ≤ 10); omega)
            | 11, hk, _ => exact absurd hk (by show ¬ (24 ≤ 11); omega)
            | 12, hk, _ => exact absurd hk (by show ¬ (24 ≤ 12); omega)
            | 13, hk, _ => exact absurd hk (by show ¬ (24 ≤ 13); omega)
            | 14, hk, _ => exact absurd hk (by show ¬ (24 ≤ 14); omega)
            | 15, hk, _ => exact absurd hk (by show ¬ (24 ≤ 15); omega)
            | 16, hk, _ => exact absurd hk (by show ¬ (24 ≤ 16); omega)
            | 17, hk, _ => exact absurd hk (by show ¬ (24 ≤ 17); omega)
            | 18, hk, _ => exact absurd hk (by show ¬ (24 ≤ 18); omega)
            | 19, hk, _ => exact absurd hk (by show ¬ (24 ≤ 19); omega)
            | 20, hk, _ => exact absurd hk (by show ¬ (24 ≤ 20); omega)
            | 21, hk, _ => exact absurd hk (by show ¬ (24 ≤ 21); omega)
            | 22, hk, _ => exact absurd hk (by show ¬ (24 ≤ 22); omega)
            | 23, hk, _ => exact absurd hk (by show ¬ (24 ≤ 23); omega)
            | k + 25, _, hk2 => exact absurd hk2 (by show ¬ (k + 25 < 25); omega)
          · rintro a0 ⟨hz, g0, g2, g4, g8⟩
            refine StepsRK.cons ?_ (StepsRK.cons ?_ (StepsRK.cons ?_ (StepsRK.cons ?_ (StepsRK.cons ?_ (StepsRK.cons ?_ (StepsRK.cons ?_ (StepsRK.cons ?_ (StepsRK.cons ?_ (StepsRK.cons ?_ (StepsRK.cons ?_ (StepsRK.cons ?_ (StepsRK.cons ?_ (StepsRK.cons ?_ (StepsRK.cons ?_ (StepsRK.cons ?_ (StepsRK.cons ?_ (StepsRK.cons ?_ (StepsRK.cons ?_ (StepsRK.cons ?_ (StepsRK.cons ?_ (StepsRK.cons ?_ (StepsRK.cons ?_ (StepsRK.cons ?_ (StepsRK.nil))))))))))))))))))))))))
            · intro lQ b W hI hUN hED KQ hKQ
              refine rk_plain rfl ?_
              exact opw_move 0 rfl (hKQ.out _ _ (hI.put 0 40 rfl rfl (by rw [hz]; decide) rfl hUN rfl HBB (sa2_stb b0 off n c kq an nn cn y s x act w.heap.size (wr.heap.size)) (Below.refl _ _) ((hI.fr.same 0 (by decide)).trans g0)))
            · intro lQ b W hI hUN hED KQ hKQ
              refine rk_plain rfl ?_
              exact opw_move 8 rfl (hKQ.out _ _ (hI.put 1 41 rfl rfl (by rw [hz]; decide) rfl hUN rfl HBB (sa2_stb b0 off n c kq an nn cn y s x act w.heap.size (wr.heap.size)) (Below.refl _ _) ((hI.fr.same 8 (by decide)).trans g8)))
            · intro lQ b W hI hUN hED KQ hKQ
              refine rk_plain rfl ?_
              have f0 : aT b 40 = .slice (some ⟨b0, off, none⟩) n c := hI.got 0 (of_decide_eq_true rfl) (edge hED 0 (by kernel_rfl)) rfl
              have f1 : aT b 41 = .int .i64 (kq : Int) := hI.got 1 (of_decide_eq_true rfl) (edge hED 1 (by kernel_rfl)) rfl
              exact opw_indexR 57 40 41 rfl _ _ f0 f1 _ (indexRu b0 off n c kq W hkn) (hKQ.out _ _ (hI.put 2 42 rfl rfl (by rw [hz]; decide) rfl hUN rfl HBB (sa2_stb b0 off n c kq an nn cn y s x act w.heap.size (wr.heap.size)) (Below.refl _ _) rfl))
            · intro lQ b W hI hUN hED KQ hKQ
              refine rk_plain rfl ?_
              have f : aT b 42 = .pointer (some ⟨b0, off + kq * 7, none⟩) := hI.got 2 (of_decide_eq_true rfl) (edge hED 2 (by kernel_rfl)) rfl
              exact opw_field 108 42 1 rfl _ f _ (by kernel_rfl) (hKQ.out _ _ (hI.put 3 43 rfl rfl (by rw [hz]; decide) rfl hUN rfl HBB (sa2_stb b0 off n c kq an nn cn y s x act w.heap.size (wr.heap.size)) (Below.refl _ _) rfl))
            · intro lQ b W hI hUN hED KQ hKQ
              refine rk_plain rfl ?_
              have f : aT b 43 = .pointer (some ⟨b0, off + kq * 7 + 5, none⟩) := hI.got 3 (of_decide_eq_true rfl) (edge hED 3 (by kernel_rfl)) rfl
              have hc := (HCE4.out W hI.bel).c5
              exact opw_load1 2 43 rfl _ f _ (by simp [Instr.loadAt, go_sem, hc]) (hKQ.out _ _ (hI.put 4 44 rfl rfl (by rw [hz]; decide) rfl hUN rfl HBB (sa2_stb b0 off n c kq an nn cn y s x act w.heap.size (wr.heap.size)) (Below.refl _ _) rfl))
            · intro lQ b W hI hUN hED KQ hKQ
              refine rk_plain rfl ?_
              have f : aT b 44 = .int .i64 y.act := hI.got 4 (of_decide_eq_true rfl) (edge hED 4 (by kernel_rfl)) rfl
              exact opw_eqlc _ _ 44 0 rfl _ f false HC0.out (hKQ.out _ _ (hI.put 5 45 rfl rfl (by rw [hz]; decide) rfl hUN rfl HBB (sa2_stb b0 off n c kq an nn cn y s x act w.heap.size (wr.heap.size)) (Below.refl _ _) rfl))
            · intro lQ b W hI hUN hED KQ hKQ
              refine rk_plain rfl ?_
              have f := hI.got 5 (of_decide_eq_true rfl) (edge hED 5 (by kernel_rfl)) rfl
              exact opw_move 45 rfl (hKQ.out _ _ (hI.put 6 46 rfl rfl (by rw [hz]; decide) rfl hUN rfl HBB (sa2_stb b0 off n c kq an nn cn y s x act w.heap.size (wr.heap.size)) (Below.refl _ _) f))
            · intro lQ b W hI hUN hED KQ hKQ
              refine rk_take 6 false 46 rfl rfl (hI.got 6 (of_decide_eq_true rfl) (edge hED 6 (by kernel_rfl)) rfl) ?_
              exact opw_move 0 rfl (hKQ.out _ _ (hI.put 7 47 rfl rfl (by rw [hz]; decide) rfl hUN rfl HBB (sa2_stb b0 off n c kq an nn cn y s x act w.heap.size (wr.heap.size)) (Below.refl _ _) ((hI.fr.same 0 (by decide)).trans g0)))
            · intro lQ b W hI hUN hED KQ hKQ
              refine rk_take 6 false 46 rfl rfl (hI.got 6 (of_decide_eq_true rfl) (edge hED 6 (by kernel_rfl)) rfl) ?_
              exact opw_move 8 rfl (hKQ.out _ _ (hI.put 8 48 rfl rfl (by rw [hz]; decide) rfl hUN rfl HBB (sa2_stb b0 off n c kq an nn cn y s x act w.heap.size (wr.heap.size)) (Below.refl _ _) ((hI.fr.same 8 (by decide)).trans g8)))
            · intro lQ b W hI hUN hED KQ hKQ
              refine rk_take 6 false 46 rfl rfl (hI.got 6 (of_decide_eq_true rfl) (edge hED 6 (by kernel_rfl)) rfl) ?_
              have f0 : aT b 47 = .slice (some ⟨b0, off, none⟩) n c := hI.got 7 (of_decide_eq_true rfl) (edge hED 7 (by kernel_rfl)) rfl
              have f1 : aT b 48 = .int .i64 (kq : Int) := hI.got 8 (of_decide_eq_true rfl) (edge hED 8 (by kernel_rfl)) rfl
              exact opw_indexR 57 47 48 rfl _ _ f0 f1 _ (indexRu b0 off n c kq W hkn) (hKQ.out _ _ (hI.put 9 49 rfl rfl (by rw [hz]; decide) rfl hUN rfl HBB (sa2_stb b0 off n c kq an nn cn y s x act w.heap.size (wr.heap.size)) (Below.refl _ _) rfl))
            · intro lQ b W hI hUN hED KQ hKQ
              refine rk_take 6 false 46 rfl rfl (hI.got 6 (of_decide_eq_true rfl) (edge hED 6 (by kernel_rfl)) rfl) ?_
              have f : aT b 49 = .pointer (some ⟨b0, off + kq * 7, none⟩) := hI.got 9 (of_decide_eq_true rfl) (edge hED 9 (by kernel_rfl)) rfl
              exact opw_field 108 49 1 rfl _ f _ (by kernel_rfl) (hKQ.out _ _ (hI.put 10 50 rfl rfl (by rw [hz]; decide) rfl hUN rfl HBB (sa2_stb b0 off n c kq an nn cn y s x act w.heap.size (wr.heap.size)) (Below.refl _ _) rfl))
            · intro lQ b W hI hUN hED KQ hKQ
              refine rk_take 6 false 46 rfl rfl (hI.got 6 (of_decide_eq_true rfl) (edge hED 6 (by kernel_rfl)) rfl) ?_
              have f : aT b 50 = .pointer (some ⟨b0, off + kq * 7 + 5, none⟩) := hI.got 10 (of_decide_eq_true rfl) (edge hED 10 (by kernel_rfl)) rfl
              have hc := (HCE4.out W hI.bel).c5
              exact opw_load1 2 50 rfl _ f _ (by simp [Instr.loadAt, go_sem, hc]) (hKQ.out _ _ (hI.put 11 51 rfl rfl (by rw [hz]; decide) rfl hUN rfl HBB (sa2_stb b0 off n c kq an nn cn y s x act w.heap.size (wr.heap.size)) (Below.refl _ _) rfl))
            · intro lQ b W hI hUN hED KQ hKQ
              refine rk_take 6 false 46 rfl rfl (hI.got 6 (of_decide_eq_true rfl) (edge hED 6 (by kernel_rfl)) rfl) ?_
              exact opw_move 2 rfl (hKQ.out _ _ (hI.put 12 52 rfl rfl (by rw [hz]; decide) rfl hUN rfl HBB (sa2_stb b0 off n c kq an nn cn y s x act w.heap.size (wr.heap.size)) (Below.refl _ _) ((hI.fr.same 2 (by decide)).trans g2)))
            · intro lQ b W hI hUN hED KQ hKQ
              refine rk_take 6 false 46 rfl rfl (hI.got 6 (of_decide_eq_true rfl) (edge hED 6 (by kernel_rfl)) rfl) ?_
              have f1 : aT b 51 = .int .i64 y.act := hI.got 11 (of_decide_eq_true rfl) (edge hED 11 (by kernel_rfl)) rfl
              have f2 : aT b 52 = .int .i64 act := hI.got 12 (of_decide_eq_true rfl) (edge hED 12 (by kernel_rfl)) rfl
              exact opw_eql _ _ 51 52 rfl .i64 _ _ f1 f2 true HC1.out (hKQ.out _ _ (hI.put 13 53 rfl rfl (by rw [hz]; decide) rfl hUN rfl HBB (sa2_stb b0 off n c kq an nn cn y s x act w.heap.size (wr.heap.size)) (Below.refl _ _) rfl))
            · intro lQ b W hI hUN hED KQ hKQ
              refine rk_plain rfl ?_
              have fc : aT b 46 = .bool false := hI.got 6 (of_decide_eq_true rfl) (edge hED 6 (by kernel_rfl)) rfl
              have f := hI.got 13 (of_decide_eq_true rfl) (edge hED 13 (by kernel_rfl)) rfl
              replace f : aT b 53 = .bool true := f
              exact opw_pick_f 46 _ _ rfl fc _ f (hKQ.out _ _ (hI.put 14 54 rfl rfl (by rw [hz]; decide) rfl hUN rfl HBB (sa2_stb b0 off n c kq an nn cn y s x act w.heap.size (wr.heap.size)) (Below.refl _ _) rfl))
            · intro lQ b W hI hUN hED KQ hKQ
              refine rk_plain rfl ?_
              have f := hI.got 14 (of_decide_eq_true rfl) (edge hED 14 (by kernel_rfl)) rfl
              exact opw_move 54 rfl (hKQ.out _ _ (hI.put 15 55 rfl rfl (by rw [hz]; decide) rfl hUN rfl HBB (sa2_stb b0 off n c kq an nn cn y s x act w.heap.size (wr.heap.size)) (Below.refl _ _) f))
            · intro lQ b W hI hUN hED KQ hKQ
              refine rk_take 15 true 55 rfl rfl (hI.got 15 (of_decide_eq_true rfl) (edge hED 15 (by kernel_rfl)) rfl) ?_
              have hg := (hI.vot 24 (of_decide_eq_true rfl) (of_decide_eq_true rfl) rfl)
              refine wp_load_row 45 _ rfl (w.heap.size) ((hI.fr.same 4 (by decide)).trans g4) 45 #[.int .i64 x.ser, .slice s.a1 s.n1 s.c1, .slice s.a2 s.n2 s.c2, .int .i64 x.frm, .int .i64 x.til, .int .i64 x.key.1, .int .u64 x.key.2.1, .int .i64 x.key.2.2, .bool x.ca, .int .i64 x.room, .int .i64 x.uses, .slice s.a3 s.n3 s.c3, .slice s.a4 s.n4 s.c4, .slice s.a5 s.n5 s.c5, .slice s.a6 s.n6 s.c6, .slice s.a7 s.n7 s.c7, .int .i64 x.need, .int .i64 x.nomap, .int .i64 x.noany, .slice s.a8 s.n8 s.c8, .slice s.a9 s.n9 s.c9] (0, 0) _ hg Tryz.underlying45 rfl (by kernel_rfl) ?_
              exact hKQ.out _ _ (hI.put 16 56 rfl rfl (by rw [hz]; decide) rfl hUN rfl HBB (sa2_stb b0 off n c kq an nn cn y s x act w.heap.size (wr.heap.size)) (Below.refl _ _) rfl)
            · intro lQ b W hI hUN hED KQ hKQ
              refine rk_take 15 true 55 rfl rfl (hI.got 15 (of_decide_eq_true rfl) (edge hED 15 (by kernel_rfl)) rfl) ?_
              exact opw_move 0 rfl (hKQ.out _ _ (hI.put 17 57 rfl rfl (by rw [hz]; decide) rfl hUN rfl HBB (sa2_stb b0 off n c kq an nn cn y s x act w.heap.size (wr.heap.size)) (Below.refl _ _) ((hI.fr.same 0 (by decide)).trans g0)))
            · intro lQ b W hI hUN hED KQ hKQ
              refine rk_take 15 true 55 rfl rfl (hI.got 15 (of_decide_eq_true rfl) (edge hED 15 (by kernel_rfl)) rfl) ?_
              exact opw_move 8 rfl (hKQ.out _ _ (hI.put 18 58 rfl rfl (by rw [hz]; decide) rfl hUN rfl HBB (sa2_stb b0 off n c kq an nn cn y s x act w.heap.size (wr.heap.size)) (Below.refl _ _) ((hI.fr.same 8 (by decide)).trans g8)))
            · intro lQ b W hI hUN hED KQ hKQ
              refine rk_take 15 true 55 rfl rfl (hI.got 15 (of_decide_eq_true rfl) (edge hED 15 (by kernel_rfl)) rfl) ?_
              have f0 : aT b 57 = .slice (some ⟨b0, off, none⟩) n c := hI.got 17 (of_decide_eq_true rfl) (edge hED 17 (by kernel_rfl)) rfl
              have f1 : aT b 58 = .int .i64 (kq : Int) := hI.got 18 (of_decide_eq_true rfl) (edge hED 18 (by kernel_rfl)) rfl
              exact opw_indexR 57 57 58 rfl _ _ f0 f1 _ (indexRu b0 off n c kq W hkn) (hKQ.out _ _ (hI.put 19 59 rfl rfl (by rw [hz]; decide) rfl hUN rfl HBB (sa2_stb b0 off n c kq an nn cn y s x act w.heap.size (wr.heap.size)) (Below.refl _ _) rfl))
            · intro lQ b W hI hUN hED KQ hKQ
              refine rk_take 15 true 55 rfl rfl (hI.got 15 (of_decide_eq_true rfl) (edge hED 15 (by kernel_rfl)) rfl) ?_
              have f : aT b 59 = .pointer (some ⟨b0, off + kq * 7, none⟩) := hI.got 19 (of_decide_eq_true rfl) (edge hED 19 (by kernel_rfl)) rfl
              exact opw_field 108 59 0 rfl _ f _ (by kernel_rfl) (hKQ.out _ _ (hI.put 20 60 rfl rfl (by rw [hz]; decide) rfl hUN rfl HBB (sa2_stb b0 off n c kq an nn cn y s x act w.heap.size (wr.heap.size)) (Below.refl _ _) rfl))
            · intro lQ b W hI hUN hED KQ hKQ
              refine rk_take 15 true 55 rfl rfl (hI.got 15 (of_decide_eq_true rfl) (edge hED 15 (by kernel_rfl)) rfl) ?_
              have f : aT b 60 = .pointer (some ⟨b0, off + kq * 7, none⟩) := hI.got 20 (of_decide_eq_true rfl) (edge hED 20 (by kernel_rfl)) rfl
              obtain ⟨h0, h1, h2, h3, h4, _, _⟩ := HCE4.out W hI.bel
              exact opw_load1 96 60 rfl _ f _ (by simp [Instr.loadAt, go_sem, h0, h1, h2, h3, h4]) (hKQ.out _ _ (hI.put 21 61 rfl rfl (by rw [hz]; decide) rfl hUN rfl HBB (sa2_stb b0 off n c kq an nn cn y s x act w.heap.size (wr.heap.size)) (Below.refl _ _) rfl))
            · intro lQ b W hI hUN hED KQ hKQ
              refine rk_take 15 true 55 rfl rfl (hI.got 15 (of_decide_eq_true rfl) (edge hED 15 (by kernel_rfl)) rfl) ?_
              have f0 := hI.got 16 (of_decide_eq_true rfl) (edge hED 16 (by kernel_rfl)) rfl
              replace f0 : aT b 56 = .agg #[.int .i64 x.ser, .slice s.a1 s.n1 s.c1, .slice s.a2 s.n2 s.c2, .int .i64 x.frm, .int .i64 x.til, .int .i64 x.key.1, .int .u64 x.key.2.1, .int .i64 x.key.2.2, .bool x.ca, .int .i64 x.room, .int .i64 x.uses, .slice s.a3 s.n3 s.c3, .slice s.a4 s.n4 s.c4, .slice s.a5 s.n5 s.c5, .slice s.a6 s.n6 s.c6, .slice s.a7 s.n7 s.c7, .int .i64 x.need, .int .i64 x.nomap, .int .i64 x.noany, .slice s.a8 s.n8 s.c8, .slice s.a9 s.n9 s.c9] := f0
              have f1 := hI.got 21 (of_decide_eq_true rfl) (edge hED 21 (by kernel_rfl)) rfl
              replace f1 : aT b 61 = .agg #[.int .i64 y.base.g.kind, .string y.base.g.text, .int .i64 y.base.g.addr, .int .i64 y.base.g.bits, .slice an nn cn] := f1
              refine opw_call 64 #[.tmp 56, .tmp 61] _ _ _ rfl Tryz.func64 (by kernel_rfl) rfl #[.agg #[.int .i64 x.ser, .slice s.a1 s.n1 s.c1, .slice s.a2 s.n2 s.c2, .int .i64 x.frm, .int .i64 x.til, .int .i64 x.key.1, .int .u64 x.key.2.1, .int .i64 x.key.2.2, .bool x.ca, .int .i64 x.room, .int .i64 x.uses, .slice s.a3 s.n3 s.c3, .slice s.a4 s.n4 s.c4, .slice s.a5 s.n5 s.c5, .slice s.a6 s.n6 s.c6, .slice s.a7 s.n7 s.c7, .int .i64 x.need, .int .i64 x.nomap, .int .i64 x.noany, .slice s.a8 s.n8 s.c8, .slice s.a9 s.n9 s.c9], .agg #[.int .i64 y.base.g.kind, .string y.base.g.text, .int .i64 y.base.g.addr, .int .i64 y.base.g.bits, .slice an nn cn]] (by simp [ev, f0, f1]) ?_
              refine (HNA.out W hI.bel).mono ?_
              rintro e W2 ⟨vb, rfl, hv, hb⟩
              exact ⟨_, rfl, hKQ.out _ _ (hI.put 22 62 rfl rfl (by rw [hz]; decide) rfl hUN rfl HBB (sa2_stb b0 off n c kq an nn cn y s x act w.heap.size (wr.heap.size)) hb ⟨vb, rfl, hv.out⟩)⟩
            · intro lQ b W hI hUN hED KQ hKQ
              refine rk_plain rfl ?_
              have fc : aT b 55 = .bool true := hI.got 15 (of_decide_eq_true rfl) (edge hED 15 (by kernel_rfl)) rfl
              have f := hI.got 22 (of_decide_eq_true rfl) (edge hED 22 (by kernel_rfl)) rfl
              obtain ⟨vb, f, o_0⟩ := f
              replace f : aT b 62 = .bool vb := f
              exact opw_pick_t 55 _ _ rfl fc _ f (hKQ.out _ _ (hI.put 23 63 rfl rfl (by rw [hz]; decide) rfl hUN rfl HBB (sa2_stb b0 off n c kq an nn cn y s x act w.heap.size (wr.heap.size)) (Below.refl _ _) ⟨vb, rfl, o_0⟩))
          · intro b W hf hb F
            obtain ⟨vb, e63, hv⟩ := F 23 (of_decide_eq_true rfl) rfl
            replace e63 : aT b 63 = .bool vb := e63
            rw [hf.eq]
            simp only [puts, Act.put, List.setIfInBounds_toArray, List.set_cons_zero, List.set_cons_succ, e63]
            clear hf F e63
            generalize aT b = AT
            clear b
            obtain ⟨w7, hw7⟩ : ∃ w7, w7 = W := ⟨_, rfl⟩
            subst hw7
            have b7 : Below wq.heap.size wq w7 := hbm.trans (hb.mono hbm.size)
            have B7 : Hid (Below w.heap.size w w7) := Bq.out.trans (b7.mono Bq.out.size)
            have HV : Hid (vb = true ↔ ∃ k, k < (allN x).length ∧ wn ((allN x).getD k default) y.base) := hv
            clear hv hb
            rcases vb with _ | _
            · have HN2 : Hid (∀ j, j < kq + 1 → ¬ spkR (allN x) (allN x).length act (rules.getD j default)) := fun j hj => by
                by_cases e : j < kq
                · exact HN.out j e
                · obtain rfl : j = kq := by omega
                  rw [← HY.out]; exact fun z => by have := HV.out.2 z.2; cases this
              go_wp2
              go_roundw
              case rel => exact ⟨kq + 1, by omega, by go_num, HN2, b7⟩
              case measure => simp [intOf]; omega
            · have HSP : Hid (spkR (allN x) (allN x).length act (rules.getD kq default)) := by rw [← HY.out]; exact ⟨HAC.out, HV.out.1 rfl⟩
              have u6 : w7.cell? ⟨b0, off + kq * 7 + 6, none⟩ = some (.bool y.yes) := (HCW.out w7 B7.out).c6
              have HIF : Hid (y.yes = true ↔ alP rules n act x) := by
                constructor
                · intro e
                  exact ⟨HCE.out, hn20, HA1.out, HBS.out, kq, hkn, HSP.out, HN.out, by rw [← HY.out]; exact e⟩
                · intro q
                  obtain ⟨j, hj, hs, hb, hyj⟩ := q.2.2.2.2
                  have : j = kq := by
                    rcases Nat.lt_trichotomy j kq with z | z | z
                    · exact absurd hs (HN.out j z)
                    · exact z
                    · exact absurd HSP.out (hb kq z)
                  rw [this, ← HY.out] at hyj
                  exact hyj
              go_wp2
              go_ret
              exact ⟨y.yes, rfl, HIF, B7.out⟩
        · have z0 : (y.act == 0) = false := HC0.out
          have z1 : (y.act == act) = false := by simp [ha1]
          have HN2 : Hid (∀ j, j < kq + 1 → ¬ spkR (allN x) (allN x).length act (rules.getD j default)) := fun j hj => by
            by_cases e : j < kq
            · exact HN.out j e
            · obtain rfl : j = kq := by omega
              rw [← HY.out]; exact fun z => by rcases z.1 with z | z; exact ha0 z; exact ha1 z
          have u5 : wr.cell? ⟨b0, off + kq * 7 + 5, none⟩ = some (.int .i64 y.act) := (HCW.out wr Bm.out).c5
          clear ha0 ha1
          go_wp2_with fail
          go_quiet (fail)
          go_wp2
          go_roundw
          case rel => exact ⟨kq + 1, by omega, by go_num, HN2, ceDrewF hbm _⟩
          case measure => simp [intOf]; omega

end Go.Proofs.YtkpabanjlhlmfaaGreatDoor

set_option linter.unusedVariables false
namespace Go.Proofs.YtkpabanjlhlmfaaGreatDoor
open Go.RowKit

theorem infoSize9 : (Tryz.prog.info? 45).map (·.size) = some 21 := by kernel_rfl
theorem infoSizeL9 : (Tryz.prog.info? 34).map (·.size) = some 21 := by kernel_rfl
theorem opw_not {P : Program} {Q : Exit → Act → World → Prop} {o : Oper} {a : Act} {w : World} {K : Act → World → Prop} (t x : Nat) (ho : o.op = .unOp .not t (.tmp x)) (p : Bool) (hx : aT a x = .bool p) (h : K (a.put o.dst (.bool (!p))) w) : o.wp P a w K Q := by
  refine opw_value (.bool (!p)) ?_ h
  have hx' : a.eval (.tmp x) = .bool p := hx
  unfold execOp
  simp only [ho, hx']
  simp [go_sem]
/-- What is known of a region (RJ). -/
def la8 (a1 : Option Addr) (n1 c1 : Nat) (rules : List AR) (s : CES) (x : CE) (act : Int) (G B : Nat) : RSpec where
  m := 7
  n := 8
  slots := [22, 23, 24, 25, 26, 27, 8, 100007]
  kills := [[], [], [], [], [], [], [], []]
  pres := [[], [], [], [], [], [], [], []]
  fact := fun k v w => match k with
    | 0 => v = .slice a1 n1 c1
    | 1 => ∃ u1, v = .slice u1 n1 n1 ∧ ARs w u1 n1 rules
    | 2 => v = .agg #[.int .i64 x.ser, .slice s.a1 s.n1 s.c1, .slice s.a2 s.n2 s.c2, .int .i64 x.frm, .int .i64 x.til, .int .i64 x.key.1, .int .u64 x.key.2.1, .int .i64 x.key.2.2, .bool x.ca, .int .i64 x.room, .int .i64 x.uses, .slice s.a3 s.n3 s.c3, .slice s.a4 s.n4 s.c4, .slice s.a5 s.n5 s.c5, .slice s.a6 s.n6 s.c6, .slice s.a7 s.n7 s.c7, .int .i64 x.need, .int .i64 x.nomap, .int .i64 x.noany, .slice s.a8 s.n8 s.c8, .slice s.a9 s.n9 s.c9]
    | 3 => ∃ (u : CES), v = CEv u x ∧ CER w u x ∧ CET u
    | 4 => v = .int .i64 act
    | 5 => ∃ (vb : Bool), v = .bool vb ∧ (vb = true ↔ alP rules n1 act x)
    | 6 => ∃ (vb : Bool), v = .bool vb ∧ (vb = true ↔ alP rules n1 act x)
    | _ => w.heap[G]? = some (.cells #[.int .i64 x.ser, .slice s.a1 s.n1 s.c1, .slice s.a2 s.n2 s.c2, .int .i64 x.frm, .int .i64 x.til, .int .i64 x.key.1, .int .u64 x.key.2.1, .int .i64 x.key.2.2, .bool x.ca, .int .i64 x.room, .int .i64 x.uses, .slice s.a3 s.n3 s.c3, .slice s.a4 s.n4 s.c4, .slice s.a5 s.n5 s.c5, .slice s.a6 s.n6 s.c6, .slice s.a7 s.n7 s.c7, .int .i64 x.need, .int .i64 x.nomap, .int .i64 x.noany, .slice s.a8 s.n8 s.c8, .slice s.a9 s.n9 s.c9] 34 (0, 0))
set_option linter.unusedVariables false in
theorem la8_stb (a1 : Option Addr) (n1 c1 : Nat) (rules : List AR) (s : CES) (x : CE) (act : Int) (G B : Nat) (k : Nat) (hk : k < 8) : StB ((la8 a1 n1 c1 rules s x act G (B)).fact k) := by
  match k, hk with
  | 0, _ => exact fun _ _ _ h _ => h
  | 1, _ => exact fun _ _ _ ⟨u1, hv, q_0⟩ hb => ⟨u1, hv, q_0.kept hb⟩
  | 2, _ => exact fun _ _ _ h _ => h
  | 3, _ => exact fun _ _ _ ⟨u, hv, q_0, q_1⟩ hb => ⟨u, hv, q_0.kept hb, q_1⟩
  | 4, _ => exact fun _ _ _ h _ => h
  | 5, _ => exact fun _ _ _ ⟨vb, hv, q_0⟩ hb => ⟨vb, hv, q_0⟩
  | 6, _ => exact fun _ _ _ ⟨vb, hv, q_0⟩ hb => ⟨vb, hv, q_0⟩
  | 7, _ => exact fun _ _ _ q_0 hb => below_kept q_0 hb
  | k + 8, hk => omega

/-- What is known of a region (RJ). -/
def la16 (s t : CES) (x : CE) (gx G B : Nat) : RSpec where
  m := 5
  n := 7
  slots := [44, 45, 46, 47, 48, 100005, 100006]
  kills := [[], [], [], [], [], [], []]
  pres := [[], [], [], [], [], [], []]
  fact := fun k v w => match k with
    | 0 => v = .agg #[.int .i64 x.ser, .slice t.a1 t.n1 t.c1, .slice t.a2 t.n2 t.c2, .int .i64 x.frm, .int .i64 x.til, .int .i64 x.key.1, .int .u64 x.key.2.1, .int .i64 x.key.2.2, .bool x.ca, .int .i64 x.room, .int .i64 x.uses, .slice t.a3 t.n3 t.c3, .slice t.a4 t.n4 t.c4, .slice t.a5 t.n5 t.c5, .slice t.a6 t.n6 t.c6, .slice t.a7 t.n7 t.c7, .int .i64 x.need, .int .i64 x.nomap, .int .i64 x.noany, .slice t.a8 t.n8 t.c8, .slice t.a9 t.n9 t.c9]
    | 1 => v = .agg #[.int .i64 x.ser, .slice s.a1 s.n1 s.c1, .slice s.a2 s.n2 s.c2, .int .i64 x.frm, .int .i64 x.til, .int .i64 x.key.1, .int .u64 x.key.2.1, .int .i64 x.key.2.2, .bool x.ca, .int .i64 x.room, .int .i64 x.uses, .slice s.a3 s.n3 s.c3, .slice s.a4 s.n4 s.c4, .slice s.a5 s.n5 s.c5, .slice s.a6 s.n6 s.c6, .slice s.a7 s.n7 s.c7, .int .i64 x.need, .int .i64 x.nomap, .int .i64 x.noany, .slice s.a8 s.n8 s.c8, .slice s.a9 s.n9 s.c9]
    | 2 => ∃ (u : CES), v = CEv u x ∧ CER w u x
    | 3 => v = .bool true
    | 4 => v = .bool false
    | 5 => w.heap[gx]? = some (.cells #[.int .i64 x.ser, .slice t.a1 t.n1 t.c1, .slice t.a2 t.n2 t.c2, .int .i64 x.frm, .int .i64 x.til, .int .i64 x.key.1, .int .u64 x.key.2.1, .int .i64 x.key.2.2, .bool x.ca, .int .i64 x.room, .int .i64 x.uses, .slice t.a3 t.n3 t.c3, .slice t.a4 t.n4 t.c4, .slice t.a5 t.n5 t.c5, .slice t.a6 t.n6 t.c6, .slice t.a7 t.n7 t.c7, .int .i64 x.need, .int .i64 x.nomap, .int .i64 x.noany, .slice t.a8 t.n8 t.c8, .slice t.a9 t.n9 t.c9] 45 (0, 0))
    | _ => w.heap[G]? = some (.cells #[.int .i64 x.ser, .slice s.a1 s.n1 s.c1, .slice s.a2 s.n2 s.c2, .int .i64 x.frm, .int .i64 x.til, .int .i64 x.key.1, .int .u64 x.key.2.1, .int .i64 x.key.2.2, .bool x.ca, .int .i64 x.room, .int .i64 x.uses, .slice s.a3 s.n3 s.c3, .slice s.a4 s.n4 s.c4, .slice s.a5 s.n5 s.c5, .slice s.a6 s.n6 s.c6, .slice s.a7 s.n7 s.c7, .int .i64 x.need, .int .i64 x.nomap, .int .i64 x.noany, .slice s.a8 s.n8 s.c8, .slice s.a9 s.n9 s.c9] 34 (0, 0))
set_option linter.unusedVariables false in
theorem la16_stb (s t : CES) (x : CE) (gx G B : Nat) (k : Nat) (hk : k < 7) : StB ((la16 s t x gx G (B)).fact k) := by
  match k, hk with
  | 0, _ => exact fun _ _ _ h _ => h
  | 1, _ => exact fun _ _ _ h _ => h
  | 2, _ => exact fun _ _ _ ⟨u, hv, q_0⟩ hb => ⟨u, hv, q_0.kept hb⟩
  | 3, _ => exact fun _ _ _ h _ => h
  | 4, _ => exact fun _ _ _ h _ => h
  | 5, _ => exact fun _ _ _ q_0 hb => below_kept q_0 hb
  | 6, _ => exact fun _ _ _ q_0 hb => below_kept q_0 hb
  | k + 7, hk => omega

set_option maxRecDepth 10000 in
set_option maxHeartbeats 4000000 in
theorem lawAllowed_walk (a1 : Option Addr) (n1 c1 : Nat) (rules : List AR) (s : CES) (x : CE) (act : Int) (w : World) (hm : MaxW w) (hu : U64 x.key.2.1) (h1 : ARs w a1 n1 rules) (h : CER w s x) :
    Calls Tryz.prog 5 #[.slice a1 n1 c1, CEv s x, .int .i64 act] w fun e w' => e = .returned (.bool true) ∧ Below w.heap.size w w' := by
  have HK : Hid (CER w s x) := h
  have HM : Hid (∀ W, Below w.heap.size w W → MaxW W) := fun W hW => hm.kept hW
  have HU : Hid (U64 x.key.2.1) := hu
  have G1 : Hid (ARs w a1 n1 rules) := h1
  clear h hm hu h1
  show Calls Tryz.prog 5 #[.slice a1 n1 c1, .agg #[.int .i64 x.ser, .slice s.a1 s.n1 s.c1, .slice s.a2 s.n2 s.c2, .int .i64 x.frm, .int .i64 x.til, .int .i64 x.key.1, .int .u64 x.key.2.1, .int .i64 x.key.2.2, .bool x.ca, .int .i64 x.room, .int .i64 x.uses, .slice s.a3 s.n3 s.c3, .slice s.a4 s.n4 s.c4, .slice s.a5 s.n5 s.c5, .slice s.a6 s.n6 s.c6, .slice s.a7 s.n7 s.c7, .int .i64 x.need, .int .i64 x.nomap, .int .i64 x.noany, .slice s.a8 s.n8 s.c8, .slice s.a9 s.n9 s.c9], .int .i64 act] w _
  obtain ⟨w0, hw0⟩ : ∃ w0, w0 = w.alloc (.cells #[.int .i64 x.ser, .slice s.a1 s.n1 s.c1, .slice s.a2 s.n2 s.c2, .int .i64 x.frm, .int .i64 x.til, .int .i64 x.key.1, .int .u64 x.key.2.1, .int .i64 x.key.2.2, .bool x.ca, .int .i64 x.room, .int .i64 x.uses, .slice s.a3 s.n3 s.c3, .slice s.a4 s.n4 s.c4, .slice s.a5 s.n5 s.c5, .slice s.a6 s.n6 s.c6, .slice s.a7 s.n7 s.c7, .int .i64 x.need, .int .i64 x.nomap, .int .i64 x.noany, .slice s.a8 s.n8 s.c8, .slice s.a9 s.n9 s.c9] 34) := ⟨_, rfl⟩
  have B0 : Hid (Below w.heap.size w w0) := by show Below _ _ _; rw [hw0]; exact (Below.refl _ _).alloc (Nat.le_refl _) _
  have L0 : Hid (w0.heap[w.heap.size]? = some (.cells #[.int .i64 x.ser, .slice s.a1 s.n1 s.c1, .slice s.a2 s.n2 s.c2, .int .i64 x.frm, .int .i64 x.til, .int .i64 x.key.1, .int .u64 x.key.2.1, .int .i64 x.key.2.2, .bool x.ca, .int .i64 x.room, .int .i64 x.uses, .slice s.a3 s.n3 s.c3, .slice s.a4 s.n4 s.c4, .slice s.a5 s.n5 s.c5, .slice s.a6 s.n6 s.c6, .slice s.a7 s.n7 s.c7, .int .i64 x.need, .int .i64 x.nomap, .int .i64 x.noany, .slice s.a8 s.n8 s.c8, .slice s.a9 s.n9 s.c9] 34 (0, 0))) := by show _ = _; rw [hw0]; exact heap_alloc_new w _
  go_enter Tryz.func5, Tryz.ntmps5
  go_upto_region 1 with fail
  rw [← hw0]
  clear hw0
  go_wp2_with fail
  refine (szAllowRuleS_k a1 n1 c1 rules 1048576 _ (G1.out.kept B0.out) (by decide) (by decide)).mono ?_
  rintro e w2 ⟨r2, rfl, hr, hb⟩
  have B2 : Hid (Below w.heap.size w w2) := B0.out.trans (hb.mono B0.out.size)
  have L2 : Hid (w2.heap[w.heap.size]? = some (.cells #[.int .i64 x.ser, .slice s.a1 s.n1 s.c1, .slice s.a2 s.n2 s.c2, .int .i64 x.frm, .int .i64 x.til, .int .i64 x.key.1, .int .u64 x.key.2.1, .int .i64 x.key.2.2, .bool x.ca, .int .i64 x.room, .int .i64 x.uses, .slice s.a3 s.n3 s.c3, .slice s.a4 s.n4 s.c4, .slice s.a5 s.n5 s.c5, .slice s.a6 s.n6 s.c6, .slice s.a7 s.n7 s.c7, .int .i64 x.need, .int .i64 x.nomap, .int .i64 x.noany, .slice s.a8 s.n8 s.c8, .slice s.a9 s.n9 s.c9] 34 (0, 0))) := (hb.block _ (Array.getElem?_eq_some_iff.1 L0.out).1).trans L0.out
  clear hb B0 L0
  by_cases hneg2 : r2 < 0
  · clear hr
    go_wp2
    go_ret
    exact ⟨rfl, B2.out⟩
  have h2 : 0 ≤ r2 ∧ r2 ≤ 1048576 := by omega
  have HR1 : Hid (n1 ≤ 1048576 ∧ ∀ k, k < n1 → ARZ (rules.getD k default)) := by rcases hr with h | h; exact absurd h hneg2; exact h.2.2
  clear hr
  have HSZ : Hid (∀ W, Below w.heap.size w W → Calls Tryz.prog 6 #[.agg #[.int .i64 x.ser, .slice s.a1 s.n1 s.c1, .slice s.a2 s.n2 s.c2, .int .i64 x.frm, .int .i64 x.til, .int .i64 x.key.1, .int .u64 x.key.2.1, .int .i64 x.key.2.2, .bool x.ca, .int .i64 x.room, .int .i64 x.uses, .slice s.a3 s.n3 s.c3, .slice s.a4 s.n4 s.c4, .slice s.a5 s.n5 s.c5, .slice s.a6 s.n6 s.c6, .slice s.a7 s.n7 s.c7, .int .i64 x.need, .int .i64 x.nomap, .int .i64 x.noany, .slice s.a8 s.n8 s.c8, .slice s.a9 s.n9 s.c9], .int .i64 r2] W fun e w' => ∃ r, e = .returned (.int .i64 r) ∧ (r < 0 ∨ (0 ≤ r ∧ r ≤ 1048576 ∧ CEZ x)) ∧ Below W.heap.size W w') := fun W hW => szCert_k s x r2 W (HK.out.kept hW) h2.1 h2.2
  go_wp2_with (first | (refine wpList_load_row rfl 34 _ rfl w.heap.size rfl 34 #[.int .i64 x.ser, .slice s.a1 s.n1 s.c1, .slice s.a2 s.n2 s.c2, .int .i64 x.frm, .int .i64 x.til, .int .i64 x.key.1, .int .u64 x.key.2.1, .int .i64 x.key.2.2, .bool x.ca, .int .i64 x.room, .int .i64 x.uses, .slice s.a3 s.n3 s.c3, .slice s.a4 s.n4 s.c4, .slice s.a5 s.n5 s.c5, .slice s.a6 s.n6 s.c6, .slice s.a7 s.n7 s.c7, .int .i64 x.need, .int .i64 x.nomap, .int .i64 x.noany, .slice s.a8 s.n8 s.c8, .slice s.a9 s.n9 s.c9] (0, 0) _ L2.out Tryz.underlying34 rfl infoSizeL9 ?_) | fail)
  refine (HSZ.out _ B2.out).mono ?_
  rintro e w3 ⟨r3, rfl, hr, hb⟩
  have B3 : Hid (Below w.heap.size w w3) := B2.out.trans (hb.mono B2.out.size)
  have L3 : Hid (w3.heap[w.heap.size]? = some (.cells #[.int .i64 x.ser, .slice s.a1 s.n1 s.c1, .slice s.a2 s.n2 s.c2, .int .i64 x.frm, .int .i64 x.til, .int .i64 x.key.1, .int .u64 x.key.2.1, .int .i64 x.key.2.2, .bool x.ca, .int .i64 x.room, .int .i64 x.uses, .slice s.a3 s.n3 s.c3, .slice s.a4 s.n4 s.c4, .slice s.a5 s.n5 s.c5, .slice s.a6 s.n6 s.c6, .slice s.a7 s.n7 s.c7, .int .i64 x.need, .int .i64 x.nomap, .int .i64 x.noany, .slice s.a8 s.n8 s.c8, .slice s.a9 s.n9 s.c9] 34 (0, 0))) := (hb.block _ (Array.getElem?_eq_some_iff.1 L2.out).1).trans L2.out
  clear hb B2 L2 HSZ
  by_cases hneg3 : r3 < 0
  · clear hr
    go_wp2
    go_ret
    exact ⟨rfl, B3.out⟩
  have HZ : Hid (CEZ x) := by rcases hr with h | h; exact absurd h hneg3; exact h.2.2
  clear hr
  have HTO : Hid (∀ W, Below w.heap.size w W → Calls Tryz.prog 8 #[.agg #[.int .i64 x.ser, .slice s.a1 s.n1 s.c1, .slice s.a2 s.n2 s.c2, .int .i64 x.frm, .int .i64 x.til, .int .i64 x.key.1, .int .u64 x.key.2.1, .int .i64 x.key.2.2, .bool x.ca, .int .i64 x.room, .int .i64 x.uses, .slice s.a3 s.n3 s.c3, .slice s.a4 s.n4 s.c4, .slice s.a5 s.n5 s.c5, .slice s.a6 s.n6 s.c6, .slice s.a7 s.n7 s.c7, .int .i64 x.need, .int .i64 x.nomap, .int .i64 x.noany, .slice s.a8 s.n8 s.c8, .slice s.a9 s.n9 s.c9]] W fun e w' => ∃ t : CES, e = .returned (CEv t x) ∧ CET t ∧ CER w' t x ∧ Below W.heap.size W w') := fun W hW => (toCert_k s x W (HK.out.kept hW) HZ.out).mono fun e w' ⟨t, h1, h2, h3, h4⟩ => ⟨t, h1, h2, h3.now, h4⟩
  have HG1 : Hid (∀ W, Below w.heap.size w W → Calls Tryz.prog 18 #[.slice a1 n1 c1] W fun e w' => ∃ u, e = .returned (.slice u n1 n1) ∧ ARs w' u n1 rules ∧ Below W.heap.size W w') := fun W hW => (toAllowRuleS_k a1 n1 c1 rules W (G1.out.kept hW) HR1.out.1 HR1.out.2).mono fun e w' ⟨t, h1, h2, h3⟩ => ⟨t, h1, h2.now, h3⟩
  have HT1 : Hid (∀ W, Below w3.heap.size w3 W → Calls Tryz.prog 18 #[.slice a1 n1 c1] W fun e w' => ∃ u, e = .returned (.slice u n1 n1) ∧ ARs w' u n1 rules ∧ Below W.heap.size W w') := fun W hW => HG1.out W (B3.out.trans (hW.mono B3.out.size))
  have HT3 : Hid (∀ W, Below w3.heap.size w3 W → Calls Tryz.prog 8 #[.agg #[.int .i64 x.ser, .slice s.a1 s.n1 s.c1, .slice s.a2 s.n2 s.c2, .int .i64 x.frm, .int .i64 x.til, .int .i64 x.key.1, .int .u64 x.key.2.1, .int .i64 x.key.2.2, .bool x.ca, .int .i64 x.room, .int .i64 x.uses, .slice s.a3 s.n3 s.c3, .slice s.a4 s.n4 s.c4, .slice s.a5 s.n5 s.c5, .slice s.a6 s.n6 s.c6, .slice s.a7 s.n7 s.c7, .int .i64 x.need, .int .i64 x.nomap, .int .i64 x.noany, .slice s.a8 s.n8 s.c8, .slice s.a9 s.n9 s.c9]] W fun e w' => ∃ u : CES, e = .returned (CEv u x) ∧ CET u ∧ CER w' u x ∧ Below W.heap.size W w') := fun W hW => HTO.out W (B3.out.trans (hW.mono B3.out.size))
  have HSP : Hid (∀ W (u1 : Option Addr) (u : CES), ARs W u1 n1 rules → CER W u x → CET u → Calls Tryz.prog 17 #[.slice u1 n1 n1, CEv u x, .int .i64 act] W (SaysB (alP rules n1 act x) W)) := fun W u1 u h1 h3 h4 => specAllowed_any u1 n1 n1 rules u x act W h1 HR1.out.2 h3 HZ.out h4 HU.out
  have HBB : w3.heap.size ≤ w3.heap.size := Nat.le_refl _
  go_upto_region 8 with fail
  refine wp_region_ri (la8 a1 n1 c1 rules s x act w.heap.size (w3.heap.size)) [8, 22, 23, 24, 25, 26, 27] (w3.heap.size) (fun a0 => a0.tmps.size = 49 ∧ aT a0 0 = .slice a1 n1 c1 ∧ aT a0 2 = .int .i64 act ∧ aT a0 4 = .pointer (some ⟨w.heap.size, 0, none⟩)) (by kernel_rfl) rfl (by kernel_rfl) rfl ⟨rfl, rfl, rfl, rfl⟩ (la8_stb a1 n1 c1 rules s x act w.heap.size (w3.heap.size)) ?_ ?_ ?_
  · intro k hk hk2
    match k, hk, hk2 with
    | 7, _, _ => exact L3.out
    | 0, hk, _ => exact absurd hk (by show ¬ (7 ≤ 0); omega)
    | 1, hk, _ => exact absurd hk (by show ¬ (7 ≤ 1); omega)
    | 2, hk, _ => exact absurd hk (by show ¬ (7 ≤ 2); omega)
    | 3, hk, _ => exact absurd hk (by show ¬ (7 ≤ 3); omega)
    | 4, hk, _ => exact absurd hk (by show ¬ (7 ≤ 4); omega)
    | 5, hk, _ => exact absurd hk (by show ¬ (7 ≤ 5); omega)
    | 6, hk, _ => exact absurd hk (by show ¬ (7 ≤ 6); omega)
    | k + 8, _, hk2 => exact absurd hk2 (by show ¬ (k + 8 < 8); omega)
  · rintro a0 ⟨hz, g0, g2, g4⟩
    refine StepsRI.cons ?_ (StepsRI.cons ?_ (StepsRI.cons ?_ (StepsRI.cons ?_ (StepsRI.cons ?_ (StepsRI.cons ?_ (StepsRI.cons ?_ (StepsRI.nil)))))))
    · intro lQ b W hI hUN hED KQ hKQ
      exact opw_move 0 rfl (hKQ.out _ _ (hI.put 0 22 rfl rfl (by rw [hz]; decide) rfl hUN rfl HBB (la8_stb a1 n1 c1 rules s x act w.heap.size (w3.heap.size)) (Below.refl _ _) ((hI.fr.same 0 (by decide)).trans g0)))
    · intro lQ b W hI hUN hED KQ hKQ
      have f0 := hI.got 0 (of_decide_eq_true rfl) (edge hED 0 (by kernel_rfl)) rfl
      replace f0 : aT b 22 = .slice a1 n1 c1 := f0
      refine opw_call 18 #[.tmp 22] _ _ _ rfl Tryz.func18 (by kernel_rfl) rfl #[.slice a1 n1 c1] (by simp [ev, f0]) ?_
      refine (HT1.out W hI.bel).mono ?_
      rintro e W2 ⟨u1, rfl, hk, hb⟩
      exact ⟨_, rfl, hKQ.out _ _ (hI.put 1 23 rfl rfl (by rw [hz]; decide) rfl hUN rfl HBB (la8_stb a1 n1 c1 rules s x act w.heap.size (w3.heap.size)) hb ⟨u1, rfl, hk⟩)⟩
    · intro lQ b W hI hUN hED KQ hKQ
      have hg := (hI.vot 7 (of_decide_eq_true rfl) (of_decide_eq_true rfl) rfl)
      refine wp_load_row 34 _ rfl (w.heap.size) ((hI.fr.same 4 (by decide)).trans g4) 34 #[.int .i64 x.ser, .slice s.a1 s.n1 s.c1, .slice s.a2 s.n2 s.c2, .int .i64 x.frm, .int .i64 x.til, .int .i64 x.key.1, .int .u64 x.key.2.1, .int .i64 x.key.2.2, .bool x.ca, .int .i64 x.room, .int .i64 x.uses, .slice s.a3 s.n3 s.c3, .slice s.a4 s.n4 s.c4, .slice s.a5 s.n5 s.c5, .slice s.a6 s.n6 s.c6, .slice s.a7 s.n7 s.c7, .int .i64 x.need, .int .i64 x.nomap, .int .i64 x.noany, .slice s.a8 s.n8 s.c8, .slice s.a9 s.n9 s.c9] (0, 0) _ hg Tryz.underlying34 rfl (by kernel_rfl) ?_
      exact hKQ.out _ _ (hI.put 2 24 rfl rfl (by rw [hz]; decide) rfl hUN rfl HBB (la8_stb a1 n1 c1 rules s x act w.heap.size (w3.heap.size)) (Below.refl _ _) rfl)
    · intro lQ b W hI hUN hED KQ hKQ
      have f0 := hI.got 2 (of_decide_eq_true rfl) (edge hED 2 (by kernel_rfl)) rfl
      replace f0 : aT b 24 = .agg #[.int .i64 x.ser, .slice s.a1 s.n1 s.c1, .slice s.a2 s.n2 s.c2, .int .i64 x.frm, .int .i64 x.til, .int .i64 x.key.1, .int .u64 x.key.2.1, .int .i64 x.key.2.2, .bool x.ca, .int .i64 x.room, .int .i64 x.uses, .slice s.a3 s.n3 s.c3, .slice s.a4 s.n4 s.c4, .slice s.a5 s.n5 s.c5, .slice s.a6 s.n6 s.c6, .slice s.a7 s.n7 s.c7, .int .i64 x.need, .int .i64 x.nomap, .int .i64 x.noany, .slice s.a8 s.n8 s.c8, .slice s.a9 s.n9 s.c9] := f0
      refine opw_call 8 #[.tmp 24] _ _ _ rfl Tryz.func8 (by kernel_rfl) rfl #[.agg #[.int .i64 x.ser, .slice s.a1 s.n1 s.c1, .slice s.a2 s.n2 s.c2, .int .i64 x.frm, .int .i64 x.til, .int .i64 x.key.1, .int .u64 x.key.2.1, .int .i64 x.key.2.2, .bool x.ca, .int .i64 x.room, .int .i64 x.uses, .slice s.a3 s.n3 s.c3, .slice s.a4 s.n4 s.c4, .slice s.a5 s.n5 s.c5, .slice s.a6 s.n6 s.c6, .slice s.a7 s.n7 s.c7, .int .i64 x.need, .int .i64 x.nomap, .int .i64 x.noany, .slice s.a8 s.n8 s.c8, .slice s.a9 s.n9 s.c9]] (by simp [ev, f0]) ?_
      refine (HT3.out W hI.bel).mono ?_
      rintro e W2 ⟨u, rfl, ht, hk, hb⟩
      exact ⟨_, rfl, hKQ.out _ _ (hI.put 3 25 rfl rfl (by rw [hz]; decide) rfl hUN rfl HBB (la8_stb a1 n1 c1 rules s x act w.heap.size (w3.heap.size)) hb ⟨u, rfl, hk, ht⟩)⟩
    · intro lQ b W hI hUN hED KQ hKQ
      exact opw_move 2 rfl (hKQ.out _ _ (hI.put 4 26 rfl rfl (by rw [hz]; decide) rfl hUN rfl HBB (la8_stb a1 n1 c1 rules s x act w.heap.size (w3.heap.size)) (Below.refl _ _) ((hI.fr.same 2 (by decide)).trans g2)))
    · intro lQ b W hI hUN hED KQ hKQ
      have f0 := hI.got 1 (of_decide_eq_true rfl) (edge hED 1 (by kernel_rfl)) rfl
      obtain ⟨u1, f0, o0_0⟩ := f0
      replace f0 : aT b 23 = .slice u1 n1 n1 := f0
      have f1 := hI.got 3 (of_decide_eq_true rfl) (edge hED 3 (by kernel_rfl)) rfl
      obtain ⟨u, f1, o1_0, o1_1⟩ := f1
      replace f1 : aT b 25 = CEv u x := f1
      have f2 := hI.got 4 (of_decide_eq_true rfl) (edge hED 4 (by kernel_rfl)) rfl
      replace f2 : aT b 26 = .int .i64 act := f2
      refine opw_call 17 #[.tmp 23, .tmp 25, .tmp 26] _ _ _ rfl Tryz.func17 (by kernel_rfl) rfl #[.slice u1 n1 n1, CEv u x, .int .i64 act] (by simp [ev, f0, f1, f2]) ?_
      refine (HSP.out W u1 u o0_0 o1_0 o1_1).mono ?_
      rintro e W2 ⟨vb, rfl, hv, hb⟩
      exact ⟨_, rfl, hKQ.out _ _ (hI.put 5 27 rfl rfl (by rw [hz]; decide) rfl hUN rfl HBB (la8_stb a1 n1 c1 rules s x act w.heap.size (w3.heap.size)) hb ⟨vb, rfl, hv.out⟩)⟩
    · intro lQ b W hI hUN hED KQ hKQ
      have f := hI.got 5 (of_decide_eq_true rfl) (edge hED 5 (by kernel_rfl)) rfl
      exact opw_assign 27 rfl (hKQ.out _ _ (hI.put 6 8 rfl rfl (by rw [hz]; decide) rfl hUN rfl HBB (la8_stb a1 n1 c1 rules s x act w.heap.size (w3.heap.size)) (Below.refl _ _) f))
  · intro b W hf hb F
    obtain ⟨v, e8, hv0⟩ := F 6 (of_decide_eq_true rfl) rfl
    replace e8 : aT b 8 = _ := e8
    rw [hf.eq]
    simp only [puts, Act.put, List.setIfInBounds_toArray, List.set_cons_zero, List.set_cons_succ, e8]
    clear hf F e8
    generalize aT b = AT
    clear b
    obtain ⟨w4, hw4⟩ : ∃ w4, w4 = W := ⟨_, rfl⟩
    subst hw4
    have B4 : Hid (Below w.heap.size w w4) := B3.out.trans (hb.mono B3.out.size)
    have L4 : Hid (w4.heap[w.heap.size]? = some (.cells #[.int .i64 x.ser, .slice s.a1 s.n1 s.c1, .slice s.a2 s.n2 s.c2, .int .i64 x.frm, .int .i64 x.til, .int .i64 x.key.1, .int .u64 x.key.2.1, .int .i64 x.key.2.2, .bool x.ca, .int .i64 x.room, .int .i64 x.uses, .slice s.a3 s.n3 s.c3, .slice s.a4 s.n4 s.c4, .slice s.a5 s.n5 s.c5, .slice s.a6 s.n6 s.c6, .slice s.a7 s.n7 s.c7, .int .i64 x.need, .int .i64 x.nomap, .int .i64 x.noany, .slice s.a8 s.n8 s.c8, .slice s.a9 s.n9 s.c9] 34 (0, 0))) := (hb.block _ (Array.getElem?_eq_some_iff.1 L3.out).1).trans L3.out
    have hvS : Hid (v = true ↔ alP rules n1 act x) := hv0
    clear hb hv0 B3 L3 HBB
    clear HT1 HT3 HSP
    go_wp2_with fail
    refine (HG1.out _ B4.out).mono ?_
    rintro e wb ⟨x1, rfl, hka, hba⟩
    have Bb : Hid (Below w.heap.size w wb) := B4.out.trans (hba.mono B4.out.size)
    have Lb : Hid (wb.heap[w.heap.size]? = some (.cells #[.int .i64 x.ser, .slice s.a1 s.n1 s.c1, .slice s.a2 s.n2 s.c2, .int .i64 x.frm, .int .i64 x.til, .int .i64 x.key.1, .int .u64 x.key.2.1, .int .i64 x.key.2.2, .bool x.ca, .int .i64 x.room, .int .i64 x.uses, .slice s.a3 s.n3 s.c3, .slice s.a4 s.n4 s.c4, .slice s.a5 s.n5 s.c5, .slice s.a6 s.n6 s.c6, .slice s.a7 s.n7 s.c7, .int .i64 x.need, .int .i64 x.nomap, .int .i64 x.noany, .slice s.a8 s.n8 s.c8, .slice s.a9 s.n9 s.c9] 34 (0, 0))) := (hba.block _ (Array.getElem?_eq_some_iff.1 L4.out).1).trans L4.out
    have Kb : Hid (ARs wb x1 n1 rules) := hka
    clear hka hba B4 L4
    go_wp2_with (first | (refine wpList_load_row rfl 34 _ rfl w.heap.size rfl 34 #[.int .i64 x.ser, .slice s.a1 s.n1 s.c1, .slice s.a2 s.n2 s.c2, .int .i64 x.frm, .int .i64 x.til, .int .i64 x.key.1, .int .u64 x.key.2.1, .int .i64 x.key.2.2, .bool x.ca, .int .i64 x.room, .int .i64 x.uses, .slice s.a3 s.n3 s.c3, .slice s.a4 s.n4 s.c4, .slice s.a5 s.n5 s.c5, .slice s.a6 s.n6 s.c6, .slice s.a7 s.n7 s.c7, .int .i64 x.need, .int .i64 x.nomap, .int .i64 x.noany, .slice s.a8 s.n8 s.c8, .slice s.a9 s.n9 s.c9] (0, 0) _ Lb.out Tryz.underlying34 rfl infoSizeL9 ?_) | fail)
    refine (HTO.out _ Bb.out).mono ?_
    rintro e wc ⟨t, rfl, ht, hkc, hbc⟩
    have Bc : Hid (Below w.heap.size w wc) := Bb.out.trans (hbc.mono Bb.out.size)
    have Lc : Hid (wc.heap[w.heap.size]? = some (.cells #[.int .i64 x.ser, .slice s.a1 s.n1 s.c1, .slice s.a2 s.n2 s.c2, .int .i64 x.frm, .int .i64 x.til, .int .i64 x.key.1, .int .u64 x.key.2.1, .int .i64 x.key.2.2, .bool x.ca, .int .i64 x.room, .int .i64 x.uses, .slice s.a3 s.n3 s.c3, .slice s.a4 s.n4 s.c4, .slice s.a5 s.n5 s.c5, .slice s.a6 s.n6 s.c6, .slice s.a7 s.n7 s.c7, .int .i64 x.need, .int .i64 x.nomap, .int .i64 x.noany, .slice s.a8 s.n8 s.c8, .slice s.a9 s.n9 s.c9] 34 (0, 0))) := (hbc.block _ (Array.getElem?_eq_some_iff.1 Lb.out).1).trans Lb.out
    have Kc : Hid (ARs wc x1 n1 rules) := Kb.out.kept hbc
    have hz4 : (wc.alloc (.cells #[.int .i64 0, .slice none 0 0, .slice none 0 0, .int .i64 0, .int .i64 0, .int .i64 0, .int .u64 0, .int .i64 0, .bool false, .int .i64 0, .int .i64 0, .slice none 0 0, .slice none 0 0, .slice none 0 0, .slice none 0 0, .slice none 0 0, .int .i64 0, .int .i64 0, .int .i64 0, .slice none 0 0, .slice none 0 0] 45)).heap[wc.heap.size]? = some (.cells #[.int .i64 0, .slice none 0 0, .slice none 0 0, .int .i64 0, .int .i64 0, .int .i64 0, .int .u64 0, .int .i64 0, .bool false, .int .i64 0, .int .i64 0, .slice none 0 0, .slice none 0 0, .slice none 0 0, .slice none 0 0, .slice none 0 0, .int .i64 0, .int .i64 0, .int .i64 0, .slice none 0 0, .slice none 0 0] 45 (0, 0)) := heap_alloc_new wc _
    have HZ4 : Hid (_ = _) := hz4
    obtain ⟨wd, hwd⟩ : ∃ wd, wd = (wc.alloc (.cells #[.int .i64 0, .slice none 0 0, .slice none 0 0, .int .i64 0, .int .i64 0, .int .i64 0, .int .u64 0, .int .i64 0, .bool false, .int .i64 0, .int .i64 0, .slice none 0 0, .slice none 0 0, .slice none 0 0, .slice none 0 0, .slice none 0 0, .int .i64 0, .int .i64 0, .int .i64 0, .slice none 0 0, .slice none 0 0] 45)).setRow wc.heap.size #[.int .i64 x.ser, .slice t.a1 t.n1 t.c1, .slice t.a2 t.n2 t.c2, .int .i64 x.frm, .int .i64 x.til, .int .i64 x.key.1, .int .u64 x.key.2.1, .int .i64 x.key.2.2, .bool x.ca, .int .i64 x.room, .int .i64 x.uses, .slice t.a3 t.n3 t.c3, .slice t.a4 t.n4 t.c4, .slice t.a5 t.n5 t.c5, .slice t.a6 t.n6 t.c6, .slice t.a7 t.n7 t.c7, .int .i64 x.need, .int .i64 x.nomap, .int .i64 x.noany, .slice t.a8 t.n8 t.c8, .slice t.a9 t.n9 t.c9] := ⟨_, rfl⟩
    have hbd : Below wc.heap.size wc wd := by rw [hwd]; exact below_setRow ((Below.refl _ _).alloc (Nat.le_refl _) _) (Nat.le_refl _) _
    have Xd : Hid (wd.heap[wc.heap.size]? = some (.cells #[.int .i64 x.ser, .slice t.a1 t.n1 t.c1, .slice t.a2 t.n2 t.c2, .int .i64 x.frm, .int .i64 x.til, .int .i64 x.key.1, .int .u64 x.key.2.1, .int .i64 x.key.2.2, .bool x.ca, .int .i64 x.room, .int .i64 x.uses, .slice t.a3 t.n3 t.c3, .slice t.a4 t.n4 t.c4, .slice t.a5 t.n5 t.c5, .slice t.a6 t.n6 t.c6, .slice t.a7 t.n7 t.c7, .int .i64 x.need, .int .i64 x.nomap, .int .i64 x.noany, .slice t.a8 t.n8 t.c8, .slice t.a9 t.n9 t.c9] 45 (0, 0))) := by show _ = _; rw [hwd]; exact setRow_heap _ _ _ _ _ _ hz4
    have Bd : Hid (Below w.heap.size w wd) := Bc.out.trans (hbd.mono Bc.out.size)
    have Ld : Hid (wd.heap[w.heap.size]? = some (.cells #[.int .i64 x.ser, .slice s.a1 s.n1 s.c1, .slice s.a2 s.n2 s.c2, .int .i64 x.frm, .int .i64 x.til, .int .i64 x.key.1, .int .u64 x.key.2.1, .int .i64 x.key.2.2, .bool x.ca, .int .i64 x.room, .int .i64 x.uses, .slice s.a3 s.n3 s.c3, .slice s.a4 s.n4 s.c4, .slice s.a5 s.n5 s.c5, .slice s.a6 s.n6 s.c6, .slice s.a7 s.n7 s.c7, .int .i64 x.need, .int .i64 x.nomap, .int .i64 x.noany, .slice s.a8 s.n8 s.c8, .slice s.a9 s.n9 s.c9] 34 (0, 0))) := (hbd.block _ (Array.getElem?_eq_some_iff.1 Lc.out).1).trans Lc.out
    have Kd : Hid (ARs wd x1 n1 rules) := Kc.out.kept hbd
    have Cd : Hid (CER wd t x) := hkc.kept hbd
    have I5 : Hid (Calls Tryz.prog 19 #[.slice x1 n1 n1, .agg #[.int .i64 x.ser, .slice t.a1 t.n1 t.c1, .slice t.a2 t.n2 t.c2, .int .i64 x.frm, .int .i64 x.til, .int .i64 x.key.1, .int .u64 x.key.2.1, .int .i64 x.key.2.2, .bool x.ca, .int .i64 x.room, .int .i64 x.uses, .slice t.a3 t.n3 t.c3, .slice t.a4 t.n4 t.c4, .slice t.a5 t.n5 t.c5, .slice t.a6 t.n6 t.c6, .slice t.a7 t.n7 t.c7, .int .i64 x.need, .int .i64 x.nomap, .int .i64 x.noany, .slice t.a8 t.n8 t.c8, .slice t.a9 t.n9 t.c9], .int .i64 act] wd (SaysB (alP rules n1 act x) wd)) := implAllowed_any x1 n1 n1 rules t x act wd (HM.out _ Bd.out) Kd.out HR1.out.2 Cd.out HZ.out ht HU.out
    have HWd : Hid (_ = _) := hwd
    clear hwd hbc hbd hkc hz4 Bb Lb Kb Bc Lc Kc
    go_upto_region 11 with (first | (refine wpList_store_rowTo rfl 45 _ _ rfl rfl wc.heap.size #[.int .i64 x.ser, .slice t.a1 t.n1 t.c1, .slice t.a2 t.n2 t.c2, .int .i64 x.frm, .int .i64 x.til, .int .i64 x.key.1, .int .u64 x.key.2.1, .int .i64 x.key.2.2, .bool x.ca, .int .i64 x.room, .int .i64 x.uses, .slice t.a3 t.n3 t.c3, .slice t.a4 t.n4 t.c4, .slice t.a5 t.n5 t.c5, .slice t.a6 t.n6 t.c6, .slice t.a7 t.n7 t.c7, .int .i64 x.need, .int .i64 x.nomap, .int .i64 x.noany, .slice t.a8 t.n8 t.c8, .slice t.a9 t.n9 t.c9] rfl rfl 45 #[.int .i64 0, .slice none 0 0, .slice none 0 0, .int .i64 0, .int .i64 0, .int .i64 0, .int .u64 0, .int .i64 0, .bool false, .int .i64 0, .int .i64 0, .slice none 0 0, .slice none 0 0, .slice none 0 0, .slice none 0 0, .slice none 0 0, .int .i64 0, .int .i64 0, .int .i64 0, .slice none 0 0, .slice none 0 0] HZ4.out infoSize9 rfl (by simp [Value.oneCell']) ?_) | fail)
    rw [← HWd.out]
    clear HWd
    go_wp2_with (first | (refine wpList_load_row rfl 45 _ rfl wc.heap.size rfl 45 #[.int .i64 x.ser, .slice t.a1 t.n1 t.c1, .slice t.a2 t.n2 t.c2, .int .i64 x.frm, .int .i64 x.til, .int .i64 x.key.1, .int .u64 x.key.2.1, .int .i64 x.key.2.2, .bool x.ca, .int .i64 x.room, .int .i64 x.uses, .slice t.a3 t.n3 t.c3, .slice t.a4 t.n4 t.c4, .slice t.a5 t.n5 t.c5, .slice t.a6 t.n6 t.c6, .slice t.a7 t.n7 t.c7, .int .i64 x.need, .int .i64 x.nomap, .int .i64 x.noany, .slice t.a8 t.n8 t.c8, .slice t.a9 t.n9 t.c9] (0, 0) _ Xd.out Tryz.underlying45 rfl infoSize9 ?_) | fail)
    refine I5.out.mono ?_
    rintro e we ⟨v6, rfl, hv6, hbe⟩
    have Be : Hid (Below w.heap.size w we) := Bd.out.trans (hbe.mono Bd.out.size)
    have Le : Hid (we.heap[w.heap.size]? = some (.cells #[.int .i64 x.ser, .slice s.a1 s.n1 s.c1, .slice s.a2 s.n2 s.c2, .int .i64 x.frm, .int .i64 x.til, .int .i64 x.key.1, .int .u64 x.key.2.1, .int .i64 x.key.2.2, .bool x.ca, .int .i64 x.room, .int .i64 x.uses, .slice s.a3 s.n3 s.c3, .slice s.a4 s.n4 s.c4, .slice s.a5 s.n5 s.c5, .slice s.a6 s.n6 s.c6, .slice s.a7 s.n7 s.c7, .int .i64 x.need, .int .i64 x.nomap, .int .i64 x.noany, .slice s.a8 s.n8 s.c8, .slice s.a9 s.n9 s.c9] 34 (0, 0))) := (hbe.block _ (Array.getElem?_eq_some_iff.1 Ld.out).1).trans Ld.out
    have Xe : Hid (we.heap[wc.heap.size]? = some (.cells #[.int .i64 x.ser, .slice t.a1 t.n1 t.c1, .slice t.a2 t.n2 t.c2, .int .i64 x.frm, .int .i64 x.til, .int .i64 x.key.1, .int .u64 x.key.2.1, .int .i64 x.key.2.2, .bool x.ca, .int .i64 x.room, .int .i64 x.uses, .slice t.a3 t.n3 t.c3, .slice t.a4 t.n4 t.c4, .slice t.a5 t.n5 t.c5, .slice t.a6 t.n6 t.c6, .slice t.a7 t.n7 t.c7, .int .i64 x.need, .int .i64 x.nomap, .int .i64 x.noany, .slice t.a8 t.n8 t.c8, .slice t.a9 t.n9 t.c9] 45 (0, 0))) := (hbe.block _ (Array.getElem?_eq_some_iff.1 Xd.out).1).trans Xd.out
    have Ke : Hid (ARs we x1 n1 rules) := Kd.out.kept hbe
    have Ce : Hid (CER we t x) := Cd.out.kept hbe
    obtain rfl : v6 = v := by
      have h2 := hv6.out.trans hvS.out.symm
      cases v6 <;> cases v <;> simp_all
    have tne : (v6 != v6) = false := by simp
    clear hbe hv6 hvS I5 Bd Ld Xd Kd Cd
    go_wp2_with fail
    refine (HG1.out _ Be.out).mono ?_
    rintro e wf ⟨y1, rfl, hkf, hbf⟩
    have Bf : Hid (Below w.heap.size w wf) := Be.out.trans (hbf.mono Be.out.size)
    have Lf : Hid (wf.heap[w.heap.size]? = some (.cells #[.int .i64 x.ser, .slice s.a1 s.n1 s.c1, .slice s.a2 s.n2 s.c2, .int .i64 x.frm, .int .i64 x.til, .int .i64 x.key.1, .int .u64 x.key.2.1, .int .i64 x.key.2.2, .bool x.ca, .int .i64 x.room, .int .i64 x.uses, .slice s.a3 s.n3 s.c3, .slice s.a4 s.n4 s.c4, .slice s.a5 s.n5 s.c5, .slice s.a6 s.n6 s.c6, .slice s.a7 s.n7 s.c7, .int .i64 x.need, .int .i64 x.nomap, .int .i64 x.noany, .slice s.a8 s.n8 s.c8, .slice s.a9 s.n9 s.c9] 34 (0, 0))) := (hbf.block _ (Array.getElem?_eq_some_iff.1 Le.out).1).trans Le.out
    have Xf : Hid (wf.heap[wc.heap.size]? = some (.cells #[.int .i64 x.ser, .slice t.a1 t.n1 t.c1, .slice t.a2 t.n2 t.c2, .int .i64 x.frm, .int .i64 x.til, .int .i64 x.key.1, .int .u64 x.key.2.1, .int .i64 x.key.2.2, .bool x.ca, .int .i64 x.room, .int .i64 x.uses, .slice t.a3 t.n3 t.c3, .slice t.a4 t.n4 t.c4, .slice t.a5 t.n5 t.c5, .slice t.a6 t.n6 t.c6, .slice t.a7 t.n7 t.c7, .int .i64 x.need, .int .i64 x.nomap, .int .i64 x.noany, .slice t.a8 t.n8 t.c8, .slice t.a9 t.n9 t.c9] 45 (0, 0))) := (hbf.block _ (Array.getElem?_eq_some_iff.1 Xe.out).1).trans Xe.out
    have EQ1 : Hid (Calls Tryz.prog 20 #[.slice x1 n1 n1, .slice y1 n1 n1] wf fun e w' => e = .returned (.bool true) ∧ Below wf.heap.size wf w') := eqAllowRuleS_k x1 y1 n1 n1 n1 rules wf (Ke.out.kept hbf) hkf HR1.out.2
    have Cf : Hid (CER wf t x) := Ce.out.kept hbf
    clear hkf hbf Be Le Xe Ke Ce tne
    go_wp2_with fail
    refine EQ1.out.mono ?_
    rintro e wj ⟨rfl, hbg⟩
    have Bj : Hid (Below w.heap.size w wj) := Bf.out.trans (hbg.mono Bf.out.size)
    have Lj : Hid (wj.heap[w.heap.size]? = some (.cells #[.int .i64 x.ser, .slice s.a1 s.n1 s.c1, .slice s.a2 s.n2 s.c2, .int .i64 x.frm, .int .i64 x.til, .int .i64 x.key.1, .int .u64 x.key.2.1, .int .i64 x.key.2.2, .bool x.ca, .int .i64 x.room, .int .i64 x.uses, .slice s.a3 s.n3 s.c3, .slice s.a4 s.n4 s.c4, .slice s.a5 s.n5 s.c5, .slice s.a6 s.n6 s.c6, .slice s.a7 s.n7 s.c7, .int .i64 x.need, .int .i64 x.nomap, .int .i64 x.noany, .slice s.a8 s.n8 s.c8, .slice s.a9 s.n9 s.c9] 34 (0, 0))) := (hbg.block _ (Array.getElem?_eq_some_iff.1 Lf.out).1).trans Lf.out
    have Xj : Hid (wj.heap[wc.heap.size]? = some (.cells #[.int .i64 x.ser, .slice t.a1 t.n1 t.c1, .slice t.a2 t.n2 t.c2, .int .i64 x.frm, .int .i64 x.til, .int .i64 x.key.1, .int .u64 x.key.2.1, .int .i64 x.key.2.2, .bool x.ca, .int .i64 x.room, .int .i64 x.uses, .slice t.a3 t.n3 t.c3, .slice t.a4 t.n4 t.c4, .slice t.a5 t.n5 t.c5, .slice t.a6 t.n6 t.c6, .slice t.a7 t.n7 t.c7, .int .i64 x.need, .int .i64 x.nomap, .int .i64 x.noany, .slice t.a8 t.n8 t.c8, .slice t.a9 t.n9 t.c9] 45 (0, 0))) := (hbg.block _ (Array.getElem?_eq_some_iff.1 Xf.out).1).trans Xf.out
    have Cj : Hid (CER wj t x) := Cf.out.kept hbg
    clear hbg Bf Lf Xf Cf EQ1
    have HTD : Hid (∀ W, Below wj.heap.size wj W → Calls Tryz.prog 8 #[.agg #[.int .i64 x.ser, .slice s.a1 s.n1 s.c1, .slice s.a2 s.n2 s.c2, .int .i64 x.frm, .int .i64 x.til, .int .i64 x.key.1, .int .u64 x.key.2.1, .int .i64 x.key.2.2, .bool x.ca, .int .i64 x.room, .int .i64 x.uses, .slice s.a3 s.n3 s.c3, .slice s.a4 s.n4 s.c4, .slice s.a5 s.n5 s.c5, .slice s.a6 s.n6 s.c6, .slice s.a7 s.n7 s.c7, .int .i64 x.need, .int .i64 x.nomap, .int .i64 x.noany, .slice s.a8 s.n8 s.c8, .slice s.a9 s.n9 s.c9]] W fun e w' => ∃ u : CES, e = .returned (CEv u x) ∧ CER w' u x ∧ Below W.heap.size W w') := fun W hW => (HTO.out W (Bj.out.trans (hW.mono Bj.out.size))).mono fun e w' ⟨u, h1, h2, h3, h4⟩ => ⟨u, h1, h3, h4⟩
    have HEQ : Hid (∀ W (u : CES), Below wj.heap.size wj W → CER W u x → Calls Tryz.prog 10 #[.agg #[.int .i64 x.ser, .slice t.a1 t.n1 t.c1, .slice t.a2 t.n2 t.c2, .int .i64 x.frm, .int .i64 x.til, .int .i64 x.key.1, .int .u64 x.key.2.1, .int .i64 x.key.2.2, .bool x.ca, .int .i64 x.room, .int .i64 x.uses, .slice t.a3 t.n3 t.c3, .slice t.a4 t.n4 t.c4, .slice t.a5 t.n5 t.c5, .slice t.a6 t.n6 t.c6, .slice t.a7 t.n7 t.c7, .int .i64 x.need, .int .i64 x.nomap, .int .i64 x.noany, .slice t.a8 t.n8 t.c8, .slice t.a9 t.n9 t.c9], CEv u x] W fun e w' => e = .returned (.bool true) ∧ Below W.heap.size W w') := fun W u hW hu => eqCert_k t u x W (Cj.out.kept hW) hu HZ.out
    have HBB : wj.heap.size ≤ wj.heap.size := Nat.le_refl _
    go_upto_region 16 with fail
    refine wp_region_ri (la16 s t x wc.heap.size w.heap.size (wj.heap.size)) [44, 45, 46, 47, 48] (wj.heap.size) (fun a0 => a0.tmps.size = 49 ∧ aT a0 4 = .pointer (some ⟨w.heap.size, 0, none⟩) ∧ aT a0 10 = .pointer (some ⟨wc.heap.size, 0, none⟩)) (by kernel_rfl) rfl (by kernel_rfl) rfl ⟨rfl, rfl, rfl⟩ (la16_stb s t x wc.heap.size w.heap.size (wj.heap.size)) ?_ ?_ ?_
    · intro k hk hk2
      match k, hk, hk2 with
      | 5, _, _ => exact Xj.out
      | 6, _, _ => exact Lj.out
      | 0, hk, _ => exact absurd hk (by show ¬ (5 ≤ 0); omega)
      | 1, hk, _ => exact absurd hk (by show ¬ (5 ≤ 1); omega)
      | 2, hk, _ => exact absurd hk (by show ¬ (5 ≤ 2); omega)
      | 3, hk, _ => exact absurd hk (by show ¬ (5 ≤ 3); omega)
      | 4, hk, _ => exact absurd hk (by show ¬ (5 ≤ 4); omega)
      | k + 7, _, hk2 => exact absurd hk2 (by show ¬ (k + 7 < 7); omega)
    · rintro a0 ⟨hz, g4, g10⟩
      refine StepsRI.cons ?_ (StepsRI.cons ?_ (StepsRI.cons ?_ (StepsRI.cons ?_ (StepsRI.cons ?_ (StepsRI.nil)))))
      · intro lQ b W hI hUN hED KQ hKQ
        have hg := (hI.vot 5 (of_decide_eq_true rfl) (of_decide_eq_true rfl) rfl)
        refine wp_load_row 45 _ rfl (wc.heap.size) ((hI.fr.same 10 (by decide)).trans g10) 45 #[.int .i64 x.ser, .slice t.a1 t.n1 t.c1, .slice t.a2 t.n2 t.c2, .int .i64 x.frm, .int .i64 x.til, .int .i64 x.key.1, .int .u64 x.key.2.1, .int .i64 x.key.2.2, .bool x.ca, .int .i64 x.room, .int .i64 x.uses, .slice t.a3 t.n3 t.c3, .slice t.a4 t.n4 t.c4, .slice t.a5 t.n5 t.c5, .slice t.a6 t.n6 t.c6, .slice t.a7 t.n7 t.c7, .int .i64 x.need, .int .i64 x.nomap, .int .i64 x.noany, .slice t.a8 t.n8 t.c8, .slice t.a9 t.n9 t.c9] (0, 0) _ hg Tryz.underlying45 rfl (by kernel_rfl) ?_
        exact hKQ.out _ _ (hI.put 0 44 rfl rfl (by rw [hz]; decide) rfl hUN rfl HBB (la16_stb s t x wc.heap.size w.heap.size (wj.heap.size)) (Below.refl _ _) rfl)
      · intro lQ b W hI hUN hED KQ hKQ
        have hg := (hI.vot 6 (of_decide_eq_true rfl) (of_decide_eq_true rfl) rfl)
        refine wp_load_row 34 _ rfl (w.heap.size) ((hI.fr.same 4 (by decide)).trans g4) 34 #[.int .i64 x.ser, .slice s.a1 s.n1 s.c1, .slice s.a2 s.n2 s.c2, .int .i64 x.frm, .int .i64 x.til, .int .i64 x.key.1, .int .u64 x.key.2.1, .int .i64 x.key.2.2, .bool x.ca, .int .i64 x.room, .int .i64 x.uses, .slice s.a3 s.n3 s.c3, .slice s.a4 s.n4 s.c4, .slice s.a5 s.n5 s.c5, .slice s.a6 s.n6 s.c6, .slice s.a7 s.n7 s.c7, .int .i64 x.need, .int .i64 x.nomap, .int .i64 x.noany, .slice s.a8 s.n8 s.c8, .slice s.a9 s.n9 s.c9] (0, 0) _ hg Tryz.underlying34 rfl (by kernel_rfl) ?_
        exact hKQ.out _ _ (hI.put 1 45 rfl rfl (by rw [hz]; decide) rfl hUN rfl HBB (la16_stb s t x wc.heap.size w.heap.size (wj.heap.size)) (Below.refl _ _) rfl)
      · intro lQ b W hI hUN hED KQ hKQ
        have f0 := hI.got 1 (of_decide_eq_true rfl) (edge hED 1 (by kernel_rfl)) rfl
        replace f0 : aT b 45 = .agg #[.int .i64 x.ser, .slice s.a1 s.n1 s.c1, .slice s.a2 s.n2 s.c2, .int .i64 x.frm, .int .i64 x.til, .int .i64 x.key.1, .int .u64 x.key.2.1, .int .i64 x.key.2.2, .bool x.ca, .int .i64 x.room, .int .i64 x.uses, .slice s.a3 s.n3 s.c3, .slice s.a4 s.n4 s.c4, .slice s.a5 s.n5 s.c5, .slice s.a6 s.n6 s.c6, .slice s.a7 s.n7 s.c7, .int .i64 x.need, .int .i64 x.nomap, .int .i64 x.noany, .slice s.a8 s.n8 s.c8, .slice s.a9 s.n9 s.c9] := f0
        refine opw_call 8 #[.tmp 45] _ _ _ rfl Tryz.func8 (by kernel_rfl) rfl #[.agg #[.int .i64 x.ser, .slice s.a1 s.n1 s.c1, .slice s.a2 s.n2 s.c2, .int .i64 x.frm, .int .i64 x.til, .int .i64 x.key.1, .int .u64 x.key.2.1, .int .i64 x.key.2.2, .bool x.ca, .int .i64 x.room, .int .i64 x.uses, .slice s.a3 s.n3 s.c3, .slice s.a4 s.n4 s.c4, .slice s.a5 s.n5 s.c5, .slice s.a6 s.n6 s.c6, .slice s.a7 s.n7 s.c7, .int .i64 x.need, .int .i64 x.nomap, .int .i64 x.noany, .slice s.a8 s.n8 s.c8, .slice s.a9 s.n9 s.c9]] (by simp [ev, f0]) ?_
        refine (HTD.out W hI.bel).mono ?_
        rintro e W2 ⟨u, rfl, hk, hb⟩
        exact ⟨_, rfl, hKQ.out _ _ (hI.put 2 46 rfl rfl (by rw [hz]; decide) rfl hUN rfl HBB (la16_stb s t x wc.heap.size w.heap.size (wj.heap.size)) hb ⟨u, rfl, hk⟩)⟩
      · intro lQ b W hI hUN hED KQ hKQ
        have f0 := hI.got 0 (of_decide_eq_true rfl) (edge hED 0 (by kernel_rfl)) rfl
        replace f0 : aT b 44 = .agg #[.int .i64 x.ser, .slice t.a1 t.n1 t.c1, .slice t.a2 t.n2 t.c2, .int .i64 x.frm, .int .i64 x.til, .int .i64 x.key.1, .int .u64 x.key.2.1, .int .i64 x.key.2.2, .bool x.ca, .int .i64 x.room, .int .i64 x.uses, .slice t.a3 t.n3 t.c3, .slice t.a4 t.n4 t.c4, .slice t.a5 t.n5 t.c5, .slice t.a6 t.n6 t.c6, .slice t.a7 t.n7 t.c7, .int .i64 x.need, .int .i64 x.nomap, .int .i64 x.noany, .slice t.a8 t.n8 t.c8, .slice t.a9 t.n9 t.c9] := f0
        have f1 := hI.got 2 (of_decide_eq_true rfl) (edge hED 2 (by kernel_rfl)) rfl
        obtain ⟨u, f1, o1_0⟩ := f1
        replace f1 : aT b 46 = CEv u x := f1
        refine opw_call 10 #[.tmp 44, .tmp 46] _ _ _ rfl Tryz.func10 (by kernel_rfl) rfl #[.agg #[.int .i64 x.ser, .slice t.a1 t.n1 t.c1, .slice t.a2 t.n2 t.c2, .int .i64 x.frm, .int .i64 x.til, .int .i64 x.key.1, .int .u64 x.key.2.1, .int .i64 x.key.2.2, .bool x.ca, .int .i64 x.room, .int .i64 x.uses, .slice t.a3 t.n3 t.c3, .slice t.a4 t.n4 t.c4, .slice t.a5 t.n5 t.c5, .slice t.a6 t.n6 t.c6, .slice t.a7 t.n7 t.c7, .int .i64 x.need, .int .i64 x.nomap, .int .i64 x.noany, .slice t.a8 t.n8 t.c8, .slice t.a9 t.n9 t.c9], CEv u x] (by simp [ev, f0, f1]) ?_
        refine (HEQ.out W u hI.bel o1_0).mono ?_
        rintro e W2 ⟨rfl, hb⟩
        exact ⟨_, rfl, hKQ.out _ _ (hI.put 3 47 rfl rfl (by rw [hz]; decide) rfl hUN rfl HBB (la16_stb s t x wc.heap.size w.heap.size (wj.heap.size)) hb rfl)⟩
      · intro lQ b W hI hUN hED KQ hKQ
        have f : aT b 47 = .bool true := hI.got 3 (of_decide_eq_true rfl) (edge hED 3 (by kernel_rfl)) rfl
        exact opw_not _ 47 rfl true f (hKQ.out _ _ (hI.put 4 48 rfl rfl (by rw [hz]; decide) rfl hUN rfl HBB (la16_stb s t x wc.heap.size w.heap.size (wj.heap.size)) (Below.refl _ _) rfl))
    · intro b W hf hb F
      have e48 : aT b 48 = .bool false := F 4 (of_decide_eq_true rfl) rfl
      rw [hf.eq]
      simp only [puts, Act.put, List.setIfInBounds_toArray, List.set_cons_zero, List.set_cons_succ, e48]
      clear hf F e48
      generalize aT b = AT
      clear b
      go_wp2
      go_ret
      exact ⟨rfl, Bj.out.trans (hb.mono Bj.out.size)⟩

end Go.Proofs.YtkpabanjlhlmfaaGreatDoor

