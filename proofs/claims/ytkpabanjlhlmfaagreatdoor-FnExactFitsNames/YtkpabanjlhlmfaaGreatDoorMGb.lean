import Derived.Test.YtkpabanjlhlmfaaGreatDoorMCc
import Derived.Test.YtkpabanjlhlmfaaGreatDoorMGa
import Derived.OwnWalk
import Derived.Laws.AppendOwn
import Derived.Deep.Slices
import Derived.Laws.Rows
import Derived.BigQuiet
import Derived.Test.YtkpabanjlhlmfaaGreatDoorMCe
import Derived.Test.YtkpabanjlhlmfaaGreatDoorMCd
set_option linter.unusedVariables false
namespace Go.Proofs.YtkpabanjlhlmfaaGreatDoor
open Go.RowKit

/-- The cells of general names, each with the slice that holds its parts. -/
def flG (its : List (GE × Option Addr × Nat × Nat)) : List Value := its.flatMap fun p => [.int .i64 p.1.g.kind, .string p.1.g.text, .int .i64 p.1.g.addr, .int .i64 p.1.g.bits, .slice p.2.1 p.2.2.1 p.2.2.2]
theorem flG_cons (p : (GE × Option Addr × Nat × Nat)) (r : List (GE × Option Addr × Nat × Nat)) : flG (p :: r) = Value.int .i64 p.1.g.kind :: .string p.1.g.text :: .int .i64 p.1.g.addr :: .int .i64 p.1.g.bits :: .slice p.2.1 p.2.2.1 p.2.2.2 :: flG r := rfl
theorem flG_append (a b : List (GE × Option Addr × Nat × Nat)) : flG (a ++ b) = flG a ++ flG b := by simp [flG, List.flatMap_append]
theorem flG_len (ps : List (GE × Option Addr × Nat × Nat)) : (flG ps).length = ps.length * 5 := by
  induction ps with
  | nil => rfl
  | cons p r ih => rw [flG_cons]; simp [ih]; omega
theorem flG_get (ps : List (GE × Option Addr × Nat × Nat)) : ∀ k (h : k < ps.length), (flG ps)[k * 5]? = some (.int .i64 ps[k].1.g.kind) ∧ (flG ps)[k * 5 + 1]? = some (.string ps[k].1.g.text) ∧ (flG ps)[k * 5 + 2]? = some (.int .i64 ps[k].1.g.addr) ∧ (flG ps)[k * 5 + 3]? = some (.int .i64 ps[k].1.g.bits) ∧ (flG ps)[k * 5 + 4]? = some (.slice ps[k].2.1 ps[k].2.2.1 ps[k].2.2.2) := by
  induction ps with
  | nil => intro k h; simp at h
  | cons p r ih =>
    intro k h
    cases k with
    | zero => simp [flG_cons]
    | succ k =>
      have := ih k (by simpa using h)
      rw [flG_cons, show (k + 1) * 5 = k * 5 + 1 + 1 + 1 + 1 + 1 by omega]
      simpa using this
theorem flG_one (ps : List (GE × Option Addr × Nat × Nat)) : ∀ u ∈ flG ps, u.oneCell' = true := by
  induction ps with
  | nil => intro u hu; simp [flG] at hu
  | cons p r ih =>
    intro u hu
    rw [flG_cons] at hu
    simp only [List.mem_cons] at hu
    rcases hu with rfl | rfl | rfl | rfl | rfl | hu
    · rfl
    · rfl
    · rfl
    · rfl
    · rfl
    · exact ih u hu
/-- What hangs on them is there. -/
def GeI (w : World) (its : List (GE × Option Addr × Nat × Nat)) : Prop := ∀ p ∈ its, Pts w p.2.1 p.2.2.1 p.1.parts ∧ p.1.g.text.size ≤ 9223372036854775807
theorem GeI.kept {w w' : World} {its : List (GE × Option Addr × Nat × Nat)} (h : GeI w its) (hb : Below w.heap.size w w') : GeI w' its := fun p hp => ⟨(h p hp).1.kept hb, (h p hp).2⟩
theorem ges_of_own {B : Nat} {w : World} {a : Option Addr} {n c : Nat} {its : List (GE × Option Addr × Nat × Nat)} (h : w.ownsRow B 96 5 (.slice a n c) n (flG its)) (hi : GeI w its) (hn : n ≤ 9223372036854775807) : Ges w a n (its.map Prod.fst) := by
  have hl : its.length = n := by have := h.1; rw [flG_len] at this; omega
  refine ⟨by simp [hl], hn, fun k hk => ?_⟩
  have hki : k < its.length := by omega
  obtain ⟨g, rfl, hg⟩ : ∃ g, a = some ⟨g, 0, none⟩ ∧ g < w.heap.size := by
    rcases h.2 with ⟨_, h0⟩ | ⟨g, cap', cur, hv, hb, hg, _⟩
    · omega
    · simp only [Value.slice.injEq] at hv
      exact ⟨g, hv.1, (Array.getElem?_eq_some_iff.1 hg).1⟩
  have e : (its.map Prod.fst).getD k default = its[k].1 := by simp [hki]
  obtain ⟨f0, f1, f2, f3, f4⟩ := flG_get its k hki
  have h4 := hi its[k] (List.getElem_mem hki)
  rw [e]
  refine ⟨g, 0, its[k].2.1, its[k].2.2.1, its[k].2.2.2, rfl, hg, ⟨?_, ?_, ?_, ?_, ?_⟩, h4.1, h4.2⟩
  · rw [Nat.zero_add, World.ownsRow.cellAt h _ (by omega)]; exact f0
  · rw [Nat.zero_add, World.ownsRow.cellAt h _ (by omega)]; exact f1
  · rw [Nat.zero_add, World.ownsRow.cellAt h _ (by omega)]; exact f2
  · rw [Nat.zero_add, World.ownsRow.cellAt h _ (by omega)]; exact f3
  · rw [Nat.zero_add, World.ownsRow.cellAt h _ (by omega)]; exact f4
theorem its_of_ges {w : World} {a : Option Addr} {n : Nat} {xs : List GE} (h : Ges w a n xs) : ∃ its : List (GE × Option Addr × Nat × Nat), its.map Prod.fst = xs ∧ GeI w its ∧ ∀ b off sp, a = some ⟨b, off, sp⟩ → (0 < n → sp = none) ∧ ∀ j u, (flG its)[j]? = some u → w.cell? ⟨b, off + j, none⟩ = some u := by
  have each : ∀ i, i < n → ∃ q : Option Addr × Nat × Nat, ∃ b off, a = some ⟨b, off, none⟩ ∧ Cells5 w b (off + i * 5) q.1 q.2.1 q.2.2 (xs.getD i default) ∧ Pts w q.1 q.2.1 (xs.getD i default).parts ∧ (xs.getD i default).g.text.size ≤ 9223372036854775807 := by
    intro i hi
    obtain ⟨b, off, an, nn, cn, ha, _, hc, hp, ht⟩ := h.get i hi
    exact ⟨(an, nn, cn), b, off, ha, hc, hp, ht⟩
  obtain ⟨y, hy⟩ := Go.Deep.choose_lt each
  have hlen := h.len
  refine ⟨(List.range n).map (fun i => (xs.getD i default, y i)), ?_, ?_, ?_⟩
  · apply List.ext_getElem
    · simp [hlen]
    · intro i h1 h2
      simp [List.getD, h2]
  · intro p hp
    simp only [List.mem_map, List.mem_range] at hp
    obtain ⟨i, hi, rfl⟩ := hp
    obtain ⟨_, _, _, _, h3, h4⟩ := hy i hi
    exact ⟨h3, h4⟩
  · intro b off sp ha
    refine ⟨fun hn => ?_, fun j u hj => ?_⟩
    · obtain ⟨b', off', ha', _⟩ := hy 0 hn
      rw [ha] at ha'
      simp at ha'
      exact ha'.2.2
    · have hjl : j < n * 5 := by
        have := (List.getElem?_eq_some_iff.1 hj).1
        rw [flG_len] at this
        simpa using this
      obtain ⟨k, r, hr, rfl⟩ : ∃ k r, r < 5 ∧ j = k * 5 + r := ⟨j / 5, j % 5, by omega, by omega⟩
      have hk : k < n := by omega
      obtain ⟨b', off', ha', hc, _⟩ := hy k hk
      rw [ha] at ha'
      simp at ha'
      obtain ⟨rfl, rfl, _⟩ := ha'
      have hg := flG_get ((List.range n).map (fun i => (xs.getD i default, y i))) k (by simpa using hk)
      simp only [List.getElem_map, List.getElem_range] at hg
      obtain ⟨g0, g1, g2, g3, g4⟩ := hg
      match r, hr with
      | 0, _ => rw [Nat.add_zero, g0] at hj; cases hj; exact hc.c0
      | 1, _ => rw [g1] at hj; cases hj; rw [← Nat.add_assoc]; exact hc.c1
      | 2, _ => rw [g2] at hj; cases hj; rw [← Nat.add_assoc]; exact hc.c2
      | 3, _ => rw [g3] at hj; cases hj; rw [← Nat.add_assoc]; exact hc.c3
      | 4, _ => rw [g4] at hj; cases hj; rw [← Nat.add_assoc]; exact hc.c4

end Go.Proofs.YtkpabanjlhlmfaaGreatDoor

set_option linter.unusedVariables false
namespace Go.Proofs.YtkpabanjlhlmfaaGreatDoor
open Go.RowKit

theorem Tryz.infoGe2 : (Tryz.prog.info? 96).map (fun i => (i.zero, i.size, i.bytes)) = some (some (.agg #[.int .i64 0, .string ⟨#[]⟩, .int .i64 0, .int .i64 0, .slice none 0 0]), 5, 64) := by kernel_rfl

/-- A copy of general names. -/
def CloneP (w : World) (xs : List GE) (n : Nat) (e : Ending) (w' : World) : Prop := ∃ (v : Value) (its : List (GE × Option Addr × Nat × Nat)), e = .returned v ∧ its.map Prod.fst = xs ∧ GeI w its ∧ w'.ownsRow w.heap.size 96 5 v n (flG its) ∧ Below w.heap.size w w'

set_option maxRecDepth 10000 in
set_option maxHeartbeats 1000000 in
theorem cloneGens_any (a : Option Addr) (n c : Nat) (xs : List GE) (w : World) (h : Ges w a n xs) (hn : n ≤ 1048576) (hnil : a = none → c = 0) :
    Calls Tryz.prog 101 #[.slice a n c] w (CloneP w xs n) := by
  obtain ⟨i0, hi, hz0, hz1, hz2⟩ := info_parts Tryz.infoGe2
  obtain ⟨its, e1, e2, e3⟩ := its_of_ges h
  have hil : its.length = n := by have := h.len; rw [← e1] at this; simpa using this
  cases a with
  | none =>
    obtain rfl : n = 0 := by
      rcases Nat.eq_zero_or_pos n with q | q
      · exact q
      · obtain ⟨_, _, _, _, _, hh, _⟩ := h.get 0 q
        cases hh
    obtain rfl := hnil rfl
    obtain rfl : its = [] := List.eq_nil_of_length_eq_zero hil
    have he : ∀ w : World, (binOp .eql 41 (.slice none 0 0) (.slice none 0 0)).run Tryz.prog w = .ok (.bool true) w := fun _ => rfl
    have HX : Hid (([] : List (GE × Option Addr × Nat × Nat)).map Prod.fst = xs) := e1
    clear h e1 e2 e3
    go_enter Tryz.func101, Tryz.ntmps101
    go_wp2
    go_ret
    exact ⟨_, [], rfl, HX.out, fun p hp => absurd hp (by simp), ⟨rfl, .inl ⟨rfl, rfl⟩⟩, Below.refl _ _⟩
  | some ad =>
    obtain ⟨b, off, sp⟩ := ad
    have hB1 : Below w.heap.size w (w.alloc (.cells #[] 96)) := (Below.refl _ _).alloc (Nat.le_refl _) _
    have HO : Hid ((w.alloc (.cells #[] 96)).ownsRow w.heap.size 96 5 (.slice (some ⟨w.heap.size, 0, none⟩) 0 0) 0 (flG [])) := ⟨rfl, .inr ⟨w.heap.size, 0, #[], rfl, Nat.le_refl _, heap_alloc_new w _, Nat.le_refl _, by decide, rfl, rfl⟩⟩
    have he : ∀ w : World, (binOp .eql 41 (.slice (some ⟨b, off, sp⟩) n c) (.slice none 0 0)).run Tryz.prog w = .ok (.bool false) w := fun _ => rfl
    have HCL : Hid (∀ j u, (flG its)[j]? = some u → (w.alloc (.cells #[] 96)).cell? ((⟨b, off, sp⟩ : Addr).add j) = some u) := by
      intro j u hj
      have hpos : 0 < n := by
        have := (List.getElem?_eq_some_iff.1 hj).1
        rw [flG_len] at this
        omega
      obtain rfl : sp = none := (e3 b off sp rfl).1 hpos
      rw [Addr.add_lit]
      have h1 := (e3 b off none rfl).2 j u hj
      exact (hB1.cell (p := ⟨b, off + j, none⟩) (World.block_lt_of_cell? w _ h1)).trans h1
    have HE1 : Hid (its.map Prod.fst = xs) := e1
    have HE2 : Hid (GeI w its) := e2
    have HBB : Hid (Below w.heap.size w (w.alloc (.cells #[] 96))) := hB1
    have hs1 := hB1.size
    have hnl : (flG its).length = n * 5 := by rw [flG_len, hil]
    clear h e1 e2 e3 hB1
    go_enter Tryz.func101, Tryz.ntmps101
    go_wp2_with (first | (at_builtin; refine wpList_append_own _ rfl (.tmp 5) (.tmp 6) 41 rfl w.heap.size 96 i0 _ 5 64 Tryz.underlying41 hi hz0 hz1 hz2 rfl (by decide) _ 0 _ rfl HO.out ⟨b, off, sp⟩ n c (flG its) rfl hnl HCL.out (flG_one _) (by unfold maxLen; omega) (by omega) (by exact hs1) ?_; intro v6 w6 hv6 hg6 _))
    rw [show flG ([] : List (GE × Option Addr × Nat × Nat)) = [] from rfl, List.nil_append, Nat.zero_add] at hv6
    have B6 : Hid (Below w.heap.size w w6) := HBB.out.grown hg6 hs1 (fun q hq => (HO.out.lt q hq).1)
    have HV : Hid (w6.ownsRow w.heap.size 96 5 v6 n (flG its)) := hv6
    clear hv6 hg6
    go_wp2
    go_ret
    exact ⟨v6, its, rfl, HE1.out, HE2.out, HV.out, B6.out⟩

/-- All that a certificate stands for. -/
def allN (x : CE) : List GE := x.nms ++ (if x.sub = [] then [] else [(⟨⟨4, ⟨#[]⟩, 0, 0⟩, x.sub⟩ : GE)])
theorem cell_sub (w : World) (a2 : Option Addr) (n2 c2 : Nat) (sub : List PT) : ∀ q u, (flG [((⟨⟨4, ⟨#[]⟩, 0, 0⟩, sub⟩ : GE), a2, n2, c2)])[q]? = some u → (w.alloc (.cells #[.int .i64 4, .string ⟨#[]⟩, .int .i64 0, .int .i64 0, .slice a2 n2 c2] 96)).cell? ((⟨w.heap.size, 0, none⟩ : Addr).add q) = some u := by
  intro q u hq
  have hh := heap_alloc_new w (.cells #[.int .i64 4, .string ⟨#[]⟩, .int .i64 0, .int .i64 0, .slice a2 n2 c2] 96)
  have hf : flG [((⟨⟨4, ⟨#[]⟩, 0, 0⟩, sub⟩ : GE), a2, n2, c2)] = [.int .i64 4, .string ⟨#[]⟩, .int .i64 0, .int .i64 0, .slice a2 n2 c2] := rfl
  rw [hf] at hq
  rw [Addr.add_lit, Nat.zero_add]
  rw [cell_of_row _ _ q _ 96 (0, 0) hh]
  rw [← hq]
  simp

set_option maxRecDepth 10000 in
set_option maxHeartbeats 2000000 in
theorem allNames_any (s : CES) (x : CE) (w : World) (h : CER w s x) (hz : CEZ x) (ht : CET s) :
    Calls Tryz.prog 58 #[CEv s x] w fun e w' => ∃ a n c, e = .returned (.slice a n c) ∧ Ges w' a n (allN x) ∧ (∀ k, k < n → GeOk ((allN x).getD k default)) ∧ n ≤ 2097152 ∧ Below w.heap.size w w' := by
  obtain ⟨i0, hi, hz0, hz1, hz2⟩ := info_parts Tryz.infoGe2
  obtain ⟨a1, n1, c1, a2, n2, c2, a3, n3, c3, a4, n4, c4, a5, n5, c5, a6, n6, c6, a7, n7, c7, a8, n8, c8, a9, n9, c9⟩ := s
  have HK : Hid (CER w ⟨a1, n1, c1, a2, n2, c2, a3, n3, c3, a4, n4, c4, a5, n5, c5, a6, n6, c6, a7, n7, c7, a8, n8, c8, a9, n9, c9⟩ x) := h
  have HZ : Hid ((n1 ≤ 1048576 ∧ (∀ k, k < n1 → (x.iss.getD k default).val.size ≤ 1048576)) ∧ (n2 ≤ 1048576 ∧ (∀ k, k < n2 → (x.sub.getD k default).val.size ≤ 1048576)) ∧ (n3 ≤ 1048576 ∧ (∀ k, k < n3 → GeOk (x.nms.getD k default))) ∧ (n4 ≤ 1048576 ∧ (∀ k, k < n4 → GeOk (x.per.getD k default))) ∧ (n5 ≤ 1048576 ∧ (∀ k, k < n5 → GeOk (x.den.getD k default))) ∧ (n6 ≤ 1048576) ∧ (n7 ≤ 1048576) ∧ (n8 ≤ 1048576 ∧ (∀ k, k < n8 → XPZ (x.ext.getD k default))) ∧ (n9 ≤ 1048576)) := h.zn.1 hz
  have HZ0 : Hid (CEZ x) := hz
  have HL2 : Hid (x.sub.length = n2) := h.r2.len
  have HL3 : Hid (x.nms.length = n3) := h.r3.len
  have hx2 : n2 ≤ 1048576 := HZ.out.2.1.1
  have hx3 : n3 ≤ 1048576 := HZ.out.2.2.1.1
  have hnil : a3 = none → c3 = 0 := fun e => by
    have h3 : c3 = n3 := ht.2.2.1
    rcases Nat.eq_zero_or_pos n3 with q | q
    · omega
    · obtain ⟨_, _, _, _, _, hh, _⟩ := h.r3.get 0 q
      have hh' : a3 = some _ := hh
      rw [e] at hh'; cases hh'
  clear h hz ht
  show Calls Tryz.prog 58 #[.agg #[.int .i64 x.ser, .slice a1 n1 c1, .slice a2 n2 c2, .int .i64 x.frm, .int .i64 x.til, .int .i64 x.key.1, .int .u64 x.key.2.1, .int .i64 x.key.2.2, .bool x.ca, .int .i64 x.room, .int .i64 x.uses, .slice a3 n3 c3, .slice a4 n4 c4, .slice a5 n5 c5, .slice a6 n6 c6, .slice a7 n7 c7, .int .i64 x.need, .int .i64 x.nomap, .int .i64 x.noany, .slice a8 n8 c8, .slice a9 n9 c9]] w _
  obtain ⟨w0, hw0⟩ : ∃ w0, w0 = w.alloc (.cells #[.int .i64 x.ser, .slice a1 n1 c1, .slice a2 n2 c2, .int .i64 x.frm, .int .i64 x.til, .int .i64 x.key.1, .int .u64 x.key.2.1, .int .i64 x.key.2.2, .bool x.ca, .int .i64 x.room, .int .i64 x.uses, .slice a3 n3 c3, .slice a4 n4 c4, .slice a5 n5 c5, .slice a6 n6 c6, .slice a7 n7 c7, .int .i64 x.need, .int .i64 x.nomap, .int .i64 x.noany, .slice a8 n8 c8, .slice a9 n9 c9] 45) := ⟨_, rfl⟩
  have B0 : Hid (Below w.heap.size w w0) := by show Below _ _ _; rw [hw0]; exact (Below.refl _ _).alloc (Nat.le_refl _) _
  have Y0 : Hid (w0.heap[w.heap.size]? = some (.cells #[.int .i64 x.ser, .slice a1 n1 c1, .slice a2 n2 c2, .int .i64 x.frm, .int .i64 x.til, .int .i64 x.key.1, .int .u64 x.key.2.1, .int .i64 x.key.2.2, .bool x.ca, .int .i64 x.room, .int .i64 x.uses, .slice a3 n3 c3, .slice a4 n4 c4, .slice a5 n5 c5, .slice a6 n6 c6, .slice a7 n7 c7, .int .i64 x.need, .int .i64 x.nomap, .int .i64 x.noany, .slice a8 n8 c8, .slice a9 n9 c9] 45)) := by show _ = _; rw [hw0]; exact heap_alloc_new w _
  have p11 : w0.cell? ⟨w.heap.size, 11, none⟩ = some (.slice a3 n3 c3) := (cell_of_row _ _ 11 _ 45 (0, 0) Y0.out).trans rfl
  go_enter Tryz.func58, Tryz.ntmps58
  go_upto_region 1 with fail
  rw [← hw0]
  clear hw0
  go_wp2_with fail
  refine (cloneGens_any a3 n3 c3 x.nms _ (HK.out.kept B0.out).r3 hx3 hnil).mono ?_
  rintro e w1 ⟨v, its, rfl, hm, hge, hown, hb1⟩
  have B1 : Hid (Below w.heap.size w w1) := B0.out.trans (hb1.mono B0.out.size)
  have Y1 : Hid (w1.heap[w.heap.size]? = some (.cells #[.int .i64 x.ser, .slice a1 n1 c1, .slice a2 n2 c2, .int .i64 x.frm, .int .i64 x.til, .int .i64 x.key.1, .int .u64 x.key.2.1, .int .i64 x.key.2.2, .bool x.ca, .int .i64 x.room, .int .i64 x.uses, .slice a3 n3 c3, .slice a4 n4 c4, .slice a5 n5 c5, .slice a6 n6 c6, .slice a7 n7 c7, .int .i64 x.need, .int .i64 x.nomap, .int .i64 x.noany, .slice a8 n8 c8, .slice a9 n9 c9] 45)) := (hb1.block _ (Array.getElem?_eq_some_iff.1 Y0.out).1).trans Y0.out
  have HGE : Hid (GeI w1 its) := hge.kept hb1
  have HGW : Hid (GeI w0 its) := hge
  have HMP : Hid (its.map Prod.fst = x.nms) := hm
  have HOW : Hid (w1.ownsRow w0.heap.size 96 5 v n3 (flG its)) := hown
  have hs01 : w0.heap.size ≤ w1.heap.size := hb1.size
  have l0 : w.heap.size < w0.heap.size := (Array.getElem?_eq_some_iff.1 Y0.out).1
  have HB01 : Hid (Below w0.heap.size w0 w1) := hb1
  clear p11 hm hge hown hb1
  have p2 : w1.cell? ⟨w.heap.size, 2, none⟩ = some (.slice a2 n2 c2) := (cell_of_row _ _ 2 _ 45 (0, 0) Y1.out).trans rfl
  have GOK : Hid (∀ k, k < x.nms.length → GeOk (x.nms.getD k default)) := fun k hk => HZ.out.2.2.1.2 k (by rw [← HL3.out]; exact hk)
  by_cases e2 : n2 = 0
  · have hlt : ¬ ((0 : Int) < (n2 : Int)) := by omega
    have HAN : Hid (allN x = x.nms) := by
      show _ = _
      unfold allN
      rw [if_pos (List.eq_nil_of_length_eq_zero (by rw [HL2.out]; exact e2)), List.append_nil]
    clear e2
    obtain ⟨av, cv, hv⟩ : ∃ av cv, v = .slice av n3 cv := by
      rcases HOW.out.2 with ⟨hv, h0⟩ | ⟨g, cap', cur, hv, _⟩
      · exact ⟨none, 0, by rw [hv, h0]⟩
      · exact ⟨_, cap', hv⟩
    subst hv
    have HG : Hid (Ges w1 av n3 (allN x)) := by
      show Ges _ _ _ _
      rw [HAN.out, ← HMP.out]
      exact ges_of_own HOW.out HGE.out (by omega)
    have HQ : Hid (∀ k, k < n3 → GeOk ((allN x).getD k default)) := fun k hk => by rw [HAN.out]; exact GOK.out k (by rw [HL3.out]; exact hk)
    go_wp2
    go_ret
    exact ⟨av, n3, cv, rfl, HG.out, HQ.out, by omega, B1.out⟩
  · have hlt : (0 : Int) < (n2 : Int) := by omega
    have HAN : Hid (allN x = x.nms ++ [(⟨⟨4, ⟨#[]⟩, 0, 0⟩, x.sub⟩ : GE)]) := by
      show _ = _
      unfold allN
      rw [if_neg (fun q => e2 (by rw [← HL2.out, q]; rfl))]
    clear e2
    have hal : Below w1.heap.size w1 (w1.alloc (.cells #[.int .i64 4, .string ⟨#[]⟩, .int .i64 0, .int .i64 0, .slice a2 n2 c2] 96)) := (Below.refl _ _).alloc (Nat.le_refl _) _
    have HOR : Hid ((w1.alloc (.cells #[.int .i64 4, .string ⟨#[]⟩, .int .i64 0, .int .i64 0, .slice a2 n2 c2] 96)).ownsRow w0.heap.size 96 5 v n3 (flG its)) := ownsRow_below HOW.out hal
    have hs5 : w0.heap.size ≤ (w1.alloc (.cells #[.int .i64 4, .string ⟨#[]⟩, .int .i64 0, .int .i64 0, .slice a2 n2 c2] 96)).heap.size := Nat.le_trans hs01 hal.size
    have B5 : Hid (Below w0.heap.size w0 (w1.alloc (.cells #[.int .i64 4, .string ⟨#[]⟩, .int .i64 0, .int .i64 0, .slice a2 n2 c2] 96))) := HB01.out.trans (hal.mono hs01)
    have HCL : Hid (_) := cell_sub w1 a2 n2 c2 x.sub
    clear hal
    go_wp2_with (first | (at_builtin; refine wpList_append_own _ rfl (.tmp 12) (.tmp 16) 41 rfl w0.heap.size 96 i0 _ 5 64 Tryz.underlying41 hi hz0 hz1 hz2 rfl (by decide) _ n3 _ rfl HOR.out ⟨w1.heap.size, 0, none⟩ 1 1 (flG [((⟨⟨4, ⟨#[]⟩, 0, 0⟩, x.sub⟩ : GE), a2, n2, c2)]) rfl rfl HCL.out (flG_one _) (by unfold maxLen; omega) (by omega) (by exact hs5) ?_; intro v6 w6 hv6 hg6 _))
    rw [← flG_append] at hv6
    have B6 : Hid (Below w0.heap.size w0 w6) := B5.out.grown hg6 hs5 (fun q hq => (HOR.out.lt q hq).1)
    have B6w : Hid (Below w.heap.size w w6) := B0.out.trans (B6.out.mono B0.out.size)
    have HGE6 : Hid (GeI w6 its) := fun p hp => ⟨(HGW.out p hp).1.kept B6.out, (HGW.out p hp).2⟩
    have HG6 : Hid (GeI w6 (its ++ [((⟨⟨4, ⟨#[]⟩, 0, 0⟩, x.sub⟩ : GE), a2, n2, c2)])) := fun p hp => by
      rcases List.mem_append.1 hp with hp | hp
      · exact HGE6.out p hp
      · simp only [List.mem_singleton] at hp
        subst hp
        exact ⟨(HK.out.kept B6w.out).r2, by show ByteArray.size ⟨#[]⟩ ≤ 9223372036854775807; decide⟩
    obtain ⟨av, cv, hv⟩ : ∃ av cv, v6 = .slice av (n3 + 1) cv := by
      rcases hv6.2 with ⟨_, h0⟩ | ⟨g, cap', cur, hv, _⟩
      · omega
      · exact ⟨_, cap', hv⟩
    subst hv
    have HG : Hid (Ges w6 av (n3 + 1) (allN x)) := by
      show Ges _ _ _ _
      have := ges_of_own hv6 HG6.out (by omega)
      rw [List.map_append, HMP.out] at this
      rw [HAN.out]; exact this
    have HQ : Hid (∀ k, k < n3 + 1 → GeOk ((allN x).getD k default)) := fun k hk => by
      rw [HAN.out]
      by_cases e : k < n3
      · rw [List.getD_eq_getElem?_getD, List.getElem?_append_left (by rw [HL3.out]; exact e), ← List.getD_eq_getElem?_getD]
        exact GOK.out k (by rw [HL3.out]; exact e)
      · obtain rfl : k = n3 := by omega
        rw [List.getD_eq_getElem?_getD, List.getElem?_append_right (by rw [HL3.out]; omega), HL3.out, Nat.sub_self]
        exact ⟨by show ByteArray.size ⟨#[]⟩ ≤ 1048576; decide, by show x.sub.length ≤ 1048576; rw [HL2.out]; exact hx2, fun j hj => HZ.out.2.1.2 j (by rw [← HL2.out]; exact hj)⟩
    clear hv6 hg6
    go_wp2
    go_ret
    exact ⟨av, n3 + 1, cv, rfl, HG.out, HQ.out, by omega, B6w.out⟩

end Go.Proofs.YtkpabanjlhlmfaaGreatDoor

set_option linter.unusedVariables false
namespace Go.Proofs.YtkpabanjlhlmfaaGreatDoor
open Go.RowKit

/-- What a certificate stands for fits. -/
def fnP (per : List GE) (np : Nat) (den : List GE) (nd : Nat) (x : CE) : Prop := ceP x ∧ BasesN per np ∧ BasesN den nd ∧ ∀ k, k < (allN x).length → fitP per np den nd ((allN x).getD k default)

set_option maxRecDepth 10000 in
set_option maxHeartbeats 4000000 in
theorem implFits_any (a1 : Option Addr) (n1 c1 : Nat) (per : List GE) (a2 : Option Addr) (n2 c2 : Nat) (den : List GE) (s : CES) (x : CE) (w : World) (hm : MaxW w) (h1 : Ges w a1 n1 per) (hz1 : ∀ k, k < n1 → GeOk (per.getD k default)) (h2 : Ges w a2 n2 den) (hz2 : ∀ k, k < n2 → GeOk (den.getD k default)) (h : CER w s x) (hz : CEZ x) (ht : CET s) (hu : U64 x.key.2.1) :
    Calls Tryz.prog 14 #[.slice a1 n1 c1, .slice a2 n2 c2, CEv s x] w (SaysB (fnP per n1 den n2 x) w) := by
  have HM : Hid (∀ W, Below w.heap.size w W → MaxW W) := fun W hW => hm.kept hW
  have HCO : Hid (∀ W, Below w.heap.size w W → Calls Tryz.prog 9 #[.agg #[.int .i64 x.ser, .slice s.a1 s.n1 s.c1, .slice s.a2 s.n2 s.c2, .int .i64 x.frm, .int .i64 x.til, .int .i64 x.key.1, .int .u64 x.key.2.1, .int .i64 x.key.2.2, .bool x.ca, .int .i64 x.room, .int .i64 x.uses, .slice s.a3 s.n3 s.c3, .slice s.a4 s.n4 s.c4, .slice s.a5 s.n5 s.c5, .slice s.a6 s.n6 s.c6, .slice s.a7 s.n7 s.c7, .int .i64 x.need, .int .i64 x.nomap, .int .i64 x.noany, .slice s.a8 s.n8 s.c8, .slice s.a9 s.n9 s.c9]] W (Says (ceP x) W)) := fun W hW => implCertOk_any s x W (hm.kept hW) (h.kept hW) hz ht hu
  have HAN : Hid (∀ W, Below w.heap.size w W → Calls Tryz.prog 58 #[.agg #[.int .i64 x.ser, .slice s.a1 s.n1 s.c1, .slice s.a2 s.n2 s.c2, .int .i64 x.frm, .int .i64 x.til, .int .i64 x.key.1, .int .u64 x.key.2.1, .int .i64 x.key.2.2, .bool x.ca, .int .i64 x.room, .int .i64 x.uses, .slice s.a3 s.n3 s.c3, .slice s.a4 s.n4 s.c4, .slice s.a5 s.n5 s.c5, .slice s.a6 s.n6 s.c6, .slice s.a7 s.n7 s.c7, .int .i64 x.need, .int .i64 x.nomap, .int .i64 x.noany, .slice s.a8 s.n8 s.c8, .slice s.a9 s.n9 s.c9]] W fun e w' => ∃ a n c, e = .returned (.slice a n c) ∧ Ges w' a n (allN x) ∧ (∀ k, k < n → GeOk ((allN x).getD k default)) ∧ n ≤ 2097152 ∧ Below W.heap.size W w') := fun W hW => allNames_any s x W (h.kept hW) hz ht
  have G1 : Hid (Ges w a1 n1 per) := h1
  have G2 : Hid (Ges w a2 n2 den) := h2
  have Q1 : Hid (∀ k, k < n1 → GeOk (per.getD k default)) := hz1
  have Q2 : Hid (∀ k, k < n2 → GeOk (den.getD k default)) := hz2
  clear h hz ht hu hm h1 h2 hz1 hz2
  show Calls Tryz.prog 14 #[.slice a1 n1 c1, .slice a2 n2 c2, .agg #[.int .i64 x.ser, .slice s.a1 s.n1 s.c1, .slice s.a2 s.n2 s.c2, .int .i64 x.frm, .int .i64 x.til, .int .i64 x.key.1, .int .u64 x.key.2.1, .int .i64 x.key.2.2, .bool x.ca, .int .i64 x.room, .int .i64 x.uses, .slice s.a3 s.n3 s.c3, .slice s.a4 s.n4 s.c4, .slice s.a5 s.n5 s.c5, .slice s.a6 s.n6 s.c6, .slice s.a7 s.n7 s.c7, .int .i64 x.need, .int .i64 x.nomap, .int .i64 x.noany, .slice s.a8 s.n8 s.c8, .slice s.a9 s.n9 s.c9]] w _
  obtain ⟨w0, hw0⟩ : ∃ w0, w0 = ((w.alloc (.cells #[.slice a1 n1 c1] 41)).alloc (.cells #[.slice a2 n2 c2] 41)).alloc (.cells #[.int .i64 x.ser, .slice s.a1 s.n1 s.c1, .slice s.a2 s.n2 s.c2, .int .i64 x.frm, .int .i64 x.til, .int .i64 x.key.1, .int .u64 x.key.2.1, .int .i64 x.key.2.2, .bool x.ca, .int .i64 x.room, .int .i64 x.uses, .slice s.a3 s.n3 s.c3, .slice s.a4 s.n4 s.c4, .slice s.a5 s.n5 s.c5, .slice s.a6 s.n6 s.c6, .slice s.a7 s.n7 s.c7, .int .i64 x.need, .int .i64 x.nomap, .int .i64 x.noany, .slice s.a8 s.n8 s.c8, .slice s.a9 s.n9 s.c9] 45) := ⟨_, rfl⟩
  have B0 : Hid (Below w.heap.size w w0) := by show Below _ _ _; rw [hw0]; exact three_below _ _ _ _
  have b0 := three_blocks' w (.cells #[.slice a1 n1 c1] 41) (.cells #[.slice a2 n2 c2] 41) (.cells #[.int .i64 x.ser, .slice s.a1 s.n1 s.c1, .slice s.a2 s.n2 s.c2, .int .i64 x.frm, .int .i64 x.til, .int .i64 x.key.1, .int .u64 x.key.2.1, .int .i64 x.key.2.2, .bool x.ca, .int .i64 x.room, .int .i64 x.uses, .slice s.a3 s.n3 s.c3, .slice s.a4 s.n4 s.c4, .slice s.a5 s.n5 s.c5, .slice s.a6 s.n6 s.c6, .slice s.a7 s.n7 s.c7, .int .i64 x.need, .int .i64 x.nomap, .int .i64 x.noany, .slice s.a8 s.n8 s.c8, .slice s.a9 s.n9 s.c9] 45)
  rw [← hw0] at b0
  have X0 : Hid (w0.heap[w.heap.size]? = some (.cells #[.slice a1 n1 c1] 41)) := b0.1
  have Z0 : Hid (w0.heap[w.heap.size + 1]? = some (.cells #[.slice a2 n2 c2] 41)) := b0.2.1
  have Y0 : Hid (w0.heap[w.heap.size + 1 + 1]? = some (.cells #[.int .i64 x.ser, .slice s.a1 s.n1 s.c1, .slice s.a2 s.n2 s.c2, .int .i64 x.frm, .int .i64 x.til, .int .i64 x.key.1, .int .u64 x.key.2.1, .int .i64 x.key.2.2, .bool x.ca, .int .i64 x.room, .int .i64 x.uses, .slice s.a3 s.n3 s.c3, .slice s.a4 s.n4 s.c4, .slice s.a5 s.n5 s.c5, .slice s.a6 s.n6 s.c6, .slice s.a7 s.n7 s.c7, .int .i64 x.need, .int .i64 x.nomap, .int .i64 x.noany, .slice s.a8 s.n8 s.c8, .slice s.a9 s.n9 s.c9] 45)) := b0.2.2
  clear b0
  go_enter Tryz.func14, Tryz.ntmps14
  go_upto_region 1 with fail
  rw [← hw0]
  clear hw0
  go_wp2_with (first | (refine wpList_load_row rfl 45 _ rfl (w.heap.size + 1 + 1) rfl 45 #[.int .i64 x.ser, .slice s.a1 s.n1 s.c1, .slice s.a2 s.n2 s.c2, .int .i64 x.frm, .int .i64 x.til, .int .i64 x.key.1, .int .u64 x.key.2.1, .int .i64 x.key.2.2, .bool x.ca, .int .i64 x.room, .int .i64 x.uses, .slice s.a3 s.n3 s.c3, .slice s.a4 s.n4 s.c4, .slice s.a5 s.n5 s.c5, .slice s.a6 s.n6 s.c6, .slice s.a7 s.n7 s.c7, .int .i64 x.need, .int .i64 x.nomap, .int .i64 x.noany, .slice s.a8 s.n8 s.c8, .slice s.a9 s.n9 s.c9] (0, 0) _ Y0.out Tryz.underlying45 rfl infoSizeC7 ?_) | fail)
  refine (HCO.out _ B0.out).mono ?_
  rintro e w1 ⟨v1, rfl, hv1, hb1⟩
  have B1 : Hid (Below w.heap.size w w1) := B0.out.trans (hb1.mono B0.out.size)
  have X1 : Hid (w1.heap[w.heap.size]? = some (.cells #[.slice a1 n1 c1] 41)) := (hb1.block _ (Array.getElem?_eq_some_iff.1 X0.out).1).trans X0.out
  have Z1 : Hid (w1.heap[w.heap.size + 1]? = some (.cells #[.slice a2 n2 c2] 41)) := (hb1.block _ (Array.getElem?_eq_some_iff.1 Z0.out).1).trans Z0.out
  have Y1 : Hid (w1.heap[w.heap.size + 1 + 1]? = some (.cells #[.int .i64 x.ser, .slice s.a1 s.n1 s.c1, .slice s.a2 s.n2 s.c2, .int .i64 x.frm, .int .i64 x.til, .int .i64 x.key.1, .int .u64 x.key.2.1, .int .i64 x.key.2.2, .bool x.ca, .int .i64 x.room, .int .i64 x.uses, .slice s.a3 s.n3 s.c3, .slice s.a4 s.n4 s.c4, .slice s.a5 s.n5 s.c5, .slice s.a6 s.n6 s.c6, .slice s.a7 s.n7 s.c7, .int .i64 x.need, .int .i64 x.nomap, .int .i64 x.noany, .slice s.a8 s.n8 s.c8, .slice s.a9 s.n9 s.c9] 45)) := (hb1.block _ (Array.getElem?_eq_some_iff.1 Y0.out).1).trans Y0.out
  have HV1 : Hid _ := hv1
  clear hb1 hv1 B0 X0 Z0 Y0
  rcases v1 with _ | _
  · have HN : Hid (¬ fnP per n1 den n2 x) := fun q => by have := HV1.out.2 q.1; cases this
    go_wp2
    go_ret
    exact saysB_f HN.out B1.out
  have HCE : Hid (ceP x) := HV1.out.1 rfl
  clear HV1
  have k1 : w1.cell? ⟨w.heap.size, 0, none⟩ = some (.slice a1 n1 c1) := (cell_of_row _ _ 0 _ _ (0, 0) X1.out).trans rfl
  go_wp2_with fail
  refine (everyBase_any a1 n1 c1 per _ (HM.out _ B1.out) (G1.out.kept B1.out) Q1.out).mono ?_
  rintro e w2 ⟨v2, rfl, hv2, hb2⟩
  have B2 : Hid (Below w.heap.size w w2) := B1.out.trans (hb2.mono B1.out.size)
  have X2 : Hid (w2.heap[w.heap.size]? = some (.cells #[.slice a1 n1 c1] 41)) := (hb2.block _ (Array.getElem?_eq_some_iff.1 X1.out).1).trans X1.out
  have Z2 : Hid (w2.heap[w.heap.size + 1]? = some (.cells #[.slice a2 n2 c2] 41)) := (hb2.block _ (Array.getElem?_eq_some_iff.1 Z1.out).1).trans Z1.out
  have Y2 : Hid (w2.heap[w.heap.size + 1 + 1]? = some (.cells #[.int .i64 x.ser, .slice s.a1 s.n1 s.c1, .slice s.a2 s.n2 s.c2, .int .i64 x.frm, .int .i64 x.til, .int .i64 x.key.1, .int .u64 x.key.2.1, .int .i64 x.key.2.2, .bool x.ca, .int .i64 x.room, .int .i64 x.uses, .slice s.a3 s.n3 s.c3, .slice s.a4 s.n4 s.c4, .slice s.a5 s.n5 s.c5, .slice s.a6 s.n6 s.c6, .slice s.a7 s.n7 s.c7, .int .i64 x.need, .int .i64 x.nomap, .int .i64 x.noany, .slice s.a8 s.n8 s.c8, .slice s.a9 s.n9 s.c9] 45)) := (hb2.block _ (Array.getElem?_eq_some_iff.1 Y1.out).1).trans Y1.out
  have HV2 : Hid _ := hv2
  clear hb2 hv2 B1 X1 Z1 Y1 k1
  rcases v2 with _ | _
  · have HN : Hid (¬ fnP per n1 den n2 x) := fun q => by have := HV2.out.2 q.2.1; cases this
    go_wp2
    go_ret
    exact saysB_f HN.out B2.out
  have HPE : Hid (BasesN per n1) := HV2.out.1 rfl
  clear HV2
  have k2 : w2.cell? ⟨w.heap.size + 1, 0, none⟩ = some (.slice a2 n2 c2) := (cell_of_row _ _ 0 _ _ (0, 0) Z2.out).trans rfl
  go_wp2_with fail
  refine (everyBase_any a2 n2 c2 den _ (HM.out _ B2.out) (G2.out.kept B2.out) Q2.out).mono ?_
  rintro e w3 ⟨v3, rfl, hv3, hb3⟩
  have B3 : Hid (Below w.heap.size w w3) := B2.out.trans (hb3.mono B2.out.size)
  have X3 : Hid (w3.heap[w.heap.size]? = some (.cells #[.slice a1 n1 c1] 41)) := (hb3.block _ (Array.getElem?_eq_some_iff.1 X2.out).1).trans X2.out
  have Z3 : Hid (w3.heap[w.heap.size + 1]? = some (.cells #[.slice a2 n2 c2] 41)) := (hb3.block _ (Array.getElem?_eq_some_iff.1 Z2.out).1).trans Z2.out
  have Y3 : Hid (w3.heap[w.heap.size + 1 + 1]? = some (.cells #[.int .i64 x.ser, .slice s.a1 s.n1 s.c1, .slice s.a2 s.n2 s.c2, .int .i64 x.frm, .int .i64 x.til, .int .i64 x.key.1, .int .u64 x.key.2.1, .int .i64 x.key.2.2, .bool x.ca, .int .i64 x.room, .int .i64 x.uses, .slice s.a3 s.n3 s.c3, .slice s.a4 s.n4 s.c4, .slice s.a5 s.n5 s.c5, .slice s.a6 s.n6 s.c6, .slice s.a7 s.n7 s.c7, .int .i64 x.need, .int .i64 x.nomap, .int .i64 x.noany, .slice s.a8 s.n8 s.c8, .slice s.a9 s.n9 s.c9] 45)) := (hb3.block _ (Array.getElem?_eq_some_iff.1 Y2.out).1).trans Y2.out
  have HV3 : Hid _ := hv3
  clear hb3 hv3 B2 X2 Z2 Y2 k2
  rcases v3 with _ | _
  · have HN : Hid (¬ fnP per n1 den n2 x) := fun q => by have := HV3.out.2 q.2.2.1; cases this
    go_wp2
    go_ret
    exact saysB_f HN.out B3.out
  have HDE : Hid (BasesN den n2) := HV3.out.1 rfl
  clear HV3
  go_wp2_with (first | (refine wpList_load_row rfl 45 _ rfl (w.heap.size + 1 + 1) rfl 45 #[.int .i64 x.ser, .slice s.a1 s.n1 s.c1, .slice s.a2 s.n2 s.c2, .int .i64 x.frm, .int .i64 x.til, .int .i64 x.key.1, .int .u64 x.key.2.1, .int .i64 x.key.2.2, .bool x.ca, .int .i64 x.room, .int .i64 x.uses, .slice s.a3 s.n3 s.c3, .slice s.a4 s.n4 s.c4, .slice s.a5 s.n5 s.c5, .slice s.a6 s.n6 s.c6, .slice s.a7 s.n7 s.c7, .int .i64 x.need, .int .i64 x.nomap, .int .i64 x.noany, .slice s.a8 s.n8 s.c8, .slice s.a9 s.n9 s.c9] (0, 0) _ Y3.out Tryz.underlying45 rfl infoSizeC7 ?_) | fail)
  refine (HAN.out _ B3.out).mono ?_
  rintro e w4 ⟨a, n, c, rfl, hg4, hz4, hn4, hb4⟩
  have B4 : Hid (Below w.heap.size w w4) := B3.out.trans (hb4.mono B3.out.size)
  have X4 : Hid (w4.heap[w.heap.size]? = some (.cells #[.slice a1 n1 c1] 41)) := (hb4.block _ (Array.getElem?_eq_some_iff.1 X3.out).1).trans X3.out
  have Z4 : Hid (w4.heap[w.heap.size + 1]? = some (.cells #[.slice a2 n2 c2] 41)) := (hb4.block _ (Array.getElem?_eq_some_iff.1 Z3.out).1).trans Z3.out
  have Y4 : Hid (w4.heap[w.heap.size + 1 + 1]? = some (.cells #[.int .i64 x.ser, .slice s.a1 s.n1 s.c1, .slice s.a2 s.n2 s.c2, .int .i64 x.frm, .int .i64 x.til, .int .i64 x.key.1, .int .u64 x.key.2.1, .int .i64 x.key.2.2, .bool x.ca, .int .i64 x.room, .int .i64 x.uses, .slice s.a3 s.n3 s.c3, .slice s.a4 s.n4 s.c4, .slice s.a5 s.n5 s.c5, .slice s.a6 s.n6 s.c6, .slice s.a7 s.n7 s.c7, .int .i64 x.need, .int .i64 x.nomap, .int .i64 x.noany, .slice s.a8 s.n8 s.c8, .slice s.a9 s.n9 s.c9] 45)) := (hb4.block _ (Array.getElem?_eq_some_iff.1 Y3.out).1).trans Y3.out
  have EV : Hid (Calls Tryz.prog 56 #[.slice a n c, .func (Fn.func 59) #[] #[.pointer (some ⟨w.heap.size + 1, 0, none⟩), .pointer (some ⟨w.heap.size, 0, none⟩)]] w4 (SaysB (∀ k, k < n → fitP per n1 den n2 ((allN x).getD k default)) w4)) := every_fit (fitP per n1 den n2) (w.heap.size + 1) w.heap.size a n c (allN x) w4 hg4 hz4 (fun W an nn cn y hW hy hyz => cl_fit_any y an nn cn a1 n1 c1 per a2 n2 c2 den (w.heap.size + 1) w.heap.size W (HM.out _ (B4.out.trans (hW.mono B4.out.size))) ((hW.block _ (Array.getElem?_eq_some_iff.1 Z4.out).1).trans Z4.out) ((hW.block _ (Array.getElem?_eq_some_iff.1 X4.out).1).trans X4.out) hy hyz (G1.out.kept (B4.out.trans (hW.mono B4.out.size))) Q1.out (G2.out.kept (B4.out.trans (hW.mono B4.out.size))) Q2.out)
  have HLN : Hid ((allN x).length = n) := hg4.len
  clear hb4 hg4 hz4 B3 X3 Z3 Y3
  go_wp2_with fail
  refine EV.out.mono ?_
  rintro e w5 ⟨v5, rfl, hv5, hb5⟩
  have B5 : Hid (Below w.heap.size w w5) := B4.out.trans (hb5.mono B4.out.size)
  have HV : Hid (v5 = true ↔ fnP per n1 den n2 x) := ⟨fun e => ⟨HCE.out, HPE.out, HDE.out, fun k hk => hv5.out.1 e k (by rw [← HLN.out]; exact hk)⟩, fun q => hv5.out.2 (fun k hk => q.2.2.2 k (by rw [HLN.out]; exact hk))⟩
  clear hv5 hb5 EV
  go_wp2
  go_ret
  exact ⟨v5, rfl, HV, B5.out⟩

end Go.Proofs.YtkpabanjlhlmfaaGreatDoor

set_option linter.unusedVariables false
namespace Go.Proofs.YtkpabanjlhlmfaaGreatDoor
open Go.RowKit

theorem ceDrewF {B : Nat} {w w' : World} (h : Below B w w') (n : Nat) : Below B w (w'.drewN n) := by
  induction n with
  | zero => simpa [World.drewN] using h
  | succ n ih => exact ih.drew

set_option maxRecDepth 10000 in
set_option maxHeartbeats 4000000 in
theorem specFit_any (q : GE) (qa : Option Addr) (qn qc : Nat) (a1 : Option Addr) (n1 c1 : Nat) (per : List GE) (a2 : Option Addr) (n2 c2 : Nat) (den : List GE) (w : World) (hq : Pts w qa qn q.parts) (hqz : q.g.text.size ≤ 1048576 ∧ ∀ k, k < qn → (q.parts.getD k default).val.size ≤ 1048576) (h1 : Ges w a1 n1 per) (hz1 : ∀ k, k < n1 → GeOk (per.getD k default)) (h2 : Ges w a2 n2 den) (hz2 : ∀ k, k < n2 → GeOk (den.getD k default)) :
    Calls Tryz.prog 54 #[.slice a1 n1 c1, .slice a2 n2 c2, .agg #[.int .i64 q.g.kind, .string q.g.text, .int .i64 q.g.addr, .int .i64 q.g.bits, .slice qa qn qc]] w (SaysB (fitP per n1 den n2 q) w) := by
  have HQ : Hid (Pts w qa qn q.parts) := hq
  have HQZ : Hid (q.g.text.size ≤ 1048576 ∧ ∀ k, k < qn → (q.parts.getD k default).val.size ≤ 1048576) := hqz
  have G1 : Hid (Ges w a1 n1 per) := h1
  have G2 : Hid (Ges w a2 n2 den) := h2
  have Q1 : Hid (∀ k, k < n1 → GeOk (per.getD k default)) := hz1
  have Q2 : Hid (∀ k, k < n2 → GeOk (den.getD k default)) := hz2
  have hm1 := h1.max
  have hm2 := h2.max
  clear hq hqz h1 h2 hz1 hz2
  obtain ⟨w0, hw0⟩ : ∃ w0, w0 = w.alloc (.cells #[.int .i64 q.g.kind, .string q.g.text, .int .i64 q.g.addr, .int .i64 q.g.bits, .slice qa qn qc] 96) := ⟨_, rfl⟩
  have B0 : Hid (Below w.heap.size w w0) := by show Below _ _ _; rw [hw0]; exact (Below.refl _ _).alloc (Nat.le_refl _) _
  have X0 : Hid (w0.heap[w.heap.size]? = some (.cells #[.int .i64 q.g.kind, .string q.g.text, .int .i64 q.g.addr, .int .i64 q.g.bits, .slice qa qn qc] 96 (0, 0))) := by show _ = _; rw [hw0]; exact heap_alloc_new w _
  go_enter Tryz.func54, Tryz.ntmps54
  go_upto_region 1 with fail
  rw [← hw0]
  clear hw0
  go_wp2
  go_loopw [7] (fun i wr => ∃ k : Nat, k ≤ n2 ∧ i = .int .i64 k ∧ Hid (∀ j, j < k → ¬ wn q (den.getD j default)) ∧ Below w0.heap.size w0 wr) (fun i _ => n2 - (intOf i).toNat)
  case atStart => exact ⟨0, Nat.zero_le _, rfl, fun j hj => absurd hj (Nat.not_lt_zero _), Below.refl _ _⟩
  case round =>
    obtain ⟨wa, hwa⟩ : ∃ wa, wa = wr := ⟨_, rfl⟩
    subst hwa
    obtain ⟨k, hk, rfl, HN, hbr⟩ := hrel
    have Ba : Hid (Below w.heap.size w wa) := B0.out.trans (hbr.mono B0.out.size)
    have Xa : Hid (wa.heap[w.heap.size]? = some (.cells #[.int .i64 q.g.kind, .string q.g.text, .int .i64 q.g.addr, .int .i64 q.g.bits, .slice qa qn qc] 96 (0, 0))) := (hbr.block _ (Array.getElem?_eq_some_iff.1 X0.out).1).trans X0.out
    by_cases hkn : k < n2
    · obtain ⟨b, off, an, nn, cn, rfl, hlb, hcc, hp, _⟩ := G2.out.get k hkn
      have hgp := Q2.out k hkn
      obtain ⟨y, hy⟩ : ∃ y, y = den.getD k default := ⟨_, rfl⟩
      rw [← hy] at hcc hp hgp
      have HY : Hid (y = den.getD k default) := hy
      obtain ⟨c0, c1, c2, c3, c4⟩ := hcc.of (w' := wa) (fun i => Ba.out.cell (p := ⟨b, i, none⟩) hlb)
      have d0 : wa.cell? ⟨w.heap.size, 0, none⟩ = some (.int .i64 q.g.kind) := (cell_of_row _ _ 0 _ 96 (0, 0) Xa.out).trans rfl
      have d1 : wa.cell? ⟨w.heap.size, 1, none⟩ = some (.string q.g.text) := (cell_of_row _ _ 1 _ 96 (0, 0) Xa.out).trans rfl
      have d2 : wa.cell? ⟨w.heap.size, 2, none⟩ = some (.int .i64 q.g.addr) := (cell_of_row _ _ 2 _ 96 (0, 0) Xa.out).trans rfl
      have d3 : wa.cell? ⟨w.heap.size, 3, none⟩ = some (.int .i64 q.g.bits) := (cell_of_row _ _ 3 _ 96 (0, 0) Xa.out).trans rfl
      have d4 : wa.cell? ⟨w.heap.size, 4, none⟩ = some (.slice qa qn qc) := (cell_of_row _ _ 4 _ 96 (0, 0) Xa.out).trans rfl
      have HS : Hid (y.g.text.size ≤ 1048576 ∧ ∀ k, k < nn → (y.parts.getD k default).val.size ≤ 1048576) := ⟨hgp.1, by rw [← hp.len]; exact hgp.2.2⟩
      have WI : Hid (Calls Tryz.prog 99 #[.agg #[.int .i64 q.g.kind, .string q.g.text, .int .i64 q.g.addr, .int .i64 q.g.bits, .slice qa qn qc], .agg #[.int .i64 y.g.kind, .string y.g.text, .int .i64 y.g.addr, .int .i64 y.g.bits, .slice an nn cn]] wa.drew (SaysB (wn q y) wa.drew)) := specWithin_any q.g qa qn qc q.parts y.g an nn cn y.parts wa.drew (HQ.out.kept Ba.out.drew) HQZ.out.2 HQZ.out.1 (hp.kept Ba.out.drew) HS.out.2 HS.out.1
      have hkni : (k : Int) < (n2 : Int) := by omega
      have hs := hbr.size
      clear hcc hy hp hgp
      go_wp2_with fail
      go_region_with (go_at_call 99; refine WI.out.mono ?_; rintro e w2 ⟨v, rfl, hv, hb2⟩)
      all_goals
        have b2 : Below w0.heap.size w0 w2 := hbr.drew.trans (hb2.mono hs)
        have B2 : Hid (Below w.heap.size w w2) := B0.out.trans (b2.mono B0.out.size)
        have HV : Hid _ := hv
        clear hb2 hv c0 c1 c2 c3 c4 d0 d1 d2 d3 d4
        cases v with
        | true =>
          have HF : Hid (¬ fitP per n1 den n2 q) := fun z => z.1 ⟨k, hkn, by rw [← HY.out]; exact HV.out.1 rfl⟩
          go_wp2
          go_ret
          exact saysB_f HF.out B2.out
        | false =>
          have HN2 : Hid (∀ j, j < k + 1 → ¬ wn q (den.getD j default)) := fun j hj => by
            by_cases e : j < k
            · exact HN.out j e
            · obtain rfl : j = k := by omega
              rw [← HY.out]; exact fun z => by have := HV.out.2 z; cases this
          go_wp2
          go_roundw
          case rel => exact ⟨k + 1, by omega, by go_num, HN2, b2⟩
          case measure => simp [intOf]; omega
    have hkn' : k = n2 := by omega
    have hki : ¬ ((k : Int) < (n2 : Int)) := by omega
    have HND : Hid (¬ inOne q den n2) := fun ⟨j, hj, hw⟩ => HN.out j (by omega) hw
    clear HN hkn'
    go_wp2
    go_loopw [9, 8] (fun i f wr => ∃ (m : Nat) (fl : Bool), m ≤ n1 ∧ i = .int .i64 m ∧ f = .bool fl ∧ Hid (fl = true ↔ kindOne q per m) ∧ Hid (∀ j, j < m → ¬ wn q (per.getD j default)) ∧ Below wa.heap.size wa wr) (fun i _ _ => n1 - (intOf i).toNat)
    case atStart => exact ⟨0, false, Nat.zero_le _, rfl, rfl, ⟨fun h => (by cases h), fun ⟨j, hj, _⟩ => absurd hj (Nat.not_lt_zero _)⟩, fun j hj => absurd hj (Nat.not_lt_zero _), Below.refl _ _⟩
    case round =>
      obtain ⟨m, fl, hm, rfl, rfl, HK, HN, hbm⟩ := hrel
      have Bm : Hid (Below w.heap.size w wr) := Ba.out.trans (hbm.mono Ba.out.size)
      have Xm : Hid (wr.heap[w.heap.size]? = some (.cells #[.int .i64 q.g.kind, .string q.g.text, .int .i64 q.g.addr, .int .i64 q.g.bits, .slice qa qn qc] 96 (0, 0))) := (hbm.block _ (Array.getElem?_eq_some_iff.1 Xa.out).1).trans Xa.out
      by_cases hmn : m < n1
      · obtain ⟨b, off, an, nn, cn, rfl, hlb, hcc, hp, _⟩ := G1.out.get m hmn
        have hgp := Q1.out m hmn
        obtain ⟨y, hy⟩ : ∃ y, y = per.getD m default := ⟨_, rfl⟩
        rw [← hy] at hcc hp hgp
        have HY : Hid (y = per.getD m default) := hy
        obtain ⟨c0, c1, c2, c3, c4⟩ := hcc.of (w' := wr) (fun i => Bm.out.cell (p := ⟨b, i, none⟩) hlb)
        have d0 : wr.cell? ⟨w.heap.size, 0, none⟩ = some (.int .i64 q.g.kind) := (cell_of_row _ _ 0 _ 96 (0, 0) Xm.out).trans rfl
        have HS : Hid (y.g.text.size ≤ 1048576 ∧ ∀ k, k < nn → (y.parts.getD k default).val.size ≤ 1048576) := ⟨hgp.1, by rw [← hp.len]; exact hgp.2.2⟩
        have hmni : (m : Int) < (n1 : Int) := by omega
        have hs := hbm.size
        have HPY : Hid (∀ W, Below w.heap.size w W → Pts W an nn y.parts) := fun W hW => hp.kept hW
        have HCY : Hid (∀ W, Below w.heap.size w W → Cells5 W b (off + m * 5) an nn cn y) := fun W hW => hcc.of (fun i => hW.cell (p := ⟨b, i, none⟩) hlb)
        clear hcc hy hp hgp
        by_cases hke : y.g.kind = q.g.kind
        · have he : (y.g.kind == q.g.kind) = true := by simp [hke]
          have HKE : Hid (y.g.kind = q.g.kind) := hke
          clear hke
          go_wp2_with fail
          go_quiet (fail)
          obtain ⟨wd, hwd⟩ : ∃ wd, wd = wr.drewN nq := ⟨_, rfl⟩
          have hbd : Below wa.heap.size wa wd := by rw [hwd]; exact ceDrewF hbm _
          rw [← hwd]
          clear hwd c0 c1 c2 c3 c4 d0
          have Bd : Hid (Below w.heap.size w wd) := Ba.out.trans (hbd.mono Ba.out.size)
          have Xd : Hid (wd.heap[w.heap.size]? = some (.cells #[.int .i64 q.g.kind, .string q.g.text, .int .i64 q.g.addr, .int .i64 q.g.bits, .slice qa qn qc] 96 (0, 0))) := (hbd.block _ (Array.getElem?_eq_some_iff.1 Xa.out).1).trans Xa.out
          obtain ⟨c0, c1, c2, c3, c4⟩ := HCY.out wd Bd.out
          have d0 : wd.cell? ⟨w.heap.size, 0, none⟩ = some (.int .i64 q.g.kind) := (cell_of_row _ _ 0 _ 96 (0, 0) Xd.out).trans rfl
          have d1 : wd.cell? ⟨w.heap.size, 1, none⟩ = some (.string q.g.text) := (cell_of_row _ _ 1 _ 96 (0, 0) Xd.out).trans rfl
          have d2 : wd.cell? ⟨w.heap.size, 2, none⟩ = some (.int .i64 q.g.addr) := (cell_of_row _ _ 2 _ 96 (0, 0) Xd.out).trans rfl
          have d3 : wd.cell? ⟨w.heap.size, 3, none⟩ = some (.int .i64 q.g.bits) := (cell_of_row _ _ 3 _ 96 (0, 0) Xd.out).trans rfl
          have d4 : wd.cell? ⟨w.heap.size, 4, none⟩ = some (.slice qa qn qc) := (cell_of_row _ _ 4 _ 96 (0, 0) Xd.out).trans rfl
          have WI : Hid (Calls Tryz.prog 99 #[.agg #[.int .i64 q.g.kind, .string q.g.text, .int .i64 q.g.addr, .int .i64 q.g.bits, .slice qa qn qc], .agg #[.int .i64 y.g.kind, .string y.g.text, .int .i64 y.g.addr, .int .i64 y.g.bits, .slice an nn cn]] wd.drew (SaysB (wn q y) wd.drew)) := specWithin_any q.g qa qn qc q.parts y.g an nn cn y.parts wd.drew (HQ.out.kept Bd.out.drew) HQZ.out.2 HQZ.out.1 (HPY.out _ Bd.out.drew) HS.out.2 HS.out.1
          have hsd := hbd.size
          go_wp2_with fail
          go_region_with (go_at_call 99; refine WI.out.mono ?_; rintro e w2 ⟨v, rfl, hv, hb2⟩)
          all_goals
            have b2 : Below wa.heap.size wa w2 := hbd.drew.trans (hb2.mono hsd)
            have B2 : Hid (Below w.heap.size w w2) := Ba.out.trans (b2.mono Ba.out.size)
            have HV : Hid _ := hv
            clear hb2 hv c0 c1 c2 c3 c4 d0 d1 d2 d3 d4
            cases v with
            | true =>
              have HF : Hid (fitP per n1 den n2 q) := ⟨HND.out, .inr ⟨m, hmn, by rw [← HY.out]; exact HV.out.1 rfl⟩⟩
              go_wp2
              go_ret
              exact saysB_t HF.out B2.out
            | false =>
              have HN2 : Hid (∀ j, j < m + 1 → ¬ wn q (per.getD j default)) := fun j hj => by
                by_cases e : j < m
                · exact HN.out j e
                · obtain rfl : j = m := by omega
                  rw [← HY.out]; exact fun z => by have := HV.out.2 z; cases this
              have HK2 : Hid (true = true ↔ kindOne q per (m + 1)) := ⟨fun _ => ⟨m, by omega, by rw [← HY.out]; exact HKE.out⟩, fun _ => rfl⟩
              go_wp2
              go_roundw
              case rel => exact ⟨m + 1, true, by omega, by go_num, rfl, HK2, HN2, b2⟩
              case measure => simp [intOf]; omega
        · have he : (y.g.kind == q.g.kind) = false := by simp [hke]
          have HKE : Hid (¬ y.g.kind = q.g.kind) := hke
          clear hke
          have HN2 : Hid (∀ j, j < m + 1 → ¬ wn q (per.getD j default)) := fun j hj => by
            by_cases e : j < m
            · exact HN.out j e
            · obtain rfl : j = m := by omega
              rw [← HY.out]; exact fun z => HKE.out z.2.2.1.symm
          have HK2 : Hid (fl = true ↔ kindOne q per (m + 1)) := ⟨fun e => by obtain ⟨j, hj, h⟩ := HK.out.1 e; exact ⟨j, by omega, h⟩, fun ⟨j, hj, h⟩ => by
            by_cases e : j < m
            · exact HK.out.2 ⟨j, e, h⟩
            · obtain rfl : j = m := by omega
              rw [← HY.out] at h; exact absurd h HKE.out⟩
          go_wp2_with fail
          go_quiet (fail)
          go_wp2
          go_roundw
          case rel => exact ⟨m + 1, fl, by omega, by go_num, rfl, HK2, HN2, ceDrewF hbm _⟩
          case measure => simp [intOf]; omega
      · have hmn' : m = n1 := by omega
        have hmi : ¬ ((m : Int) < (n1 : Int)) := by omega
        subst hmn'
        have HF : Hid ((!fl) = true ↔ fitP per m den n2 q) := by
          constructor
          · intro e
            exact ⟨HND.out, .inl (fun z => by have := HK.out.2 z; rw [this] at e; cases e)⟩
          · intro z
            cases fl with
            | false => rfl
            | true => exact absurd (HK.out.1 rfl) (fun kk => by rcases z.2 with z | ⟨j, hj, hw⟩; exact z kk; exact HN.out j hj hw)
        go_wp2
        go_ret
        exact ⟨!fl, rfl, HF, Bm.out⟩

end Go.Proofs.YtkpabanjlhlmfaaGreatDoor

set_option linter.unusedVariables false
namespace Go.Proofs.YtkpabanjlhlmfaaGreatDoor
open Go.RowKit

theorem all_split {x : CE} {p : GE → Prop} : (∀ k, k < (allN x).length → p ((allN x).getD k default)) ↔ (∀ k, k < x.nms.length → p (x.nms.getD k default)) ∧ (x.sub ≠ [] → p ⟨⟨4, ⟨#[]⟩, 0, 0⟩, x.sub⟩) := by
  unfold allN
  by_cases h : x.sub = []
  · rw [if_pos h, List.append_nil]
    exact ⟨fun q => ⟨q, fun z => absurd h z⟩, fun q => q.1⟩
  · rw [if_neg h]
    constructor
    · intro q
      refine ⟨fun k hk => ?_, fun _ => ?_⟩
      · have := q k (by simp; omega)
        rw [List.getD_eq_getElem?_getD, List.getElem?_append_left hk, ← List.getD_eq_getElem?_getD] at this
        exact this
      · have := q x.nms.length (by simp)
        rw [List.getD_eq_getElem?_getD, List.getElem?_append_right (Nat.le_refl _), Nat.sub_self] at this
        exact this
    · intro q k hk
      by_cases e : k < x.nms.length
      · rw [List.getD_eq_getElem?_getD, List.getElem?_append_left e, ← List.getD_eq_getElem?_getD]
        exact q.1 k e
      · obtain rfl : k = x.nms.length := by simp at hk; omega
        rw [List.getD_eq_getElem?_getD, List.getElem?_append_right (Nat.le_refl _), Nat.sub_self]
        exact q.2 h

set_option maxRecDepth 10000 in
set_option maxHeartbeats 4000000 in
theorem specFits_any (a1 : Option Addr) (n1 c1 : Nat) (per : List GE) (a2 : Option Addr) (n2 c2 : Nat) (den : List GE) (s : CES) (x : CE) (w : World) (h1 : Ges w a1 n1 per) (hz1 : ∀ k, k < n1 → GeOk (per.getD k default)) (h2 : Ges w a2 n2 den) (hz2 : ∀ k, k < n2 → GeOk (den.getD k default)) (h : CER w s x) (hz : CEZ x) (ht : CET s) (hu : U64 x.key.2.1) :
    Calls Tryz.prog 12 #[.slice a1 n1 c1, .slice a2 n2 c2, CEv s x] w (SaysB (fnP per n1 den n2 x) w) := by
  have HK : Hid (CER w s x) := h
  have HZN : Hid ((s.n1 ≤ 1048576 ∧ (∀ k, k < s.n1 → (x.iss.getD k default).val.size ≤ 1048576)) ∧ (s.n2 ≤ 1048576 ∧ (∀ k, k < s.n2 → (x.sub.getD k default).val.size ≤ 1048576)) ∧ (s.n3 ≤ 1048576 ∧ (∀ k, k < s.n3 → GeOk (x.nms.getD k default))) ∧ (s.n4 ≤ 1048576 ∧ (∀ k, k < s.n4 → GeOk (x.per.getD k default))) ∧ (s.n5 ≤ 1048576 ∧ (∀ k, k < s.n5 → GeOk (x.den.getD k default))) ∧ (s.n6 ≤ 1048576) ∧ (s.n7 ≤ 1048576) ∧ (s.n8 ≤ 1048576 ∧ (∀ k, k < s.n8 → XPZ (x.ext.getD k default))) ∧ (s.n9 ≤ 1048576)) := h.zn.1 hz
  have HL2 : Hid (x.sub.length = s.n2) := h.r2.len
  have HL3 : Hid (x.nms.length = s.n3) := h.r3.len
  have HCO : Hid (∀ W, Below w.heap.size w W → Calls Tryz.prog 7 #[.agg #[.int .i64 x.ser, .slice s.a1 s.n1 s.c1, .slice s.a2 s.n2 s.c2, .int .i64 x.frm, .int .i64 x.til, .int .i64 x.key.1, .int .u64 x.key.2.1, .int .i64 x.key.2.2, .bool x.ca, .int .i64 x.room, .int .i64 x.uses, .slice s.a3 s.n3 s.c3, .slice s.a4 s.n4 s.c4, .slice s.a5 s.n5 s.c5, .slice s.a6 s.n6 s.c6, .slice s.a7 s.n7 s.c7, .int .i64 x.need, .int .i64 x.nomap, .int .i64 x.noany, .slice s.a8 s.n8 s.c8, .slice s.a9 s.n9 s.c9]] W (Says (ceP x) W)) := fun W hW => specCertOk_any s x W (h.kept hW) hz ht hu
  have G1 : Hid (Ges w a1 n1 per) := h1
  have G2 : Hid (Ges w a2 n2 den) := h2
  have Q1 : Hid (∀ k, k < n1 → GeOk (per.getD k default)) := hz1
  have Q2 : Hid (∀ k, k < n2 → GeOk (den.getD k default)) := hz2
  have hm1 := h1.max
  have hm2 := h2.max
  clear h hz ht hu h1 h2 hz1 hz2
  show Calls Tryz.prog 12 #[.slice a1 n1 c1, .slice a2 n2 c2, .agg #[.int .i64 x.ser, .slice s.a1 s.n1 s.c1, .slice s.a2 s.n2 s.c2, .int .i64 x.frm, .int .i64 x.til, .int .i64 x.key.1, .int .u64 x.key.2.1, .int .i64 x.key.2.2, .bool x.ca, .int .i64 x.room, .int .i64 x.uses, .slice s.a3 s.n3 s.c3, .slice s.a4 s.n4 s.c4, .slice s.a5 s.n5 s.c5, .slice s.a6 s.n6 s.c6, .slice s.a7 s.n7 s.c7, .int .i64 x.need, .int .i64 x.nomap, .int .i64 x.noany, .slice s.a8 s.n8 s.c8, .slice s.a9 s.n9 s.c9]] w _
  obtain ⟨w0, hw0⟩ : ∃ w0, w0 = w.alloc (.cells #[.int .i64 x.ser, .slice s.a1 s.n1 s.c1, .slice s.a2 s.n2 s.c2, .int .i64 x.frm, .int .i64 x.til, .int .i64 x.key.1, .int .u64 x.key.2.1, .int .i64 x.key.2.2, .bool x.ca, .int .i64 x.room, .int .i64 x.uses, .slice s.a3 s.n3 s.c3, .slice s.a4 s.n4 s.c4, .slice s.a5 s.n5 s.c5, .slice s.a6 s.n6 s.c6, .slice s.a7 s.n7 s.c7, .int .i64 x.need, .int .i64 x.nomap, .int .i64 x.noany, .slice s.a8 s.n8 s.c8, .slice s.a9 s.n9 s.c9] 45) := ⟨_, rfl⟩
  have B0 : Hid (Below w.heap.size w w0) := by show Below _ _ _; rw [hw0]; exact (Below.refl _ _).alloc (Nat.le_refl _) _
  have Y0 : Hid (w0.heap[w.heap.size]? = some (.cells #[.int .i64 x.ser, .slice s.a1 s.n1 s.c1, .slice s.a2 s.n2 s.c2, .int .i64 x.frm, .int .i64 x.til, .int .i64 x.key.1, .int .u64 x.key.2.1, .int .i64 x.key.2.2, .bool x.ca, .int .i64 x.room, .int .i64 x.uses, .slice s.a3 s.n3 s.c3, .slice s.a4 s.n4 s.c4, .slice s.a5 s.n5 s.c5, .slice s.a6 s.n6 s.c6, .slice s.a7 s.n7 s.c7, .int .i64 x.need, .int .i64 x.nomap, .int .i64 x.noany, .slice s.a8 s.n8 s.c8, .slice s.a9 s.n9 s.c9] 45)) := by show _ = _; rw [hw0]; exact heap_alloc_new w _
  go_enter Tryz.func12, Tryz.ntmps12
  go_upto_region 1 with fail
  rw [← hw0]
  clear hw0
  go_wp2_with (first | (refine wpList_load_row rfl 45 _ rfl w.heap.size rfl 45 #[.int .i64 x.ser, .slice s.a1 s.n1 s.c1, .slice s.a2 s.n2 s.c2, .int .i64 x.frm, .int .i64 x.til, .int .i64 x.key.1, .int .u64 x.key.2.1, .int .i64 x.key.2.2, .bool x.ca, .int .i64 x.room, .int .i64 x.uses, .slice s.a3 s.n3 s.c3, .slice s.a4 s.n4 s.c4, .slice s.a5 s.n5 s.c5, .slice s.a6 s.n6 s.c6, .slice s.a7 s.n7 s.c7, .int .i64 x.need, .int .i64 x.nomap, .int .i64 x.noany, .slice s.a8 s.n8 s.c8, .slice s.a9 s.n9 s.c9] (0, 0) _ Y0.out Tryz.underlying45 rfl infoSizeC7 ?_) | fail)
  refine (HCO.out _ B0.out).mono ?_
  rintro e w1 ⟨v1, rfl, hv1, hb1⟩
  have B1 : Hid (Below w.heap.size w w1) := B0.out.trans (hb1.mono B0.out.size)
  have Y1 : Hid (w1.heap[w.heap.size]? = some (.cells #[.int .i64 x.ser, .slice s.a1 s.n1 s.c1, .slice s.a2 s.n2 s.c2, .int .i64 x.frm, .int .i64 x.til, .int .i64 x.key.1, .int .u64 x.key.2.1, .int .i64 x.key.2.2, .bool x.ca, .int .i64 x.room, .int .i64 x.uses, .slice s.a3 s.n3 s.c3, .slice s.a4 s.n4 s.c4, .slice s.a5 s.n5 s.c5, .slice s.a6 s.n6 s.c6, .slice s.a7 s.n7 s.c7, .int .i64 x.need, .int .i64 x.nomap, .int .i64 x.noany, .slice s.a8 s.n8 s.c8, .slice s.a9 s.n9 s.c9] 45)) := (hb1.block _ (Array.getElem?_eq_some_iff.1 Y0.out).1).trans Y0.out
  have HV1 : Hid _ := hv1
  clear hb1 hv1 B0 Y0
  rcases v1 with _ | _
  · have HN : Hid (¬ fnP per n1 den n2 x) := fun q => by have := HV1.out.2 q.1; cases this
    go_wp2
    go_ret
    exact saysB_f HN.out B1.out
  have HCE : Hid (ceP x) := HV1.out.1 rfl
  clear HV1 HCO
  go_wp2
  go_loopw [7] (fun i wr => ∃ k : Nat, k ≤ n1 ∧ i = .int .i64 k ∧ Hid (BasesN per k) ∧ Below w1.heap.size w1 wr) (fun i _ => n1 - (intOf i).toNat)
  case atStart => exact ⟨0, Nat.zero_le _, rfl, fun k hk => absurd hk (Nat.not_lt_zero _), Below.refl _ _⟩
  case round =>
    obtain ⟨wp, hwp⟩ : ∃ wp, wp = wr := ⟨_, rfl⟩
    subst hwp
    obtain ⟨k, hk, rfl, HE, hbr⟩ := hrel
    have Bwp : Hid (Below w.heap.size w wp) := B1.out.trans (hbr.mono B1.out.size)
    have Ywp : Hid (wp.heap[w.heap.size]? = some (.cells #[.int .i64 x.ser, .slice s.a1 s.n1 s.c1, .slice s.a2 s.n2 s.c2, .int .i64 x.frm, .int .i64 x.til, .int .i64 x.key.1, .int .u64 x.key.2.1, .int .i64 x.key.2.2, .bool x.ca, .int .i64 x.room, .int .i64 x.uses, .slice s.a3 s.n3 s.c3, .slice s.a4 s.n4 s.c4, .slice s.a5 s.n5 s.c5, .slice s.a6 s.n6 s.c6, .slice s.a7 s.n7 s.c7, .int .i64 x.need, .int .i64 x.nomap, .int .i64 x.noany, .slice s.a8 s.n8 s.c8, .slice s.a9 s.n9 s.c9] 45)) := (hbr.block _ (Array.getElem?_eq_some_iff.1 Y1.out).1).trans Y1.out
    by_cases hkn : k < n1
    · obtain ⟨b, off, an, nn, cn, rfl, hlb, hc, hp, _⟩ := G1.out.get k hkn
      have hgp := Q1.out k hkn
      obtain ⟨y, hy⟩ : ∃ y, y = per.getD k default := ⟨_, rfl⟩
      rw [← hy] at hc hp hgp
      have HY : Hid (y = per.getD k default) := hy
      obtain ⟨e0, e1, e2, e3, e4⟩ := hc.of (w' := wp) (fun i => Bwp.out.cell (p := ⟨b, i, none⟩) hlb)
      have HP : Hid (Pts wp an nn y.parts) := hp.kept Bwp.out
      have HS : Hid (y.g.text.size ≤ 1048576 ∧ ∀ k, k < nn → (y.parts.getD k default).val.size ≤ 1048576) := ⟨hgp.1, by rw [← hp.len]; exact hgp.2.2⟩
      have hkni : (k : Int) < (n1 : Int) := by omega
      clear hc hy hp hgp
      go_wp2_with fail
      refine (specBaseOk_any y.g an nn cn y.parts _ HP.out HS.out.2 HS.out.1).mono ?_
      rintro e w2 ⟨v, rfl, hv, hb2⟩
      have b2 : Below w1.heap.size w1 w2 := hbr.trans (hb2.mono hbr.size)
      have B2 : Hid (Below w.heap.size w w2) := B1.out.trans (b2.mono B1.out.size)
      have HV : Hid _ := hv
      clear hb2 hv e0 e1 e2 e3 e4
      cases v with
      | false =>
        have HN : Hid (¬ fnP per n1 den n2 x) := fun q => by have := q.2.1 k hkn; rw [← HY.out] at this; have := HV.out.2 this; simp at this
        go_wp2
        go_ret
        exact saysB_f HN.out B2.out
      | true =>
        have HN : Hid (BasesN per (k + 1)) := fun j hj => by
          by_cases e : j < k
          · exact HE.out j e
          · obtain rfl : j = k := by omega
            rw [← HY.out]; exact HV.out.1 rfl
        go_wp2
        go_roundw
        case rel => exact ⟨k + 1, by omega, by go_num, HN, b2⟩
        case measure => simp [intOf]; omega
    have hki : ¬ ((k : Int) < (n1 : Int)) := by omega
    have Hwp : Hid (BasesN per n1) := fun j hj => HE.out j (by omega)
    clear HE hkn
    go_wp2
    go_loopw [8] (fun i wr => ∃ k : Nat, k ≤ n2 ∧ i = .int .i64 k ∧ Hid (BasesN den k) ∧ Below wp.heap.size wp wr) (fun i _ => n2 - (intOf i).toNat)
    case atStart => exact ⟨0, Nat.zero_le _, rfl, fun k hk => absurd hk (Nat.not_lt_zero _), Below.refl _ _⟩
    case round =>
      obtain ⟨wq, hwq⟩ : ∃ wq, wq = wr := ⟨_, rfl⟩
      subst hwq
      obtain ⟨k, hk, rfl, HE, hbr⟩ := hrel
      have Bwq : Hid (Below w.heap.size w wq) := Bwp.out.trans (hbr.mono Bwp.out.size)
      have Ywq : Hid (wq.heap[w.heap.size]? = some (.cells #[.int .i64 x.ser, .slice s.a1 s.n1 s.c1, .slice s.a2 s.n2 s.c2, .int .i64 x.frm, .int .i64 x.til, .int .i64 x.key.1, .int .u64 x.key.2.1, .int .i64 x.key.2.2, .bool x.ca, .int .i64 x.room, .int .i64 x.uses, .slice s.a3 s.n3 s.c3, .slice s.a4 s.n4 s.c4, .slice s.a5 s.n5 s.c5, .slice s.a6 s.n6 s.c6, .slice s.a7 s.n7 s.c7, .int .i64 x.need, .int .i64 x.nomap, .int .i64 x.noany, .slice s.a8 s.n8 s.c8, .slice s.a9 s.n9 s.c9] 45)) := (hbr.block _ (Array.getElem?_eq_some_iff.1 Ywp.out).1).trans Ywp.out
      by_cases hkn : k < n2
      · obtain ⟨b, off, an, nn, cn, rfl, hlb, hc, hp, _⟩ := G2.out.get k hkn
        have hgp := Q2.out k hkn
        obtain ⟨y, hy⟩ : ∃ y, y = den.getD k default := ⟨_, rfl⟩
        rw [← hy] at hc hp hgp
        have HY : Hid (y = den.getD k default) := hy
        obtain ⟨e0, e1, e2, e3, e4⟩ := hc.of (w' := wq) (fun i => Bwq.out.cell (p := ⟨b, i, none⟩) hlb)
        have HP : Hid (Pts wq an nn y.parts) := hp.kept Bwq.out
        have HS : Hid (y.g.text.size ≤ 1048576 ∧ ∀ k, k < nn → (y.parts.getD k default).val.size ≤ 1048576) := ⟨hgp.1, by rw [← hp.len]; exact hgp.2.2⟩
        have hkni : (k : Int) < (n2 : Int) := by omega
        clear hc hy hp hgp
        go_wp2_with fail
        refine (specBaseOk_any y.g an nn cn y.parts _ HP.out HS.out.2 HS.out.1).mono ?_
        rintro e w2 ⟨v, rfl, hv, hb2⟩
        have b2 : Below wp.heap.size wp w2 := hbr.trans (hb2.mono hbr.size)
        have B2 : Hid (Below w.heap.size w w2) := Bwp.out.trans (b2.mono Bwp.out.size)
        have HV : Hid _ := hv
        clear hb2 hv e0 e1 e2 e3 e4
        cases v with
        | false =>
          have HN : Hid (¬ fnP per n1 den n2 x) := fun q => by have := q.2.2.1 k hkn; rw [← HY.out] at this; have := HV.out.2 this; simp at this
          go_wp2
          go_ret
          exact saysB_f HN.out B2.out
        | true =>
          have HN : Hid (BasesN den (k + 1)) := fun j hj => by
            by_cases e : j < k
            · exact HE.out j e
            · obtain rfl : j = k := by omega
              rw [← HY.out]; exact HV.out.1 rfl
          go_wp2
          go_roundw
          case rel => exact ⟨k + 1, by omega, by go_num, HN, b2⟩
          case measure => simp [intOf]; omega
      have hki : ¬ ((k : Int) < (n2 : Int)) := by omega
      have Hwq : Hid (BasesN den n2) := fun j hj => HE.out j (by omega)
      clear HE hkn
      go_wp2
      go_loopw [9] (fun i wr => ∃ k : Nat, k ≤ s.n3 ∧ i = .int .i64 k ∧ Hid (∀ j, j < k → fitP per n1 den n2 (x.nms.getD j default)) ∧ Below wq.heap.size wq wr) (fun i _ => s.n3 - (intOf i).toNat)
      case atStart => exact ⟨0, Nat.zero_le _, rfl, fun k hk => absurd hk (Nat.not_lt_zero _), Below.refl _ _⟩
      case round =>
        obtain ⟨k, hk, rfl, HE, hbr⟩ := hrel
        have Br : Hid (Below w.heap.size w wr) := Bwq.out.trans (hbr.mono Bwq.out.size)
        have Yr : Hid (wr.heap[w.heap.size]? = some (.cells #[.int .i64 x.ser, .slice s.a1 s.n1 s.c1, .slice s.a2 s.n2 s.c2, .int .i64 x.frm, .int .i64 x.til, .int .i64 x.key.1, .int .u64 x.key.2.1, .int .i64 x.key.2.2, .bool x.ca, .int .i64 x.room, .int .i64 x.uses, .slice s.a3 s.n3 s.c3, .slice s.a4 s.n4 s.c4, .slice s.a5 s.n5 s.c5, .slice s.a6 s.n6 s.c6, .slice s.a7 s.n7 s.c7, .int .i64 x.need, .int .i64 x.nomap, .int .i64 x.noany, .slice s.a8 s.n8 s.c8, .slice s.a9 s.n9 s.c9] 45)) := (hbr.block _ (Array.getElem?_eq_some_iff.1 Ywq.out).1).trans Ywq.out
        have hx3 : s.n3 ≤ 1048576 := HZN.out.2.2.1.1
        have hx2 : s.n2 ≤ 1048576 := HZN.out.2.1.1
        by_cases hkn : k < s.n3
        · obtain ⟨b, off, an, nn, cn, hae, hlb, hc, hp, _⟩ := HK.out.r3.get k hkn
          have hgp := HZN.out.2.2.1.2 k hkn
          obtain ⟨y, hy⟩ : ∃ y, y = x.nms.getD k default := ⟨_, rfl⟩
          rw [← hy] at hc hp hgp
          have HY : Hid (y = x.nms.getD k default) := hy
          obtain ⟨e0, e1, e2, e3, e4⟩ := hc.of (w' := wr) (fun i => Br.out.cell (p := ⟨b, i, none⟩) hlb)
          have p11 : wr.cell? ⟨w.heap.size, 11, none⟩ = some (.slice (some ⟨b, off, none⟩) s.n3 s.c3) := by rw [← hae]; exact (cell_of_row _ _ 11 _ 45 (0, 0) Yr.out).trans rfl
          have FI : Hid (Calls Tryz.prog 54 #[.slice a1 n1 c1, .slice a2 n2 c2, .agg #[.int .i64 y.g.kind, .string y.g.text, .int .i64 y.g.addr, .int .i64 y.g.bits, .slice an nn cn]] wr (SaysB (fitP per n1 den n2 y) wr)) := specFit_any y an nn cn a1 n1 c1 per a2 n2 c2 den wr (hp.kept Br.out) ⟨hgp.1, by rw [← hp.len]; exact hgp.2.2⟩ (G1.out.kept Br.out) Q1.out (G2.out.kept Br.out) Q2.out
          have hkni : (k : Int) < (s.n3 : Int) := by omega
          clear hc hy hp hgp hae
          go_wp2_with fail
          refine FI.out.mono ?_
          rintro e w2 ⟨v, rfl, hv, hb2⟩
          have b2 : Below wq.heap.size wq w2 := hbr.trans (hb2.mono hbr.size)
          have B2 : Hid (Below w.heap.size w w2) := Bwq.out.trans (b2.mono Bwq.out.size)
          have HV : Hid _ := hv
          clear hb2 hv e0 e1 e2 e3 e4 p11
          cases v with
          | false =>
            have HN : Hid (¬ fnP per n1 den n2 x) := fun q => by have := (all_split.1 q.2.2.2).1 k (by rw [HL3.out]; exact hkn); rw [← HY.out] at this; have := HV.out.2 this; simp at this
            go_wp2
            go_ret
            exact saysB_f HN.out B2.out
          | true =>
            have HN : Hid (∀ j, j < k + 1 → fitP per n1 den n2 (x.nms.getD j default)) := fun j hj => by
              by_cases e : j < k
              · exact HE.out j e
              · obtain rfl : j = k := by omega
                rw [← HY.out]; exact HV.out.1 rfl
            go_wp2
            go_roundw
            case rel => exact ⟨k + 1, by omega, by go_num, HN, b2⟩
            case measure => simp [intOf]; omega
        have hki : ¬ ((k : Int) < (s.n3 : Int)) := by omega
        have HNM : Hid (∀ j, j < x.nms.length → fitP per n1 den n2 (x.nms.getD j default)) := fun j hj => HE.out j (by rw [HL3.out] at hj; omega)
        have p11 : wr.cell? ⟨w.heap.size, 11, none⟩ = some (.slice s.a3 s.n3 s.c3) := (cell_of_row _ _ 11 _ 45 (0, 0) Yr.out).trans rfl
        have p2 : wr.cell? ⟨w.heap.size, 2, none⟩ = some (.slice s.a2 s.n2 s.c2) := (cell_of_row _ _ 2 _ 45 (0, 0) Yr.out).trans rfl
        clear HE hkn
        by_cases h0 : s.n2 = 0
        · have he : ((s.n2 : Int) == 0) = true := by simp [h0]
          have HT : Hid (fnP per n1 den n2 x) := ⟨HCE.out, Hwp.out, Hwq.out, all_split.2 ⟨HNM.out, fun z => absurd (List.eq_nil_of_length_eq_zero (by rw [HL2.out]; exact h0)) z⟩⟩
          clear h0
          go_wp2
          go_ret
          exact saysB_t HT.out Br.out
        · have he : ((s.n2 : Int) == 0) = false := by simp [h0]
          have HSN : Hid (x.sub ≠ []) := fun z => h0 (by rw [← HL2.out, z]; rfl)
          clear h0
          have FI : Hid (Calls Tryz.prog 54 #[.slice a1 n1 c1, .slice a2 n2 c2, .agg #[.int .i64 4, .string ⟨#[]⟩, .int .i64 0, .int .i64 0, .slice s.a2 s.n2 s.c2]] wr (SaysB (fitP per n1 den n2 ⟨⟨4, ⟨#[]⟩, 0, 0⟩, x.sub⟩) wr)) := specFit_any ⟨⟨4, ⟨#[]⟩, 0, 0⟩, x.sub⟩ s.a2 s.n2 s.c2 a1 n1 c1 per a2 n2 c2 den wr (HK.out.kept Br.out).r2 ⟨by show ByteArray.size ⟨#[]⟩ ≤ 1048576; decide, HZN.out.2.1.2⟩ (G1.out.kept Br.out) Q1.out (G2.out.kept Br.out) Q2.out
          go_wp2_with fail
          refine FI.out.mono ?_
          rintro e w2 ⟨v, rfl, hv, hb2⟩
          have B2 : Hid (Below w.heap.size w w2) := Br.out.trans (hb2.mono Br.out.size)
          have HV : Hid (v = true ↔ fnP per n1 den n2 x) := ⟨fun e => ⟨HCE.out, Hwp.out, Hwq.out, all_split.2 ⟨HNM.out, fun _ => hv.out.1 e⟩⟩, fun q => hv.out.2 ((all_split.1 q.2.2.2).2 HSN.out)⟩
          clear hv hb2 p2 p11 FI
          go_wp2
          go_ret
          exact ⟨v, rfl, HV, B2.out⟩

end Go.Proofs.YtkpabanjlhlmfaaGreatDoor

set_option linter.unusedVariables false
namespace Go.Proofs.YtkpabanjlhlmfaaGreatDoor
open Go.RowKit

theorem infoSize9 : (Tryz.prog.info? 45).map (·.size) = some 21 := by kernel_rfl
theorem infoSizeL9 : (Tryz.prog.info? 34).map (·.size) = some 21 := by kernel_rfl
theorem opw_not {P : Program} {Q : Exit → Act → World → Prop} {o : Oper} {a : Act} {w : World} {K : Act → World → Prop} (t x : Nat) (ho : o.op = .unOp .not t (.tmp x)) (p : Bool) (hx : aT a x = .bool p) (h : K (a.put o.dst (.bool (!p))) w) : o.wp P a w K Q := by
  refine opw_value (.bool (!p)) ?_ h
  have hx' : a.eval (.tmp x) = .bool p := hx
  unfold execOp
  simp only [ho, hx']
  simp [go_sem]
/-- What is known of a region (RJ). -/
def lf11 (a1 : Option Addr) (n1 c1 : Nat) (per : List GE) (a2 : Option Addr) (n2 c2 : Nat) (den : List GE) (s : CES) (x : CE) (G B : Nat) : RSpec where
  m := 8
  n := 9
  slots := [28, 29, 30, 31, 32, 33, 34, 8, 100008]
  kills := [[], [], [], [], [], [], [], [], []]
  pres := [[], [], [], [], [], [], [], [], []]
  fact := fun k v w => match k with
    | 0 => v = .slice a1 n1 c1
    | 1 => ∃ u1, v = .slice u1 n1 n1 ∧ Ges w u1 n1 per
    | 2 => v = .slice a2 n2 c2
    | 3 => ∃ u2, v = .slice u2 n2 n2 ∧ Ges w u2 n2 den
    | 4 => v = .agg #[.int .i64 x.ser, .slice s.a1 s.n1 s.c1, .slice s.a2 s.n2 s.c2, .int .i64 x.frm, .int .i64 x.til, .int .i64 x.key.1, .int .u64 x.key.2.1, .int .i64 x.key.2.2, .bool x.ca, .int .i64 x.room, .int .i64 x.uses, .slice s.a3 s.n3 s.c3, .slice s.a4 s.n4 s.c4, .slice s.a5 s.n5 s.c5, .slice s.a6 s.n6 s.c6, .slice s.a7 s.n7 s.c7, .int .i64 x.need, .int .i64 x.nomap, .int .i64 x.noany, .slice s.a8 s.n8 s.c8, .slice s.a9 s.n9 s.c9]
    | 5 => ∃ (u : CES), v = CEv u x ∧ CER w u x ∧ CET u
    | 6 => ∃ (vb : Bool), v = .bool vb ∧ (vb = true ↔ fnP per n1 den n2 x)
    | 7 => ∃ (vb : Bool), v = .bool vb ∧ (vb = true ↔ fnP per n1 den n2 x)
    | _ => w.heap[G]? = some (.cells #[.int .i64 x.ser, .slice s.a1 s.n1 s.c1, .slice s.a2 s.n2 s.c2, .int .i64 x.frm, .int .i64 x.til, .int .i64 x.key.1, .int .u64 x.key.2.1, .int .i64 x.key.2.2, .bool x.ca, .int .i64 x.room, .int .i64 x.uses, .slice s.a3 s.n3 s.c3, .slice s.a4 s.n4 s.c4, .slice s.a5 s.n5 s.c5, .slice s.a6 s.n6 s.c6, .slice s.a7 s.n7 s.c7, .int .i64 x.need, .int .i64 x.nomap, .int .i64 x.noany, .slice s.a8 s.n8 s.c8, .slice s.a9 s.n9 s.c9] 34 (0, 0))
set_option linter.unusedVariables false in
theorem lf11_stb (a1 : Option Addr) (n1 c1 : Nat) (per : List GE) (a2 : Option Addr) (n2 c2 : Nat) (den : List GE) (s : CES) (x : CE) (G B : Nat) (k : Nat) (hk : k < 9) : StB ((lf11 a1 n1 c1 per a2 n2 c2 den s x G (B)).fact k) := by
  match k, hk with
  | 0, _ => exact fun _ _ _ h _ => h
  | 1, _ => exact fun _ _ _ ⟨u1, hv, q_0⟩ hb => ⟨u1, hv, q_0.kept hb⟩
  | 2, _ => exact fun _ _ _ h _ => h
  | 3, _ => exact fun _ _ _ ⟨u2, hv, q_0⟩ hb => ⟨u2, hv, q_0.kept hb⟩
  | 4, _ => exact fun _ _ _ h _ => h
  | 5, _ => exact fun _ _ _ ⟨u, hv, q_0, q_1⟩ hb => ⟨u, hv, q_0.kept hb, q_1⟩
  | 6, _ => exact fun _ _ _ ⟨vb, hv, q_0⟩ hb => ⟨vb, hv, q_0⟩
  | 7, _ => exact fun _ _ _ ⟨vb, hv, q_0⟩ hb => ⟨vb, hv, q_0⟩
  | 8, _ => exact fun _ _ _ q_0 hb => below_kept q_0 hb
  | k + 9, hk => omega

/-- What is known of a region (RJ). -/
def lf22 (s t : CES) (x : CE) (gx G B : Nat) : RSpec where
  m := 5
  n := 7
  slots := [58, 59, 60, 61, 62, 100005, 100006]
  kills := [[], [], [], [], [], [], []]
  pres := [[], [], [], [], [], [], []]
  fact := fun k v w => match k with
    | 0 => v = .agg #[.int .i64 x.ser, .slice t.a1 t.n1 t.c1, .slice t.a2 t.n2 t.c2, .int .i64 x.frm, .int .i64 x.til, .int .i64 x.key.1, .int .u64 x.key.2.1, .int .i64 x.key.2.2, .bool x.ca, .int .i64 x.room, .int .i64 x.uses, .slice t.a3 t.n3 t.c3, .slice t.a4 t.n4 t.c4, .slice t.a5 t.n5 t.c5, .slice t.a6 t.n6 t.c6, .slice t.a7 t.n7 t.c7, .int .i64 x.need, .int .i64 x.nomap, .int .i64 x.noany, .slice t.a8 t.n8 t.c8, .slice t.a9 t.n9 t.c9]
    | 1 => v = .agg #[.int .i64 x.ser, .slice s.a1 s.n1 s.c1, .slice s.a2 s.n2 s.c2, .int .i64 x.frm, .int .i64 x.til, .int .i64 x.key.1, .int .u64 x.key.2.1, .int .i64 x.key.2.2, .bool x.ca, .int .i64 x.room, .int .i64 x.uses, .slice s.a3 s.n3 s.c3, .slice s.a4 s.n4 s.c4, .slice s.a5 s.n5 s.c5, .slice s.a6 s.n6 s.c6, .slice s.a7 s.n7 s.c7, .int .i64 x.need, .int .i64 x.nomap, .int .i64 x.noany, .slice s.a8 s.n8 s.c8, .slice s.a9 s.n9 s.c9]
    | 2 => ∃ (u : CES), v = CEv u x ∧ CER w u x
    | 3 => v = .bool true
    | 4 => v = .bool false
    | 5 => w.heap[gx]? = some (.cells #[.int .i64 x.ser, .slice t.a1 t.n1 t.c1, .slice t.a2 t.n2 t.c2, .int .i64 x.frm, .int .i64 x.til, .int .i64 x.key.1, .int .u64 x.key.2.1, .int .i64 x.key.2.2, .bool x.ca, .int .i64 x.room, .int .i64 x.uses, .slice t.a3 t.n3 t.c3, .slice t.a4 t.n4 t.c4, .slice t.a5 t.n5 t.c5, .slice t.a6 t.n6 t.c6, .slice t.a7 t.n7 t.c7, .int .i64 x.need, .int .i64 x.nomap, .int .i64 x.noany, .slice t.a8 t.n8 t.c8, .slice t.a9 t.n9 t.c9] 45 (0, 0))
    | _ => w.heap[G]? = some (.cells #[.int .i64 x.ser, .slice s.a1 s.n1 s.c1, .slice s.a2 s.n2 s.c2, .int .i64 x.frm, .int .i64 x.til, .int .i64 x.key.1, .int .u64 x.key.2.1, .int .i64 x.key.2.2, .bool x.ca, .int .i64 x.room, .int .i64 x.uses, .slice s.a3 s.n3 s.c3, .slice s.a4 s.n4 s.c4, .slice s.a5 s.n5 s.c5, .slice s.a6 s.n6 s.c6, .slice s.a7 s.n7 s.c7, .int .i64 x.need, .int .i64 x.nomap, .int .i64 x.noany, .slice s.a8 s.n8 s.c8, .slice s.a9 s.n9 s.c9] 34 (0, 0))
set_option linter.unusedVariables false in
theorem lf22_stb (s t : CES) (x : CE) (gx G B : Nat) (k : Nat) (hk : k < 7) : StB ((lf22 s t x gx G (B)).fact k) := by
  match k, hk with
  | 0, _ => exact fun _ _ _ h _ => h
  | 1, _ => exact fun _ _ _ h _ => h
  | 2, _ => exact fun _ _ _ ⟨u, hv, q_0⟩ hb => ⟨u, hv, q_0.kept hb⟩
  | 3, _ => exact fun _ _ _ h _ => h
  | 4, _ => exact fun _ _ _ h _ => h
  | 5, _ => exact fun _ _ _ q_0 hb => below_kept q_0 hb
  | 6, _ => exact fun _ _ _ q_0 hb => below_kept q_0 hb
  | k + 7, hk => omega

set_option maxRecDepth 10000 in
set_option maxHeartbeats 4000000 in
theorem lawFits_walk (a1 : Option Addr) (n1 c1 : Nat) (per : List GE) (a2 : Option Addr) (n2 c2 : Nat) (den : List GE) (s : CES) (x : CE) (w : World) (hm : MaxW w) (hu : U64 x.key.2.1) (h1 : Ges w a1 n1 per) (h2 : Ges w a2 n2 den) (h : CER w s x) :
    Calls Tryz.prog 4 #[.slice a1 n1 c1, .slice a2 n2 c2, CEv s x] w fun e w' => e = .returned (.bool true) ∧ Below w.heap.size w w' := by
  have HK : Hid (CER w s x) := h
  have HM : Hid (∀ W, Below w.heap.size w W → MaxW W) := fun W hW => hm.kept hW
  have HU : Hid (U64 x.key.2.1) := hu
  have G1 : Hid (Ges w a1 n1 per) := h1
  have G2 : Hid (Ges w a2 n2 den) := h2
  clear h hm hu h1 h2
  show Calls Tryz.prog 4 #[.slice a1 n1 c1, .slice a2 n2 c2, .agg #[.int .i64 x.ser, .slice s.a1 s.n1 s.c1, .slice s.a2 s.n2 s.c2, .int .i64 x.frm, .int .i64 x.til, .int .i64 x.key.1, .int .u64 x.key.2.1, .int .i64 x.key.2.2, .bool x.ca, .int .i64 x.room, .int .i64 x.uses, .slice s.a3 s.n3 s.c3, .slice s.a4 s.n4 s.c4, .slice s.a5 s.n5 s.c5, .slice s.a6 s.n6 s.c6, .slice s.a7 s.n7 s.c7, .int .i64 x.need, .int .i64 x.nomap, .int .i64 x.noany, .slice s.a8 s.n8 s.c8, .slice s.a9 s.n9 s.c9]] w _
  obtain ⟨w0, hw0⟩ : ∃ w0, w0 = w.alloc (.cells #[.int .i64 x.ser, .slice s.a1 s.n1 s.c1, .slice s.a2 s.n2 s.c2, .int .i64 x.frm, .int .i64 x.til, .int .i64 x.key.1, .int .u64 x.key.2.1, .int .i64 x.key.2.2, .bool x.ca, .int .i64 x.room, .int .i64 x.uses, .slice s.a3 s.n3 s.c3, .slice s.a4 s.n4 s.c4, .slice s.a5 s.n5 s.c5, .slice s.a6 s.n6 s.c6, .slice s.a7 s.n7 s.c7, .int .i64 x.need, .int .i64 x.nomap, .int .i64 x.noany, .slice s.a8 s.n8 s.c8, .slice s.a9 s.n9 s.c9] 34) := ⟨_, rfl⟩
  have B0 : Hid (Below w.heap.size w w0) := by show Below _ _ _; rw [hw0]; exact (Below.refl _ _).alloc (Nat.le_refl _) _
  have L0 : Hid (w0.heap[w.heap.size]? = some (.cells #[.int .i64 x.ser, .slice s.a1 s.n1 s.c1, .slice s.a2 s.n2 s.c2, .int .i64 x.frm, .int .i64 x.til, .int .i64 x.key.1, .int .u64 x.key.2.1, .int .i64 x.key.2.2, .bool x.ca, .int .i64 x.room, .int .i64 x.uses, .slice s.a3 s.n3 s.c3, .slice s.a4 s.n4 s.c4, .slice s.a5 s.n5 s.c5, .slice s.a6 s.n6 s.c6, .slice s.a7 s.n7 s.c7, .int .i64 x.need, .int .i64 x.nomap, .int .i64 x.noany, .slice s.a8 s.n8 s.c8, .slice s.a9 s.n9 s.c9] 34 (0, 0))) := by show _ = _; rw [hw0]; exact heap_alloc_new w _
  go_enter Tryz.func4, Tryz.ntmps4
  go_upto_region 1 with fail
  rw [← hw0]
  clear hw0
  go_wp2_with fail
  refine (szGenNameS_any a1 n1 c1 per 1048576 _ (G1.out.kept B0.out) (by decide) (by decide)).mono ?_
  rintro e w1 ⟨r1, rfl, hr, hb⟩
  have B1 : Hid (Below w.heap.size w w1) := B0.out.trans (hb.mono B0.out.size)
  have L1 : Hid (w1.heap[w.heap.size]? = some (.cells #[.int .i64 x.ser, .slice s.a1 s.n1 s.c1, .slice s.a2 s.n2 s.c2, .int .i64 x.frm, .int .i64 x.til, .int .i64 x.key.1, .int .u64 x.key.2.1, .int .i64 x.key.2.2, .bool x.ca, .int .i64 x.room, .int .i64 x.uses, .slice s.a3 s.n3 s.c3, .slice s.a4 s.n4 s.c4, .slice s.a5 s.n5 s.c5, .slice s.a6 s.n6 s.c6, .slice s.a7 s.n7 s.c7, .int .i64 x.need, .int .i64 x.nomap, .int .i64 x.noany, .slice s.a8 s.n8 s.c8, .slice s.a9 s.n9 s.c9] 34 (0, 0))) := (hb.block _ (Array.getElem?_eq_some_iff.1 L0.out).1).trans L0.out
  clear hb B0 L0
  by_cases hneg1 : r1 < 0
  · clear hr
    go_wp2
    go_ret
    exact ⟨rfl, B1.out⟩
  have h1 : 0 ≤ r1 ∧ r1 ≤ 1048576 := by omega
  have HR1 : Hid (n1 ≤ 1048576 ∧ ∀ k, k < n1 → GeOk (per.getD k default)) := by rcases hr with h | h; exact absurd h hneg1; exact h.2.2
  clear hr
  go_wp2_with fail
  refine (szGenNameS_any a2 n2 c2 den r1 _ (G2.out.kept B1.out) h1.1 h1.2).mono ?_
  rintro e w2 ⟨r2, rfl, hr, hb⟩
  have B2 : Hid (Below w.heap.size w w2) := B1.out.trans (hb.mono B1.out.size)
  have L2 : Hid (w2.heap[w.heap.size]? = some (.cells #[.int .i64 x.ser, .slice s.a1 s.n1 s.c1, .slice s.a2 s.n2 s.c2, .int .i64 x.frm, .int .i64 x.til, .int .i64 x.key.1, .int .u64 x.key.2.1, .int .i64 x.key.2.2, .bool x.ca, .int .i64 x.room, .int .i64 x.uses, .slice s.a3 s.n3 s.c3, .slice s.a4 s.n4 s.c4, .slice s.a5 s.n5 s.c5, .slice s.a6 s.n6 s.c6, .slice s.a7 s.n7 s.c7, .int .i64 x.need, .int .i64 x.nomap, .int .i64 x.noany, .slice s.a8 s.n8 s.c8, .slice s.a9 s.n9 s.c9] 34 (0, 0))) := (hb.block _ (Array.getElem?_eq_some_iff.1 L1.out).1).trans L1.out
  clear hb B1 L1
  by_cases hneg2 : r2 < 0
  · clear hr
    go_wp2
    go_ret
    exact ⟨rfl, B2.out⟩
  have h2 : 0 ≤ r2 ∧ r2 ≤ 1048576 := by omega
  have HR2 : Hid (n2 ≤ 1048576 ∧ ∀ k, k < n2 → GeOk (den.getD k default)) := by rcases hr with h | h; exact absurd h hneg2; exact h.2.2
  clear hr
  have HSZ : Hid (∀ W, Below w.heap.size w W → Calls Tryz.prog 6 #[.agg #[.int .i64 x.ser, .slice s.a1 s.n1 s.c1, .slice s.a2 s.n2 s.c2, .int .i64 x.frm, .int .i64 x.til, .int .i64 x.key.1, .int .u64 x.key.2.1, .int .i64 x.key.2.2, .bool x.ca, .int .i64 x.room, .int .i64 x.uses, .slice s.a3 s.n3 s.c3, .slice s.a4 s.n4 s.c4, .slice s.a5 s.n5 s.c5, .slice s.a6 s.n6 s.c6, .slice s.a7 s.n7 s.c7, .int .i64 x.need, .int .i64 x.nomap, .int .i64 x.noany, .slice s.a8 s.n8 s.c8, .slice s.a9 s.n9 s.c9], .int .i64 r2] W fun e w' => ∃ r, e = .returned (.int .i64 r) ∧ (r < 0 ∨ (0 ≤ r ∧ r ≤ 1048576 ∧ CEZ x)) ∧ Below W.heap.size W w') := fun W hW => szCert_k s x r2 W (HK.out.kept hW) h2.1 h2.2
  go_wp2_with (first | (refine wpList_load_row rfl 34 _ rfl w.heap.size rfl 34 #[.int .i64 x.ser, .slice s.a1 s.n1 s.c1, .slice s.a2 s.n2 s.c2, .int .i64 x.frm, .int .i64 x.til, .int .i64 x.key.1, .int .u64 x.key.2.1, .int .i64 x.key.2.2, .bool x.ca, .int .i64 x.room, .int .i64 x.uses, .slice s.a3 s.n3 s.c3, .slice s.a4 s.n4 s.c4, .slice s.a5 s.n5 s.c5, .slice s.a6 s.n6 s.c6, .slice s.a7 s.n7 s.c7, .int .i64 x.need, .int .i64 x.nomap, .int .i64 x.noany, .slice s.a8 s.n8 s.c8, .slice s.a9 s.n9 s.c9] (0, 0) _ L2.out Tryz.underlying34 rfl infoSizeL9 ?_) | fail)
  refine (HSZ.out _ B2.out).mono ?_
  rintro e w3 ⟨r3, rfl, hr, hb⟩
  have B3 : Hid (Below w.heap.size w w3) := B2.out.trans (hb.mono B2.out.size)
  have L3 : Hid (w3.heap[w.heap.size]? = some (.cells #[.int .i64 x.ser, .slice s.a1 s.n1 s.c1, .slice s.a2 s.n2 s.c2, .int .i64 x.frm, .int .i64 x.til, .int .i64 x.key.1, .int .u64 x.key.2.1, .int .i64 x.key.2.2, .bool x.ca, .int .i64 x.room, .int .i64 x.uses, .slice s.a3 s.n3 s.c3, .slice s.a4 s.n4 s.c4, .slice s.a5 s.n5 s.c5, .slice s.a6 s.n6 s.c6, .slice s.a7 s.n7 s.c7, .int .i64 x.need, .int .i64 x.nomap, .int .i64 x.noany, .slice s.a8 s.n8 s.c8, .slice s.a9 s.n9 s.c9] 34 (0, 0))) := (hb.block _ (Array.getElem?_eq_some_iff.1 L2.out).1).trans L2.out
  clear hb B2 L2 HSZ
  by_cases hneg3 : r3 < 0
  · clear hr
    go_wp2
    go_ret
    exact ⟨rfl, B3.out⟩
  have HZ : Hid (CEZ x) := by rcases hr with h | h; exact absurd h hneg3; exact h.2.2
  clear hr
  have HTO : Hid (∀ W, Below w.heap.size w W → Calls Tryz.prog 8 #[.agg #[.int .i64 x.ser, .slice s.a1 s.n1 s.c1, .slice s.a2 s.n2 s.c2, .int .i64 x.frm, .int .i64 x.til, .int .i64 x.key.1, .int .u64 x.key.2.1, .int .i64 x.key.2.2, .bool x.ca, .int .i64 x.room, .int .i64 x.uses, .slice s.a3 s.n3 s.c3, .slice s.a4 s.n4 s.c4, .slice s.a5 s.n5 s.c5, .slice s.a6 s.n6 s.c6, .slice s.a7 s.n7 s.c7, .int .i64 x.need, .int .i64 x.nomap, .int .i64 x.noany, .slice s.a8 s.n8 s.c8, .slice s.a9 s.n9 s.c9]] W fun e w' => ∃ t : CES, e = .returned (CEv t x) ∧ CET t ∧ CER w' t x ∧ Below W.heap.size W w') := fun W hW => (toCert_k s x W (HK.out.kept hW) HZ.out).mono fun e w' ⟨t, h1, h2, h3, h4⟩ => ⟨t, h1, h2, h3.now, h4⟩
  have HG1 : Hid (∀ W, Below w.heap.size w W → Calls Tryz.prog 13 #[.slice a1 n1 c1] W fun e w' => ∃ u, e = .returned (.slice u n1 n1) ∧ Ges w' u n1 per ∧ Below W.heap.size W w') := fun W hW => (toGenNameS_k a1 n1 c1 per W (G1.out.kept hW) HR1.out.1 HR1.out.2).mono fun e w' ⟨t, h1, h2, h3⟩ => ⟨t, h1, h2.now, h3⟩
  have HG2 : Hid (∀ W, Below w.heap.size w W → Calls Tryz.prog 13 #[.slice a2 n2 c2] W fun e w' => ∃ u, e = .returned (.slice u n2 n2) ∧ Ges w' u n2 den ∧ Below W.heap.size W w') := fun W hW => (toGenNameS_k a2 n2 c2 den W (G2.out.kept hW) HR2.out.1 HR2.out.2).mono fun e w' ⟨t, h1, h2, h3⟩ => ⟨t, h1, h2.now, h3⟩
  have HT1 : Hid (∀ W, Below w3.heap.size w3 W → Calls Tryz.prog 13 #[.slice a1 n1 c1] W fun e w' => ∃ u, e = .returned (.slice u n1 n1) ∧ Ges w' u n1 per ∧ Below W.heap.size W w') := fun W hW => HG1.out W (B3.out.trans (hW.mono B3.out.size))
  have HT2 : Hid (∀ W, Below w3.heap.size w3 W → Calls Tryz.prog 13 #[.slice a2 n2 c2] W fun e w' => ∃ u, e = .returned (.slice u n2 n2) ∧ Ges w' u n2 den ∧ Below W.heap.size W w') := fun W hW => HG2.out W (B3.out.trans (hW.mono B3.out.size))
  have HT3 : Hid (∀ W, Below w3.heap.size w3 W → Calls Tryz.prog 8 #[.agg #[.int .i64 x.ser, .slice s.a1 s.n1 s.c1, .slice s.a2 s.n2 s.c2, .int .i64 x.frm, .int .i64 x.til, .int .i64 x.key.1, .int .u64 x.key.2.1, .int .i64 x.key.2.2, .bool x.ca, .int .i64 x.room, .int .i64 x.uses, .slice s.a3 s.n3 s.c3, .slice s.a4 s.n4 s.c4, .slice s.a5 s.n5 s.c5, .slice s.a6 s.n6 s.c6, .slice s.a7 s.n7 s.c7, .int .i64 x.need, .int .i64 x.nomap, .int .i64 x.noany, .slice s.a8 s.n8 s.c8, .slice s.a9 s.n9 s.c9]] W fun e w' => ∃ u : CES, e = .returned (CEv u x) ∧ CET u ∧ CER w' u x ∧ Below W.heap.size W w') := fun W hW => HTO.out W (B3.out.trans (hW.mono B3.out.size))
  have HSP : Hid (∀ W (u1 u2 : Option Addr) (u : CES), Ges W u1 n1 per → Ges W u2 n2 den → CER W u x → CET u → Calls Tryz.prog 12 #[.slice u1 n1 n1, .slice u2 n2 n2, CEv u x] W (SaysB (fnP per n1 den n2 x) W)) := fun W u1 u2 u h1 h2 h3 h4 => specFits_any u1 n1 n1 per u2 n2 n2 den u x W h1 HR1.out.2 h2 HR2.out.2 h3 HZ.out h4 HU.out
  have HBB : w3.heap.size ≤ w3.heap.size := Nat.le_refl _
  go_upto_region 11 with fail
  refine wp_region_ri (lf11 a1 n1 c1 per a2 n2 c2 den s x w.heap.size (w3.heap.size)) [8, 28, 29, 30, 31, 32, 33, 34] (w3.heap.size) (fun a0 => a0.tmps.size = 63 ∧ aT a0 0 = .slice a1 n1 c1 ∧ aT a0 1 = .slice a2 n2 c2 ∧ aT a0 5 = .pointer (some ⟨w.heap.size, 0, none⟩)) (by kernel_rfl) rfl (by kernel_rfl) rfl ⟨rfl, rfl, rfl, rfl⟩ (lf11_stb a1 n1 c1 per a2 n2 c2 den s x w.heap.size (w3.heap.size)) ?_ ?_ ?_
  · intro k hk hk2
    match k, hk, hk2 with
    | 8, _, _ => exact L3.out
    | 0, hk, _ => exact absurd hk (by show ¬ (8 ≤ 0); omega)
    | 1, hk, _ => exact absurd hk (by show ¬ (8 ≤ 1); omega)
    | 2, hk, _ => exact absurd hk (by show ¬ (8 ≤ 2); omega)
    | 3, hk, _ => exact absurd hk (by show ¬ (8 ≤ 3); omega)
    | 4, hk, _ => exact absurd hk (by show ¬ (8 ≤ 4); omega)
    | 5, hk, _ => exact absurd hk (by show ¬ (8 ≤ 5); omega)
    | 6, hk, _ => exact absurd hk (by show ¬ (8 ≤ 6); omega)
    | 7, hk, _ => exact absurd hk (by show ¬ (8 ≤ 7); omega)
    | k + 9, _, hk2 => exact absurd hk2 (by show ¬ (k + 9 < 9); omega)
  · rintro a0 ⟨hz, g0, g1, g5⟩
    refine StepsRI.cons ?_ (StepsRI.cons ?_ (StepsRI.cons ?_ (StepsRI.cons ?_ (StepsRI.cons ?_ (StepsRI.cons ?_ (StepsRI.cons ?_ (StepsRI.cons ?_ (StepsRI.nil))))))))
    · intro lQ b W hI hUN hED KQ hKQ
      exact opw_move 0 rfl (hKQ.out _ _ (hI.put 0 28 rfl rfl (by rw [hz]; decide) rfl hUN rfl HBB (lf11_stb a1 n1 c1 per a2 n2 c2 den s x w.heap.size (w3.heap.size)) (Below.refl _ _) ((hI.fr.same 0 (by decide)).trans g0)))
    · intro lQ b W hI hUN hED KQ hKQ
      have f0 := hI.got 0 (of_decide_eq_true rfl) (edge hED 0 (by kernel_rfl)) rfl
      replace f0 : aT b 28 = .slice a1 n1 c1 := f0
      refine opw_call 13 #[.tmp 28] _ _ _ rfl Tryz.func13 (by kernel_rfl) rfl #[.slice a1 n1 c1] (by simp [ev, f0]) ?_
      refine (HT1.out W hI.bel).mono ?_
      rintro e W2 ⟨u1, rfl, hk, hb⟩
      exact ⟨_, rfl, hKQ.out _ _ (hI.put 1 29 rfl rfl (by rw [hz]; decide) rfl hUN rfl HBB (lf11_stb a1 n1 c1 per a2 n2 c2 den s x w.heap.size (w3.heap.size)) hb ⟨u1, rfl, hk⟩)⟩
    · intro lQ b W hI hUN hED KQ hKQ
      exact opw_move 1 rfl (hKQ.out _ _ (hI.put 2 30 rfl rfl (by rw [hz]; decide) rfl hUN rfl HBB (lf11_stb a1 n1 c1 per a2 n2 c2 den s x w.heap.size (w3.heap.size)) (Below.refl _ _) ((hI.fr.same 1 (by decide)).trans g1)))
    · intro lQ b W hI hUN hED KQ hKQ
      have f0 := hI.got 2 (of_decide_eq_true rfl) (edge hED 2 (by kernel_rfl)) rfl
      replace f0 : aT b 30 = .slice a2 n2 c2 := f0
      refine opw_call 13 #[.tmp 30] _ _ _ rfl Tryz.func13 (by kernel_rfl) rfl #[.slice a2 n2 c2] (by simp [ev, f0]) ?_
      refine (HT2.out W hI.bel).mono ?_
      rintro e W2 ⟨u2, rfl, hk, hb⟩
      exact ⟨_, rfl, hKQ.out _ _ (hI.put 3 31 rfl rfl (by rw [hz]; decide) rfl hUN rfl HBB (lf11_stb a1 n1 c1 per a2 n2 c2 den s x w.heap.size (w3.heap.size)) hb ⟨u2, rfl, hk⟩)⟩
    · intro lQ b W hI hUN hED KQ hKQ
      have hg := (hI.vot 8 (of_decide_eq_true rfl) (of_decide_eq_true rfl) rfl)
      refine wp_load_row 34 _ rfl (w.heap.size) ((hI.fr.same 5 (by decide)).trans g5) 34 #[.int .i64 x.ser, .slice s.a1 s.n1 s.c1, .slice s.a2 s.n2 s.c2, .int .i64 x.frm, .int .i64 x.til, .int .i64 x.key.1, .int .u64 x.key.2.1, .int .i64 x.key.2.2, .bool x.ca, .int .i64 x.room, .int .i64 x.uses, .slice s.a3 s.n3 s.c3, .slice s.a4 s.n4 s.c4, .slice s.a5 s.n5 s.c5, .slice s.a6 s.n6 s.c6, .slice s.a7 s.n7 s.c7, .int .i64 x.need, .int .i64 x.nomap, .int .i64 x.noany, .slice s.a8 s.n8 s.c8, .slice s.a9 s.n9 s.c9] (0, 0) _ hg Tryz.underlying34 rfl (by kernel_rfl) ?_
      exact hKQ.out _ _ (hI.put 4 32 rfl rfl (by rw [hz]; decide) rfl hUN rfl HBB (lf11_stb a1 n1 c1 per a2 n2 c2 den s x w.heap.size (w3.heap.size)) (Below.refl _ _) rfl)
    · intro lQ b W hI hUN hED KQ hKQ
      have f0 := hI.got 4 (of_decide_eq_true rfl) (edge hED 4 (by kernel_rfl)) rfl
      replace f0 : aT b 32 = .agg #[.int .i64 x.ser, .slice s.a1 s.n1 s.c1, .slice s.a2 s.n2 s.c2, .int .i64 x.frm, .int .i64 x.til, .int .i64 x.key.1, .int .u64 x.key.2.1, .int .i64 x.key.2.2, .bool x.ca, .int .i64 x.room, .int .i64 x.uses, .slice s.a3 s.n3 s.c3, .slice s.a4 s.n4 s.c4, .slice s.a5 s.n5 s.c5, .slice s.a6 s.n6 s.c6, .slice s.a7 s.n7 s.c7, .int .i64 x.need, .int .i64 x.nomap, .int .i64 x.noany, .slice s.a8 s.n8 s.c8, .slice s.a9 s.n9 s.c9] := f0
      refine opw_call 8 #[.tmp 32] _ _ _ rfl Tryz.func8 (by kernel_rfl) rfl #[.agg #[.int .i64 x.ser, .slice s.a1 s.n1 s.c1, .slice s.a2 s.n2 s.c2, .int .i64 x.frm, .int .i64 x.til, .int .i64 x.key.1, .int .u64 x.key.2.1, .int .i64 x.key.2.2, .bool x.ca, .int .i64 x.room, .int .i64 x.uses, .slice s.a3 s.n3 s.c3, .slice s.a4 s.n4 s.c4, .slice s.a5 s.n5 s.c5, .slice s.a6 s.n6 s.c6, .slice s.a7 s.n7 s.c7, .int .i64 x.need, .int .i64 x.nomap, .int .i64 x.noany, .slice s.a8 s.n8 s.c8, .slice s.a9 s.n9 s.c9]] (by simp [ev, f0]) ?_
      refine (HT3.out W hI.bel).mono ?_
      rintro e W2 ⟨u, rfl, ht, hk, hb⟩
      exact ⟨_, rfl, hKQ.out _ _ (hI.put 5 33 rfl rfl (by rw [hz]; decide) rfl hUN rfl HBB (lf11_stb a1 n1 c1 per a2 n2 c2 den s x w.heap.size (w3.heap.size)) hb ⟨u, rfl, hk, ht⟩)⟩
    · intro lQ b W hI hUN hED KQ hKQ
      have f0 := hI.got 1 (of_decide_eq_true rfl) (edge hED 1 (by kernel_rfl)) rfl
      obtain ⟨u1, f0, o0_0⟩ := f0
      replace f0 : aT b 29 = .slice u1 n1 n1 := f0
      have f1 := hI.got 3 (of_decide_eq_true rfl) (edge hED 3 (by kernel_rfl)) rfl
      obtain ⟨u2, f1, o1_0⟩ := f1
      replace f1 : aT b 31 = .slice u2 n2 n2 := f1
      have f2 := hI.got 5 (of_decide_eq_true rfl) (edge hED 5 (by kernel_rfl)) rfl
      obtain ⟨u, f2, o2_0, o2_1⟩ := f2
      replace f2 : aT b 33 = CEv u x := f2
      refine opw_call 12 #[.tmp 29, .tmp 31, .tmp 33] _ _ _ rfl Tryz.func12 (by kernel_rfl) rfl #[.slice u1 n1 n1, .slice u2 n2 n2, CEv u x] (by simp [ev, f0, f1, f2]) ?_
      refine (HSP.out W u1 u2 u o0_0 o1_0 o2_0 o2_1).mono ?_
      rintro e W2 ⟨vb, rfl, hv, hb⟩
      exact ⟨_, rfl, hKQ.out _ _ (hI.put 6 34 rfl rfl (by rw [hz]; decide) rfl hUN rfl HBB (lf11_stb a1 n1 c1 per a2 n2 c2 den s x w.heap.size (w3.heap.size)) hb ⟨vb, rfl, hv.out⟩)⟩
    · intro lQ b W hI hUN hED KQ hKQ
      have f := hI.got 6 (of_decide_eq_true rfl) (edge hED 6 (by kernel_rfl)) rfl
      exact opw_assign 34 rfl (hKQ.out _ _ (hI.put 7 8 rfl rfl (by rw [hz]; decide) rfl hUN rfl HBB (lf11_stb a1 n1 c1 per a2 n2 c2 den s x w.heap.size (w3.heap.size)) (Below.refl _ _) f))
  · intro b W hf hb F
    obtain ⟨v, e8, hv0⟩ := F 7 (of_decide_eq_true rfl) rfl
    replace e8 : aT b 8 = _ := e8
    rw [hf.eq]
    simp only [puts, Act.put, List.setIfInBounds_toArray, List.set_cons_zero, List.set_cons_succ, e8]
    clear hf F e8
    generalize aT b = AT
    clear b
    obtain ⟨w4, hw4⟩ : ∃ w4, w4 = W := ⟨_, rfl⟩
    subst hw4
    have B4 : Hid (Below w.heap.size w w4) := B3.out.trans (hb.mono B3.out.size)
    have L4 : Hid (w4.heap[w.heap.size]? = some (.cells #[.int .i64 x.ser, .slice s.a1 s.n1 s.c1, .slice s.a2 s.n2 s.c2, .int .i64 x.frm, .int .i64 x.til, .int .i64 x.key.1, .int .u64 x.key.2.1, .int .i64 x.key.2.2, .bool x.ca, .int .i64 x.room, .int .i64 x.uses, .slice s.a3 s.n3 s.c3, .slice s.a4 s.n4 s.c4, .slice s.a5 s.n5 s.c5, .slice s.a6 s.n6 s.c6, .slice s.a7 s.n7 s.c7, .int .i64 x.need, .int .i64 x.nomap, .int .i64 x.noany, .slice s.a8 s.n8 s.c8, .slice s.a9 s.n9 s.c9] 34 (0, 0))) := (hb.block _ (Array.getElem?_eq_some_iff.1 L3.out).1).trans L3.out
    have hvS : Hid (v = true ↔ fnP per n1 den n2 x) := hv0
    clear hb hv0 B3 L3 HBB
    clear HT1 HT2 HT3 HSP
    go_wp2_with fail
    refine (HG1.out _ B4.out).mono ?_
    rintro e wa ⟨x1, rfl, hka, hba⟩
    have Ba : Hid (Below w.heap.size w wa) := B4.out.trans (hba.mono B4.out.size)
    have La : Hid (wa.heap[w.heap.size]? = some (.cells #[.int .i64 x.ser, .slice s.a1 s.n1 s.c1, .slice s.a2 s.n2 s.c2, .int .i64 x.frm, .int .i64 x.til, .int .i64 x.key.1, .int .u64 x.key.2.1, .int .i64 x.key.2.2, .bool x.ca, .int .i64 x.room, .int .i64 x.uses, .slice s.a3 s.n3 s.c3, .slice s.a4 s.n4 s.c4, .slice s.a5 s.n5 s.c5, .slice s.a6 s.n6 s.c6, .slice s.a7 s.n7 s.c7, .int .i64 x.need, .int .i64 x.nomap, .int .i64 x.noany, .slice s.a8 s.n8 s.c8, .slice s.a9 s.n9 s.c9] 34 (0, 0))) := (hba.block _ (Array.getElem?_eq_some_iff.1 L4.out).1).trans L4.out
    have Ka : Hid (Ges wa x1 n1 per) := hka
    clear hka hba B4 L4
    go_wp2_with fail
    refine (HG2.out _ Ba.out).mono ?_
    rintro e wb ⟨x2, rfl, hkb, hbb⟩
    have Bb : Hid (Below w.heap.size w wb) := Ba.out.trans (hbb.mono Ba.out.size)
    have Lb : Hid (wb.heap[w.heap.size]? = some (.cells #[.int .i64 x.ser, .slice s.a1 s.n1 s.c1, .slice s.a2 s.n2 s.c2, .int .i64 x.frm, .int .i64 x.til, .int .i64 x.key.1, .int .u64 x.key.2.1, .int .i64 x.key.2.2, .bool x.ca, .int .i64 x.room, .int .i64 x.uses, .slice s.a3 s.n3 s.c3, .slice s.a4 s.n4 s.c4, .slice s.a5 s.n5 s.c5, .slice s.a6 s.n6 s.c6, .slice s.a7 s.n7 s.c7, .int .i64 x.need, .int .i64 x.nomap, .int .i64 x.noany, .slice s.a8 s.n8 s.c8, .slice s.a9 s.n9 s.c9] 34 (0, 0))) := (hbb.block _ (Array.getElem?_eq_some_iff.1 La.out).1).trans La.out
    have Kb : Hid (Ges wb x1 n1 per) := Ka.out.kept hbb
    have Mb : Hid (Ges wb x2 n2 den) := hkb
    clear hkb hbb Ba La Ka
    go_wp2_with (first | (refine wpList_load_row rfl 34 _ rfl w.heap.size rfl 34 #[.int .i64 x.ser, .slice s.a1 s.n1 s.c1, .slice s.a2 s.n2 s.c2, .int .i64 x.frm, .int .i64 x.til, .int .i64 x.key.1, .int .u64 x.key.2.1, .int .i64 x.key.2.2, .bool x.ca, .int .i64 x.room, .int .i64 x.uses, .slice s.a3 s.n3 s.c3, .slice s.a4 s.n4 s.c4, .slice s.a5 s.n5 s.c5, .slice s.a6 s.n6 s.c6, .slice s.a7 s.n7 s.c7, .int .i64 x.need, .int .i64 x.nomap, .int .i64 x.noany, .slice s.a8 s.n8 s.c8, .slice s.a9 s.n9 s.c9] (0, 0) _ Lb.out Tryz.underlying34 rfl infoSizeL9 ?_) | fail)
    refine (HTO.out _ Bb.out).mono ?_
    rintro e wc ⟨t, rfl, ht, hkc, hbc⟩
    have Bc : Hid (Below w.heap.size w wc) := Bb.out.trans (hbc.mono Bb.out.size)
    have Lc : Hid (wc.heap[w.heap.size]? = some (.cells #[.int .i64 x.ser, .slice s.a1 s.n1 s.c1, .slice s.a2 s.n2 s.c2, .int .i64 x.frm, .int .i64 x.til, .int .i64 x.key.1, .int .u64 x.key.2.1, .int .i64 x.key.2.2, .bool x.ca, .int .i64 x.room, .int .i64 x.uses, .slice s.a3 s.n3 s.c3, .slice s.a4 s.n4 s.c4, .slice s.a5 s.n5 s.c5, .slice s.a6 s.n6 s.c6, .slice s.a7 s.n7 s.c7, .int .i64 x.need, .int .i64 x.nomap, .int .i64 x.noany, .slice s.a8 s.n8 s.c8, .slice s.a9 s.n9 s.c9] 34 (0, 0))) := (hbc.block _ (Array.getElem?_eq_some_iff.1 Lb.out).1).trans Lb.out
    have Kc : Hid (Ges wc x1 n1 per) := Kb.out.kept hbc
    have Mc : Hid (Ges wc x2 n2 den) := Mb.out.kept hbc
    have hz4 : (wc.alloc (.cells #[.int .i64 0, .slice none 0 0, .slice none 0 0, .int .i64 0, .int .i64 0, .int .i64 0, .int .u64 0, .int .i64 0, .bool false, .int .i64 0, .int .i64 0, .slice none 0 0, .slice none 0 0, .slice none 0 0, .slice none 0 0, .slice none 0 0, .int .i64 0, .int .i64 0, .int .i64 0, .slice none 0 0, .slice none 0 0] 45)).heap[wc.heap.size]? = some (.cells #[.int .i64 0, .slice none 0 0, .slice none 0 0, .int .i64 0, .int .i64 0, .int .i64 0, .int .u64 0, .int .i64 0, .bool false, .int .i64 0, .int .i64 0, .slice none 0 0, .slice none 0 0, .slice none 0 0, .slice none 0 0, .slice none 0 0, .int .i64 0, .int .i64 0, .int .i64 0, .slice none 0 0, .slice none 0 0] 45 (0, 0)) := heap_alloc_new wc _
    have HZ4 : Hid (_ = _) := hz4
    obtain ⟨wd, hwd⟩ : ∃ wd, wd = (wc.alloc (.cells #[.int .i64 0, .slice none 0 0, .slice none 0 0, .int .i64 0, .int .i64 0, .int .i64 0, .int .u64 0, .int .i64 0, .bool false, .int .i64 0, .int .i64 0, .slice none 0 0, .slice none 0 0, .slice none 0 0, .slice none 0 0, .slice none 0 0, .int .i64 0, .int .i64 0, .int .i64 0, .slice none 0 0, .slice none 0 0] 45)).setRow wc.heap.size #[.int .i64 x.ser, .slice t.a1 t.n1 t.c1, .slice t.a2 t.n2 t.c2, .int .i64 x.frm, .int .i64 x.til, .int .i64 x.key.1, .int .u64 x.key.2.1, .int .i64 x.key.2.2, .bool x.ca, .int .i64 x.room, .int .i64 x.uses, .slice t.a3 t.n3 t.c3, .slice t.a4 t.n4 t.c4, .slice t.a5 t.n5 t.c5, .slice t.a6 t.n6 t.c6, .slice t.a7 t.n7 t.c7, .int .i64 x.need, .int .i64 x.nomap, .int .i64 x.noany, .slice t.a8 t.n8 t.c8, .slice t.a9 t.n9 t.c9] := ⟨_, rfl⟩
    have hbd : Below wc.heap.size wc wd := by rw [hwd]; exact below_setRow ((Below.refl _ _).alloc (Nat.le_refl _) _) (Nat.le_refl _) _
    have Xd : Hid (wd.heap[wc.heap.size]? = some (.cells #[.int .i64 x.ser, .slice t.a1 t.n1 t.c1, .slice t.a2 t.n2 t.c2, .int .i64 x.frm, .int .i64 x.til, .int .i64 x.key.1, .int .u64 x.key.2.1, .int .i64 x.key.2.2, .bool x.ca, .int .i64 x.room, .int .i64 x.uses, .slice t.a3 t.n3 t.c3, .slice t.a4 t.n4 t.c4, .slice t.a5 t.n5 t.c5, .slice t.a6 t.n6 t.c6, .slice t.a7 t.n7 t.c7, .int .i64 x.need, .int .i64 x.nomap, .int .i64 x.noany, .slice t.a8 t.n8 t.c8, .slice t.a9 t.n9 t.c9] 45 (0, 0))) := by show _ = _; rw [hwd]; exact setRow_heap _ _ _ _ _ _ hz4
    have Bd : Hid (Below w.heap.size w wd) := Bc.out.trans (hbd.mono Bc.out.size)
    have Ld : Hid (wd.heap[w.heap.size]? = some (.cells #[.int .i64 x.ser, .slice s.a1 s.n1 s.c1, .slice s.a2 s.n2 s.c2, .int .i64 x.frm, .int .i64 x.til, .int .i64 x.key.1, .int .u64 x.key.2.1, .int .i64 x.key.2.2, .bool x.ca, .int .i64 x.room, .int .i64 x.uses, .slice s.a3 s.n3 s.c3, .slice s.a4 s.n4 s.c4, .slice s.a5 s.n5 s.c5, .slice s.a6 s.n6 s.c6, .slice s.a7 s.n7 s.c7, .int .i64 x.need, .int .i64 x.nomap, .int .i64 x.noany, .slice s.a8 s.n8 s.c8, .slice s.a9 s.n9 s.c9] 34 (0, 0))) := (hbd.block _ (Array.getElem?_eq_some_iff.1 Lc.out).1).trans Lc.out
    have Kd : Hid (Ges wd x1 n1 per) := Kc.out.kept hbd
    have Md : Hid (Ges wd x2 n2 den) := Mc.out.kept hbd
    have Cd : Hid (CER wd t x) := hkc.kept hbd
    have I5 : Hid (Calls Tryz.prog 14 #[.slice x1 n1 n1, .slice x2 n2 n2, .agg #[.int .i64 x.ser, .slice t.a1 t.n1 t.c1, .slice t.a2 t.n2 t.c2, .int .i64 x.frm, .int .i64 x.til, .int .i64 x.key.1, .int .u64 x.key.2.1, .int .i64 x.key.2.2, .bool x.ca, .int .i64 x.room, .int .i64 x.uses, .slice t.a3 t.n3 t.c3, .slice t.a4 t.n4 t.c4, .slice t.a5 t.n5 t.c5, .slice t.a6 t.n6 t.c6, .slice t.a7 t.n7 t.c7, .int .i64 x.need, .int .i64 x.nomap, .int .i64 x.noany, .slice t.a8 t.n8 t.c8, .slice t.a9 t.n9 t.c9]] wd (SaysB (fnP per n1 den n2 x) wd)) := implFits_any x1 n1 n1 per x2 n2 n2 den t x wd (HM.out _ Bd.out) Kd.out HR1.out.2 Md.out HR2.out.2 Cd.out HZ.out ht HU.out
    have HWd : Hid (_ = _) := hwd
    clear hwd hbc hbd hkc hz4 Bb Lb Kb Mb Bc Lc Kc Mc
    go_upto_region 15 with (first | (refine wpList_store_rowTo rfl 45 _ _ rfl rfl wc.heap.size #[.int .i64 x.ser, .slice t.a1 t.n1 t.c1, .slice t.a2 t.n2 t.c2, .int .i64 x.frm, .int .i64 x.til, .int .i64 x.key.1, .int .u64 x.key.2.1, .int .i64 x.key.2.2, .bool x.ca, .int .i64 x.room, .int .i64 x.uses, .slice t.a3 t.n3 t.c3, .slice t.a4 t.n4 t.c4, .slice t.a5 t.n5 t.c5, .slice t.a6 t.n6 t.c6, .slice t.a7 t.n7 t.c7, .int .i64 x.need, .int .i64 x.nomap, .int .i64 x.noany, .slice t.a8 t.n8 t.c8, .slice t.a9 t.n9 t.c9] rfl rfl 45 #[.int .i64 0, .slice none 0 0, .slice none 0 0, .int .i64 0, .int .i64 0, .int .i64 0, .int .u64 0, .int .i64 0, .bool false, .int .i64 0, .int .i64 0, .slice none 0 0, .slice none 0 0, .slice none 0 0, .slice none 0 0, .slice none 0 0, .int .i64 0, .int .i64 0, .int .i64 0, .slice none 0 0, .slice none 0 0] HZ4.out infoSize9 rfl (by simp [Value.oneCell']) ?_) | fail)
    rw [← HWd.out]
    clear HWd
    go_wp2_with (first | (refine wpList_load_row rfl 45 _ rfl wc.heap.size rfl 45 #[.int .i64 x.ser, .slice t.a1 t.n1 t.c1, .slice t.a2 t.n2 t.c2, .int .i64 x.frm, .int .i64 x.til, .int .i64 x.key.1, .int .u64 x.key.2.1, .int .i64 x.key.2.2, .bool x.ca, .int .i64 x.room, .int .i64 x.uses, .slice t.a3 t.n3 t.c3, .slice t.a4 t.n4 t.c4, .slice t.a5 t.n5 t.c5, .slice t.a6 t.n6 t.c6, .slice t.a7 t.n7 t.c7, .int .i64 x.need, .int .i64 x.nomap, .int .i64 x.noany, .slice t.a8 t.n8 t.c8, .slice t.a9 t.n9 t.c9] (0, 0) _ Xd.out Tryz.underlying45 rfl infoSize9 ?_) | fail)
    refine I5.out.mono ?_
    rintro e we ⟨v6, rfl, hv6, hbe⟩
    have Be : Hid (Below w.heap.size w we) := Bd.out.trans (hbe.mono Bd.out.size)
    have Le : Hid (we.heap[w.heap.size]? = some (.cells #[.int .i64 x.ser, .slice s.a1 s.n1 s.c1, .slice s.a2 s.n2 s.c2, .int .i64 x.frm, .int .i64 x.til, .int .i64 x.key.1, .int .u64 x.key.2.1, .int .i64 x.key.2.2, .bool x.ca, .int .i64 x.room, .int .i64 x.uses, .slice s.a3 s.n3 s.c3, .slice s.a4 s.n4 s.c4, .slice s.a5 s.n5 s.c5, .slice s.a6 s.n6 s.c6, .slice s.a7 s.n7 s.c7, .int .i64 x.need, .int .i64 x.nomap, .int .i64 x.noany, .slice s.a8 s.n8 s.c8, .slice s.a9 s.n9 s.c9] 34 (0, 0))) := (hbe.block _ (Array.getElem?_eq_some_iff.1 Ld.out).1).trans Ld.out
    have Xe : Hid (we.heap[wc.heap.size]? = some (.cells #[.int .i64 x.ser, .slice t.a1 t.n1 t.c1, .slice t.a2 t.n2 t.c2, .int .i64 x.frm, .int .i64 x.til, .int .i64 x.key.1, .int .u64 x.key.2.1, .int .i64 x.key.2.2, .bool x.ca, .int .i64 x.room, .int .i64 x.uses, .slice t.a3 t.n3 t.c3, .slice t.a4 t.n4 t.c4, .slice t.a5 t.n5 t.c5, .slice t.a6 t.n6 t.c6, .slice t.a7 t.n7 t.c7, .int .i64 x.need, .int .i64 x.nomap, .int .i64 x.noany, .slice t.a8 t.n8 t.c8, .slice t.a9 t.n9 t.c9] 45 (0, 0))) := (hbe.block _ (Array.getElem?_eq_some_iff.1 Xd.out).1).trans Xd.out
    have Ke : Hid (Ges we x1 n1 per) := Kd.out.kept hbe
    have Me : Hid (Ges we x2 n2 den) := Md.out.kept hbe
    have Ce : Hid (CER we t x) := Cd.out.kept hbe
    obtain rfl : v6 = v := by
      have h2 := hv6.out.trans hvS.out.symm
      cases v6 <;> cases v <;> simp_all
    have tne : (v6 != v6) = false := by simp
    clear hbe hv6 hvS I5 Bd Ld Xd Kd Md Cd
    go_wp2_with fail
    refine (HG1.out _ Be.out).mono ?_
    rintro e wf ⟨y1, rfl, hkf, hbf⟩
    have Bf : Hid (Below w.heap.size w wf) := Be.out.trans (hbf.mono Be.out.size)
    have Lf : Hid (wf.heap[w.heap.size]? = some (.cells #[.int .i64 x.ser, .slice s.a1 s.n1 s.c1, .slice s.a2 s.n2 s.c2, .int .i64 x.frm, .int .i64 x.til, .int .i64 x.key.1, .int .u64 x.key.2.1, .int .i64 x.key.2.2, .bool x.ca, .int .i64 x.room, .int .i64 x.uses, .slice s.a3 s.n3 s.c3, .slice s.a4 s.n4 s.c4, .slice s.a5 s.n5 s.c5, .slice s.a6 s.n6 s.c6, .slice s.a7 s.n7 s.c7, .int .i64 x.need, .int .i64 x.nomap, .int .i64 x.noany, .slice s.a8 s.n8 s.c8, .slice s.a9 s.n9 s.c9] 34 (0, 0))) := (hbf.block _ (Array.getElem?_eq_some_iff.1 Le.out).1).trans Le.out
    have Xf : Hid (wf.heap[wc.heap.size]? = some (.cells #[.int .i64 x.ser, .slice t.a1 t.n1 t.c1, .slice t.a2 t.n2 t.c2, .int .i64 x.frm, .int .i64 x.til, .int .i64 x.key.1, .int .u64 x.key.2.1, .int .i64 x.key.2.2, .bool x.ca, .int .i64 x.room, .int .i64 x.uses, .slice t.a3 t.n3 t.c3, .slice t.a4 t.n4 t.c4, .slice t.a5 t.n5 t.c5, .slice t.a6 t.n6 t.c6, .slice t.a7 t.n7 t.c7, .int .i64 x.need, .int .i64 x.nomap, .int .i64 x.noany, .slice t.a8 t.n8 t.c8, .slice t.a9 t.n9 t.c9] 45 (0, 0))) := (hbf.block _ (Array.getElem?_eq_some_iff.1 Xe.out).1).trans Xe.out
    have EQ1 : Hid (Calls Tryz.prog 15 #[.slice x1 n1 n1, .slice y1 n1 n1] wf fun e w' => e = .returned (.bool true) ∧ Below wf.heap.size wf w') := eqGenNameS_same x1 y1 n1 n1 n1 per wf (Ke.out.kept hbf) hkf
    have Mf : Hid (Ges wf x2 n2 den) := Me.out.kept hbf
    have Cf : Hid (CER wf t x) := Ce.out.kept hbf
    clear hkf hbf Be Le Xe Ke Me Ce tne
    go_wp2_with fail
    refine EQ1.out.mono ?_
    rintro e wg ⟨rfl, hbg⟩
    have Bg : Hid (Below w.heap.size w wg) := Bf.out.trans (hbg.mono Bf.out.size)
    have Lg : Hid (wg.heap[w.heap.size]? = some (.cells #[.int .i64 x.ser, .slice s.a1 s.n1 s.c1, .slice s.a2 s.n2 s.c2, .int .i64 x.frm, .int .i64 x.til, .int .i64 x.key.1, .int .u64 x.key.2.1, .int .i64 x.key.2.2, .bool x.ca, .int .i64 x.room, .int .i64 x.uses, .slice s.a3 s.n3 s.c3, .slice s.a4 s.n4 s.c4, .slice s.a5 s.n5 s.c5, .slice s.a6 s.n6 s.c6, .slice s.a7 s.n7 s.c7, .int .i64 x.need, .int .i64 x.nomap, .int .i64 x.noany, .slice s.a8 s.n8 s.c8, .slice s.a9 s.n9 s.c9] 34 (0, 0))) := (hbg.block _ (Array.getElem?_eq_some_iff.1 Lf.out).1).trans Lf.out
    have Xg : Hid (wg.heap[wc.heap.size]? = some (.cells #[.int .i64 x.ser, .slice t.a1 t.n1 t.c1, .slice t.a2 t.n2 t.c2, .int .i64 x.frm, .int .i64 x.til, .int .i64 x.key.1, .int .u64 x.key.2.1, .int .i64 x.key.2.2, .bool x.ca, .int .i64 x.room, .int .i64 x.uses, .slice t.a3 t.n3 t.c3, .slice t.a4 t.n4 t.c4, .slice t.a5 t.n5 t.c5, .slice t.a6 t.n6 t.c6, .slice t.a7 t.n7 t.c7, .int .i64 x.need, .int .i64 x.nomap, .int .i64 x.noany, .slice t.a8 t.n8 t.c8, .slice t.a9 t.n9 t.c9] 45 (0, 0))) := (hbg.block _ (Array.getElem?_eq_some_iff.1 Xf.out).1).trans Xf.out
    have Mg : Hid (Ges wg x2 n2 den) := Mf.out.kept hbg
    have Cg : Hid (CER wg t x) := Cf.out.kept hbg
    clear hbg Bf Lf Xf Mf Cf EQ1
    go_wp2_with fail
    refine (HG2.out _ Bg.out).mono ?_
    rintro e wh ⟨y2, rfl, hkh, hbh⟩
    have Bh : Hid (Below w.heap.size w wh) := Bg.out.trans (hbh.mono Bg.out.size)
    have Lh : Hid (wh.heap[w.heap.size]? = some (.cells #[.int .i64 x.ser, .slice s.a1 s.n1 s.c1, .slice s.a2 s.n2 s.c2, .int .i64 x.frm, .int .i64 x.til, .int .i64 x.key.1, .int .u64 x.key.2.1, .int .i64 x.key.2.2, .bool x.ca, .int .i64 x.room, .int .i64 x.uses, .slice s.a3 s.n3 s.c3, .slice s.a4 s.n4 s.c4, .slice s.a5 s.n5 s.c5, .slice s.a6 s.n6 s.c6, .slice s.a7 s.n7 s.c7, .int .i64 x.need, .int .i64 x.nomap, .int .i64 x.noany, .slice s.a8 s.n8 s.c8, .slice s.a9 s.n9 s.c9] 34 (0, 0))) := (hbh.block _ (Array.getElem?_eq_some_iff.1 Lg.out).1).trans Lg.out
    have Xh : Hid (wh.heap[wc.heap.size]? = some (.cells #[.int .i64 x.ser, .slice t.a1 t.n1 t.c1, .slice t.a2 t.n2 t.c2, .int .i64 x.frm, .int .i64 x.til, .int .i64 x.key.1, .int .u64 x.key.2.1, .int .i64 x.key.2.2, .bool x.ca, .int .i64 x.room, .int .i64 x.uses, .slice t.a3 t.n3 t.c3, .slice t.a4 t.n4 t.c4, .slice t.a5 t.n5 t.c5, .slice t.a6 t.n6 t.c6, .slice t.a7 t.n7 t.c7, .int .i64 x.need, .int .i64 x.nomap, .int .i64 x.noany, .slice t.a8 t.n8 t.c8, .slice t.a9 t.n9 t.c9] 45 (0, 0))) := (hbh.block _ (Array.getElem?_eq_some_iff.1 Xg.out).1).trans Xg.out
    have EQ2 : Hid (Calls Tryz.prog 15 #[.slice x2 n2 n2, .slice y2 n2 n2] wh fun e w' => e = .returned (.bool true) ∧ Below wh.heap.size wh w') := eqGenNameS_same x2 y2 n2 n2 n2 den wh (Mg.out.kept hbh) hkh
    have Ch : Hid (CER wh t x) := Cg.out.kept hbh
    clear hkh hbh Bg Lg Xg Mg Cg
    go_wp2_with fail
    refine EQ2.out.mono ?_
    rintro e wj ⟨rfl, hbj⟩
    have Bj : Hid (Below w.heap.size w wj) := Bh.out.trans (hbj.mono Bh.out.size)
    have Lj : Hid (wj.heap[w.heap.size]? = some (.cells #[.int .i64 x.ser, .slice s.a1 s.n1 s.c1, .slice s.a2 s.n2 s.c2, .int .i64 x.frm, .int .i64 x.til, .int .i64 x.key.1, .int .u64 x.key.2.1, .int .i64 x.key.2.2, .bool x.ca, .int .i64 x.room, .int .i64 x.uses, .slice s.a3 s.n3 s.c3, .slice s.a4 s.n4 s.c4, .slice s.a5 s.n5 s.c5, .slice s.a6 s.n6 s.c6, .slice s.a7 s.n7 s.c7, .int .i64 x.need, .int .i64 x.nomap, .int .i64 x.noany, .slice s.a8 s.n8 s.c8, .slice s.a9 s.n9 s.c9] 34 (0, 0))) := (hbj.block _ (Array.getElem?_eq_some_iff.1 Lh.out).1).trans Lh.out
    have Xj : Hid (wj.heap[wc.heap.size]? = some (.cells #[.int .i64 x.ser, .slice t.a1 t.n1 t.c1, .slice t.a2 t.n2 t.c2, .int .i64 x.frm, .int .i64 x.til, .int .i64 x.key.1, .int .u64 x.key.2.1, .int .i64 x.key.2.2, .bool x.ca, .int .i64 x.room, .int .i64 x.uses, .slice t.a3 t.n3 t.c3, .slice t.a4 t.n4 t.c4, .slice t.a5 t.n5 t.c5, .slice t.a6 t.n6 t.c6, .slice t.a7 t.n7 t.c7, .int .i64 x.need, .int .i64 x.nomap, .int .i64 x.noany, .slice t.a8 t.n8 t.c8, .slice t.a9 t.n9 t.c9] 45 (0, 0))) := (hbj.block _ (Array.getElem?_eq_some_iff.1 Xh.out).1).trans Xh.out
    have Cj : Hid (CER wj t x) := Ch.out.kept hbj
    clear hbj Bh Lh Xh Ch EQ2
    have HTD : Hid (∀ W, Below wj.heap.size wj W → Calls Tryz.prog 8 #[.agg #[.int .i64 x.ser, .slice s.a1 s.n1 s.c1, .slice s.a2 s.n2 s.c2, .int .i64 x.frm, .int .i64 x.til, .int .i64 x.key.1, .int .u64 x.key.2.1, .int .i64 x.key.2.2, .bool x.ca, .int .i64 x.room, .int .i64 x.uses, .slice s.a3 s.n3 s.c3, .slice s.a4 s.n4 s.c4, .slice s.a5 s.n5 s.c5, .slice s.a6 s.n6 s.c6, .slice s.a7 s.n7 s.c7, .int .i64 x.need, .int .i64 x.nomap, .int .i64 x.noany, .slice s.a8 s.n8 s.c8, .slice s.a9 s.n9 s.c9]] W fun e w' => ∃ u : CES, e = .returned (CEv u x) ∧ CER w' u x ∧ Below W.heap.size W w') := fun W hW => (HTO.out W (Bj.out.trans (hW.mono Bj.out.size))).mono fun e w' ⟨u, h1, h2, h3, h4⟩ => ⟨u, h1, h3, h4⟩
    have HEQ : Hid (∀ W (u : CES), Below wj.heap.size wj W → CER W u x → Calls Tryz.prog 10 #[.agg #[.int .i64 x.ser, .slice t.a1 t.n1 t.c1, .slice t.a2 t.n2 t.c2, .int .i64 x.frm, .int .i64 x.til, .int .i64 x.key.1, .int .u64 x.key.2.1, .int .i64 x.key.2.2, .bool x.ca, .int .i64 x.room, .int .i64 x.uses, .slice t.a3 t.n3 t.c3, .slice t.a4 t.n4 t.c4, .slice t.a5 t.n5 t.c5, .slice t.a6 t.n6 t.c6, .slice t.a7 t.n7 t.c7, .int .i64 x.need, .int .i64 x.nomap, .int .i64 x.noany, .slice t.a8 t.n8 t.c8, .slice t.a9 t.n9 t.c9], CEv u x] W fun e w' => e = .returned (.bool true) ∧ Below W.heap.size W w') := fun W u hW hu => eqCert_k t u x W (Cj.out.kept hW) hu HZ.out
    have HBB : wj.heap.size ≤ wj.heap.size := Nat.le_refl _
    go_upto_region 22 with fail
    refine wp_region_ri (lf22 s t x wc.heap.size w.heap.size (wj.heap.size)) [58, 59, 60, 61, 62] (wj.heap.size) (fun a0 => a0.tmps.size = 63 ∧ aT a0 5 = .pointer (some ⟨w.heap.size, 0, none⟩) ∧ aT a0 11 = .pointer (some ⟨wc.heap.size, 0, none⟩)) (by kernel_rfl) rfl (by kernel_rfl) rfl ⟨rfl, rfl, rfl⟩ (lf22_stb s t x wc.heap.size w.heap.size (wj.heap.size)) ?_ ?_ ?_
    · intro k hk hk2
      match k, hk, hk2 with
      | 5, _, _ => exact Xj.out
      | 6, _, _ => exact Lj.out
      | 0, hk, _ => exact absurd hk (by show ¬ (5 ≤ 0); omega)
      | 1, hk, _ => exact absurd hk (by show ¬ (5 ≤ 1); omega)
      | 2, hk, _ => exact absurd hk (by show ¬ (5 ≤ 2); omega)
      | 3, hk, _ => exact absurd hk (by show ¬ (5 ≤ 3); omega)
      | 4, hk, _ => exact absurd hk (by show ¬ (5 ≤ 4); omega)
      | k + 7, _, hk2 => exact absurd hk2 (by show ¬ (k + 7 < 7); omega)
    · rintro a0 ⟨hz, g5, g11⟩
      refine StepsRI.cons ?_ (StepsRI.cons ?_ (StepsRI.cons ?_ (StepsRI.cons ?_ (StepsRI.cons ?_ (StepsRI.nil)))))
      · intro lQ b W hI hUN hED KQ hKQ
        have hg := (hI.vot 5 (of_decide_eq_true rfl) (of_decide_eq_true rfl) rfl)
        refine wp_load_row 45 _ rfl (wc.heap.size) ((hI.fr.same 11 (by decide)).trans g11) 45 #[.int .i64 x.ser, .slice t.a1 t.n1 t.c1, .slice t.a2 t.n2 t.c2, .int .i64 x.frm, .int .i64 x.til, .int .i64 x.key.1, .int .u64 x.key.2.1, .int .i64 x.key.2.2, .bool x.ca, .int .i64 x.room, .int .i64 x.uses, .slice t.a3 t.n3 t.c3, .slice t.a4 t.n4 t.c4, .slice t.a5 t.n5 t.c5, .slice t.a6 t.n6 t.c6, .slice t.a7 t.n7 t.c7, .int .i64 x.need, .int .i64 x.nomap, .int .i64 x.noany, .slice t.a8 t.n8 t.c8, .slice t.a9 t.n9 t.c9] (0, 0) _ hg Tryz.underlying45 rfl (by kernel_rfl) ?_
        exact hKQ.out _ _ (hI.put 0 58 rfl rfl (by rw [hz]; decide) rfl hUN rfl HBB (lf22_stb s t x wc.heap.size w.heap.size (wj.heap.size)) (Below.refl _ _) rfl)
      · intro lQ b W hI hUN hED KQ hKQ
        have hg := (hI.vot 6 (of_decide_eq_true rfl) (of_decide_eq_true rfl) rfl)
        refine wp_load_row 34 _ rfl (w.heap.size) ((hI.fr.same 5 (by decide)).trans g5) 34 #[.int .i64 x.ser, .slice s.a1 s.n1 s.c1, .slice s.a2 s.n2 s.c2, .int .i64 x.frm, .int .i64 x.til, .int .i64 x.key.1, .int .u64 x.key.2.1, .int .i64 x.key.2.2, .bool x.ca, .int .i64 x.room, .int .i64 x.uses, .slice s.a3 s.n3 s.c3, .slice s.a4 s.n4 s.c4, .slice s.a5 s.n5 s.c5, .slice s.a6 s.n6 s.c6, .slice s.a7 s.n7 s.c7, .int .i64 x.need, .int .i64 x.nomap, .int .i64 x.noany, .slice s.a8 s.n8 s.c8, .slice s.a9 s.n9 s.c9] (0, 0) _ hg Tryz.underlying34 rfl (by kernel_rfl) ?_
        exact hKQ.out _ _ (hI.put 1 59 rfl rfl (by rw [hz]; decide) rfl hUN rfl HBB (lf22_stb s t x wc.heap.size w.heap.size (wj.heap.size)) (Below.refl _ _) rfl)
      · intro lQ b W hI hUN hED KQ hKQ
        have f0 := hI.got 1 (of_decide_eq_true rfl) (edge hED 1 (by kernel_rfl)) rfl
        replace f0 : aT b 59 = .agg #[.int .i64 x.ser, .slice s.a1 s.n1 s.c1, .slice s.a2 s.n2 s.c2, .int .i64 x.frm, .int .i64 x.til, .int .i64 x.key.1, .int .u64 x.key.2.1, .int .i64 x.key.2.2, .bool x.ca, .int .i64 x.room, .int .i64 x.uses, .slice s.a3 s.n3 s.c3, .slice s.a4 s.n4 s.c4, .slice s.a5 s.n5 s.c5, .slice s.a6 s.n6 s.c6, .slice s.a7 s.n7 s.c7, .int .i64 x.need, .int .i64 x.nomap, .int .i64 x.noany, .slice s.a8 s.n8 s.c8, .slice s.a9 s.n9 s.c9] := f0
        refine opw_call 8 #[.tmp 59] _ _ _ rfl Tryz.func8 (by kernel_rfl) rfl #[.agg #[.int .i64 x.ser, .slice s.a1 s.n1 s.c1, .slice s.a2 s.n2 s.c2, .int .i64 x.frm, .int .i64 x.til, .int .i64 x.key.1, .int .u64 x.key.2.1, .int .i64 x.key.2.2, .bool x.ca, .int .i64 x.room, .int .i64 x.uses, .slice s.a3 s.n3 s.c3, .slice s.a4 s.n4 s.c4, .slice s.a5 s.n5 s.c5, .slice s.a6 s.n6 s.c6, .slice s.a7 s.n7 s.c7, .int .i64 x.need, .int .i64 x.nomap, .int .i64 x.noany, .slice s.a8 s.n8 s.c8, .slice s.a9 s.n9 s.c9]] (by simp [ev, f0]) ?_
        refine (HTD.out W hI.bel).mono ?_
        rintro e W2 ⟨u, rfl, hk, hb⟩
        exact ⟨_, rfl, hKQ.out _ _ (hI.put 2 60 rfl rfl (by rw [hz]; decide) rfl hUN rfl HBB (lf22_stb s t x wc.heap.size w.heap.size (wj.heap.size)) hb ⟨u, rfl, hk⟩)⟩
      · intro lQ b W hI hUN hED KQ hKQ
        have f0 := hI.got 0 (of_decide_eq_true rfl) (edge hED 0 (by kernel_rfl)) rfl
        replace f0 : aT b 58 = .agg #[.int .i64 x.ser, .slice t.a1 t.n1 t.c1, .slice t.a2 t.n2 t.c2, .int .i64 x.frm, .int .i64 x.til, .int .i64 x.key.1, .int .u64 x.key.2.1, .int .i64 x.key.2.2, .bool x.ca, .int .i64 x.room, .int .i64 x.uses, .slice t.a3 t.n3 t.c3, .slice t.a4 t.n4 t.c4, .slice t.a5 t.n5 t.c5, .slice t.a6 t.n6 t.c6, .slice t.a7 t.n7 t.c7, .int .i64 x.need, .int .i64 x.nomap, .int .i64 x.noany, .slice t.a8 t.n8 t.c8, .slice t.a9 t.n9 t.c9] := f0
        have f1 := hI.got 2 (of_decide_eq_true rfl) (edge hED 2 (by kernel_rfl)) rfl
        obtain ⟨u, f1, o1_0⟩ := f1
        replace f1 : aT b 60 = CEv u x := f1
        refine opw_call 10 #[.tmp 58, .tmp 60] _ _ _ rfl Tryz.func10 (by kernel_rfl) rfl #[.agg #[.int .i64 x.ser, .slice t.a1 t.n1 t.c1, .slice t.a2 t.n2 t.c2, .int .i64 x.frm, .int .i64 x.til, .int .i64 x.key.1, .int .u64 x.key.2.1, .int .i64 x.key.2.2, .bool x.ca, .int .i64 x.room, .int .i64 x.uses, .slice t.a3 t.n3 t.c3, .slice t.a4 t.n4 t.c4, .slice t.a5 t.n5 t.c5, .slice t.a6 t.n6 t.c6, .slice t.a7 t.n7 t.c7, .int .i64 x.need, .int .i64 x.nomap, .int .i64 x.noany, .slice t.a8 t.n8 t.c8, .slice t.a9 t.n9 t.c9], CEv u x] (by simp [ev, f0, f1]) ?_
        refine (HEQ.out W u hI.bel o1_0).mono ?_
        rintro e W2 ⟨rfl, hb⟩
        exact ⟨_, rfl, hKQ.out _ _ (hI.put 3 61 rfl rfl (by rw [hz]; decide) rfl hUN rfl HBB (lf22_stb s t x wc.heap.size w.heap.size (wj.heap.size)) hb rfl)⟩
      · intro lQ b W hI hUN hED KQ hKQ
        have f : aT b 61 = .bool true := hI.got 3 (of_decide_eq_true rfl) (edge hED 3 (by kernel_rfl)) rfl
        exact opw_not _ 61 rfl true f (hKQ.out _ _ (hI.put 4 62 rfl rfl (by rw [hz]; decide) rfl hUN rfl HBB (lf22_stb s t x wc.heap.size w.heap.size (wj.heap.size)) (Below.refl _ _) rfl))
    · intro b W hf hb F
      have e62 : aT b 62 = .bool false := F 4 (of_decide_eq_true rfl) rfl
      rw [hf.eq]
      simp only [puts, Act.put, List.setIfInBounds_toArray, List.set_cons_zero, List.set_cons_succ, e62]
      clear hf F e62
      generalize aT b = AT
      clear b
      go_wp2
      go_ret
      exact ⟨rfl, Bj.out.trans (hb.mono Bj.out.size)⟩

end Go.Proofs.YtkpabanjlhlmfaaGreatDoor

