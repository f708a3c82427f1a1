import Derived.Test.YtpnhhhhmonbajaaGreatTT5
import Derived.Lib.AppendZeros
namespace Go.Proofs.YtpnhhhhmonbajaaGreat
open Go.RowKit

theorem rowU_cells {w : World} {ad : Addr} {m : Nat} {ys : List Int} (h : RowU w (some ad) m ys) : ∀ j u, (ys.map (Value.int .u64))[j]? = some u → w.cell? (ad.add j) = some u := by
  intro j u hj
  have hjl : j < ys.length := by
    have := (List.getElem?_eq_some_iff.1 hj).1
    simpa using this
  obtain ⟨b, off, ha, _, hc⟩ := h.get j (by rw [← h.len]; exact hjl)
  simp only [Option.some.injEq] at ha
  subst ha
  rw [Addr.add_lit, hc]
  simp [hjl] at hj
  simp [hjl, hj]
theorem rowU_none {w : World} {m : Nat} {ys : List Int} (h : RowU w none m ys) : m = 0 ∧ ys = [] := by
  rcases Nat.eq_zero_or_pos m with h0 | h0
  · exact ⟨h0, List.eq_nil_of_length_eq_zero (by rw [h.len]; exact h0)⟩
  · obtain ⟨b, off, ha, _⟩ := h.get 0 h0
    simp at ha
theorem wpList_append_rowU {P : Program} (w : World) {ops : Array Oper} {rest : List Oper} {o : Oper} {a : Act} {Q : Exit → Act → World → Prop}
    (hg : o.guard = none) (s x : Operand) (t : TypeId) (hop : o.op = Op.call { callee := Callee.builtin Builtin.append, args := #[s, x], argTypes := #[t, t] })
    (base : Nat) (i : TypeInfo) (h1 : P.underlying t = some (.slice 26)) (h2 : P.info? 26 = some i) (h3 : i.zero = some (.int .u64 0)) (h4 : i.size = 1) (h5 : i.bytes = 8)
    (v : Value) (n : Nat) (xs : List Value) (hs : a.eval s = v) (hown : w.ownsRow base 26 1 v n xs)
    (ao : Option Addr) (m c : Nat) (ys : List Int) (hx : a.eval x = .slice ao m c) (hrow : RowU w ao m ys) (hnil : ao = none → c = 0)
    (b1 : n + m ≤ 1000000) (b3 : base ≤ w.heap.size)
    (hK : ∀ v' w', w'.ownsRow base 26 1 v' (n + m) (xs ++ ys.map (Value.int .u64)) → w.grownBy w' v.ownBlock → wpList P ops Q rest (a.put o.dst v') w') :
    wpList P ops Q (o :: rest) a w := by
  cases ao with
  | some ad =>
    refine wpList_append_own w hg s x t hop base 26 i (.int .u64 0) 1 8 h1 h2 h3 h4 h5 rfl (by decide) v n xs hs hown ad m c (ys.map (Value.int .u64)) hx (by rw [List.length_map, hrow.len, Nat.mul_one]) (rowU_cells hrow) (ints_oneCell _ _) (by unfold maxLen; omega) (by omega) b3 ?_
    intro v' w' r1 r2 _
    exact hK v' w' r1 r2
  | none =>
    obtain ⟨rfl, rfl⟩ := rowU_none hrow
    obtain rfl := hnil rfl
    refine wpList_append_own_none hg s x t hop base 26 i 1 h1 h2 v n xs hs hown hx ?_
    exact hK v w (by simpa using hown) (World.grownBy.refl _ _)

theorem u64_cat {xs ys : List Int} (h : ∀ k, U64 (xs.getD k 0)) (h' : ∀ k, U64 (ys.getD k 0)) : ∀ k, U64 ((xs ++ ys).getD k 0) := by
  intro k
  rw [List.getD_eq_getElem?_getD, List.getElem?_append]
  split
  · simpa [List.getD_eq_getElem?_getD] using h k
  · simpa [List.getD_eq_getElem?_getD] using h' (k - xs.length)

set_option maxRecDepth 10000 in
set_option maxHeartbeats 1000000 in
theorem growU_nil (n : Nat) (w : World) (h0 : 0 < n) (hn : n ≤ 100000) :
    Calls Tryz.prog 144 #[.slice none 0 0, .int .i64 n] w fun e w' => ∃ g c, e = .returned (.slice (some ⟨g, 0, none⟩) 0 c) ∧ OwnU w.heap.size w' (some ⟨g, 0, none⟩) 0 c [] ∧ Below w.heap.size w w' := by
  obtain ⟨i0, hi, hz0, hz1, hz2⟩ := info_parts Tryz.infoU
  have hr := Lib.run_append_nil_zeros (P := Tryz.prog) w 84 3 84 26 i0 (.int .u64 0) .i64 .i64 Tryz.underlying84 Tryz.underlying3 hi hz0 n h0 (by omega) (by omega) (by rw [hz2]; omega)
  obtain ⟨C, hC⟩ : ∃ C, C = grownCap w n 0 26 := ⟨_, rfl⟩
  rw [← hC] at hr
  obtain ⟨w1, hw1⟩ : ∃ w1, w1 = w.drew.alloc (.cells (Builtin.zeroCells (Value.int .u64 0).cells n ++ Builtin.zeroCells (Value.int .u64 0).cells (C - n)) 26) := ⟨_, rfl⟩
  rw [← hw1] at hr
  have hgc : n ≤ C ∧ C ≤ maxLen := by rw [hC]; exact ⟨grownCap_ge _ _ _ _ , grownCap_le_maxLen _ _ _ _ (by unfold maxLen; omega)⟩
  have hown : OwnU w.heap.size w1 (some ⟨w.heap.size, 0, none⟩) 0 C [] := by
    refine ⟨⟨rfl, .inr ⟨w.heap.size, C, _, rfl, Nat.le_refl _, by rw [hw1]; exact heap_alloc_new w.drew _, Nat.zero_le _, hgc.2, ?_, rfl⟩⟩, by simp [U64]⟩
    simp [Builtin.zeroCells, Value.cells]
    omega
  have hb1 : Below w.heap.size w w1 := by rw [hw1]; exact ((Below.refl _ _).drew).alloc (Nat.le_refl _) _
  have HW : Hid (_ = _) := hw1
  have HC : Hid (_ = _) := hC
  clear hgc hw1 hC
  have HR : Hid (_ = _) := hr
  clear hr
  go_enter Tryz.func144, Tryz.ntmps144
  go_wp2_with (first | (at_builtin; refine Lib.wpList_append_run _ rfl _ _ _ _ rfl _ _ rfl rfl _ _ HR.out ?_))
  go_ret
  exact ⟨_, _, rfl, hown, hb1⟩

set_option maxRecDepth 10000 in
set_option maxHeartbeats 2000000 in
theorem concatU_two (g : Nat) (a1 : Option Addr) (n1 c1 : Nat) (z1 : List Int) (a2 : Option Addr) (n2 c2 : Nat) (z2 : List Int) (w : World) (hb : w.heap[g]? = some (.cells #[.slice a1 n1 c1, .slice a2 n2 c2] 84)) (h1 : RowU w a1 n1 z1) (e1 : a1 = none → c1 = 0) (h2 : RowU w a2 n2 z2) (e2 : a2 = none → c2 = 0) (hn0 : 0 < n1) (hn : n1 + n2 ≤ 1000) :
    Calls Tryz.prog 138 #[.slice (some ⟨g, 0, none⟩) 2 2] w fun e w' => ∃ a c, e = .returned (.slice a (n1 + n2) c) ∧ OwnU w.heap.size w' a (n1 + n2) c (z1 ++ z2) ∧ Below w.heap.size w w' := by
  obtain ⟨i0, hi, hz0, hz1, hz2⟩ := info_parts Tryz.infoU
  have hlg : g < w.heap.size := (Array.getElem?_eq_some_iff.1 hb).1
  have s0 : w.cell? ⟨g, 0, none⟩ = some (.slice a1 n1 c1) := (cell_of_row _ _ 0 _ 84 (0, 0) hb).trans rfl
  have s1 : w.cell? ⟨g, 1, none⟩ = some (.slice a2 n2 c2) := (cell_of_row _ _ 1 _ 84 (0, 0) hb).trans rfl
  have HX : Hid (∀ w7, Below w.heap.size w w7 → w7.cell? ⟨g, 0, none⟩ = some (.slice a1 n1 c1) ∧ w7.cell? ⟨g, 1, none⟩ = some (.slice a2 n2 c2)) := fun w7 h7 => ⟨(h7.cell (p := ⟨g, 0, none⟩) hlg).trans s0, (h7.cell (p := ⟨g, 1, none⟩) hlg).trans s1⟩
  have H1 : Hid (RowU w a1 n1 z1) := h1
  have H2 : Hid (RowU w a2 n2 z2) := h2
  clear hb h1 h2
  go_enter Tryz.func138, Tryz.ntmps138
  go_wp2
  go_loop [3, 11] (fun sz i => (i = .int .i64 0 ∧ sz = .int .i64 0) ∨ (i = .int .i64 1 ∧ sz = .int .i64 n1) ∨ (i = .int .i64 2 ∧ sz = .int .i64 (n1 + n2 : Nat))) (fun _ i => 2 - (intOf i).toNat)
  case atStart => exact .inl ⟨rfl, rfl⟩
  case round =>
    rcases hrel with ⟨rfl, rfl⟩ | ⟨rfl, rfl⟩ | ⟨rfl, rfl⟩
    · have zz : ¬ ((n1 : Int) < 0) := by omega
      go_wp2
      go_round
      case rel => exact .inr (.inl ⟨rfl, rfl⟩)
      case measure => simp [intOf]
    · have zz : ¬ ((n1 : Int) + (n2 : Int) < 0) := by omega
      go_wp2
      go_round
      case rel => exact .inr (.inr ⟨rfl, by go_num⟩)
      case measure => simp [intOf]
    · go_wp2_with fail
      rw [show ((n1 : Int) + (n2 : Int)) = ((n1 + n2 : Nat) : Int) from (Int.natCast_add _ _).symm]
      refine (growU_nil (n1 + n2) _ (by omega) (by omega)).mono ?_
      rintro e w2 ⟨g2, cg, rfl, ho2, hb2⟩
      have HO2 : Hid (_) := ho2
      clear s0 s1 ho2
      go_wp2
      go_loopw [6, 27] (fun o i wr => ∃ (ao : Option Addr) (cc : Nat), Below w.heap.size w wr ∧ ((i = .int .i64 0 ∧ o = .slice ao 0 cc ∧ OwnU w.heap.size wr ao 0 cc []) ∨ (i = .int .i64 1 ∧ o = .slice ao n1 cc ∧ OwnU w.heap.size wr ao n1 cc z1) ∨ (i = .int .i64 2 ∧ o = .slice ao (n1 + n2) cc ∧ OwnU w.heap.size wr ao (n1 + n2) cc (z1 ++ z2)))) (fun _ i _ => 2 - (intOf i).toNat)
      case atStart => exact ⟨_, _, hb2, .inl ⟨rfl, rfl, HO2.out⟩⟩
      case round =>
        obtain ⟨ao, cc, hbr, hh⟩ := hrel
        obtain ⟨s0, s1⟩ := HX.out _ hbr
        have HU1 : Hid (RowU wr a1 n1 z1) := H1.out.kept hbr
        have HU2 : Hid (RowU wr a2 n2 z2) := H2.out.kept hbr
        have hsz := hbr.size
        rcases hh with ⟨rfl, rfl, ho⟩ | ⟨rfl, rfl, ho⟩ | ⟨rfl, rfl, ho⟩
        · go_wp2_with (first | (refine wpList_append_rowU _ rfl _ _ 84 rfl w.heap.size i0 Tryz.underlying84 hi hz0 hz1 hz2 _ 0 _ rfl ho.row a1 n1 c1 z1 rfl HU1.out e1 (by omega) hsz ?_; intro v4 w4 hv4 hg4))
          have hbr4 : Below w.heap.size w w4 := hbr.grown hg4 hsz (fun k hk => (ho.row.lt k hk).1)
          rw [Nat.zero_add, List.map_nil, List.nil_append] at hv4
          obtain ⟨a4, c4, rfl, ho4⟩ := ownU_appended H1.out.rng hv4
          go_wp2
          go_roundw
          case rel => exact ⟨a4, c4, hbr4, .inr (.inl ⟨rfl, rfl, ho4⟩)⟩
          case measure => simp [intOf]
        · go_wp2_with (first | (refine wpList_append_rowU _ rfl _ _ 84 rfl w.heap.size i0 Tryz.underlying84 hi hz0 hz1 hz2 _ n1 _ rfl ho.row a2 n2 c2 z2 rfl HU2.out e2 (by omega) hsz ?_; intro v4 w4 hv4 hg4))
          have hbr4 : Below w.heap.size w w4 := hbr.grown hg4 hsz (fun k hk => (ho.row.lt k hk).1)
          rw [← List.map_append] at hv4
          obtain ⟨a4, c4, rfl, ho4⟩ := ownU_appended (u64_cat H1.out.rng H2.out.rng) hv4
          go_wp2
          go_roundw
          case rel => exact ⟨a4, c4, hbr4, .inr (.inr ⟨rfl, rfl, ho4⟩)⟩
          case measure => simp [intOf]
        · have HO : Hid (_) := ho
          clear ho
          go_wp2
          go_ret
          exact ⟨_, _, rfl, HO.out, hbr⟩

end Go.Proofs.YtpnhhhhmonbajaaGreat
