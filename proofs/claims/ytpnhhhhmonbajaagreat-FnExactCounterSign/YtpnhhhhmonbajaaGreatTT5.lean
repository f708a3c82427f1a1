import Derived.Test.YtpnhhhhmonbajaaGreatTT4
import Derived.Deep.RegionLaw
import Derived.OwnWalk
namespace Go.Proofs.YtpnhhhhmonbajaaGreat
open Go.RowKit

theorem step_append_ownT {P : Program} {ops : Array Oper} {o : Oper} {a : Act} {w : World} {K : Act → World → Prop} {Q : Exit → Act → World → Prop} {E : Prop}
    (hg : o.guard = none) (s x : Operand) (t : TypeId) (hop : o.op = Op.call { callee := Callee.builtin Builtin.append, args := #[s, x], argTypes := #[t, t] })
    (base : Nat) (e : TypeId) (i : TypeInfo) (z : Value) (size bytes : Nat) (h1 : P.underlying t = some (.slice e)) (h2 : P.info? e = some i) (h3 : i.zero = some z) (h4 : i.size = size) (h5 : i.bytes = bytes) (h6 : z.cells.size = size) (h7 : 0 < size)
    (v : Value) (n : Nat) (xs : List Value) (hs : a.eval s = v) (hown : w.ownsRow base e size v n xs)
    (ad : Addr) (m c : Nat) (news : List Value) (hx : a.eval x = .slice (some ad) m c) (hn : news.length = m * size) (hc : ∀ j u, news[j]? = some u → w.cell? (ad.add j) = some u) (h1c : ∀ u ∈ news, u.oneCell' = true)
    (b1 : n + m ≤ maxLen) (b2 : (n + m) * bytes ≤ 140737488355328) (b3 : base ≤ w.heap.size)
    (hK : ∀ v' w', w'.ownsRow base e size v' (n + m) (xs ++ news) → w.grownBy w' v.ownBlock → K (a.put o.dst v') w') :
    if Region.wanted o (yielded ops a.tmps) = true then Oper.wp P o a w K Q else E := by
  have hw : Region.wanted o (yielded ops a.tmps) = true := by simp [Region.wanted, hg]
  rw [if_pos hw]
  obtain ⟨v', w', hrun, r1, r2, _⟩ := run_append_own (P := P) w base t o.type e i z size bytes h1 h2 h3 h4 h5 h6 h7 v n xs hown ad m c news hn hc h1c b1 b2 b3
  unfold Oper.wp
  simp [execOp, hop, resolve, invoke, builtin, hs, hx, hrun, Result.andThen]
  exact hK v' w' r1 r2
theorem Tryz.infoU : (Tryz.prog.info? 26).map (fun i => (i.zero, i.size, i.bytes)) = some (some (.int .u64 0), 1, 8) := by kernel_rfl
theorem cell_oneU (w : World) (x : Int) : ∀ jj uu, ([x].map (Value.int .u64))[jj]? = some uu → (w.alloc (.cells #[.int .u64 x] 26)).cell? ((⟨w.heap.size, 0, none⟩ : Addr).add jj) = some uu := by
  intro jj uu hju
  rw [Addr.add_lit, Nat.zero_add, cell_of_row _ w.heap.size jj _ 26 _ (heap_alloc_new w _), ← hju]
  simp
theorem madeU {B n : Nat} {w : World} {v : Value} (h : w.ownsRow B 26 1 v n (madeCells (Value.int .u64 0).cells (n * 1)).toList) : w.ownsRow B 26 1 v n ((List.replicate n (0 : Int)).map (Value.int .u64)) := by
  have e : (madeCells (Value.int .u64 0).cells (n * 1)).toList = (List.replicate n (0 : Int)).map (Value.int .u64) := by
    rw [List.map_replicate, Nat.mul_one]; exact toList_madeCells_one _ _
  rwa [e] at h

def endN (seed leaf : Int) (d : Nat) : Int := stepsN (startN seed leaf d) 15
def endsN (seed leaf : Int) : List Int := (List.range 18).map (endN seed leaf)
theorem endsN_len (seed leaf : Int) : (endsN seed leaf).length = 18 := by simp [endsN]
theorem endsN_get (seed leaf : Int) (d : Nat) (h : d < 18) : (endsN seed leaf).getD d 0 = endN seed leaf d := by simp [endsN, h]
theorem endN_bd (seed leaf : Int) (d : Nat) : U64 (endN seed leaf d) := stepsN_bd _ (startN_bd _ _ _) _
theorem endsN_bd (seed leaf : Int) : ∀ k, U64 ((endsN seed leaf).getD k 0) := by
  intro k
  by_cases h : k < 18
  · rw [endsN_get seed leaf k h]; exact endN_bd _ _ _
  · rw [List.getD_eq_getElem?_getD, List.getElem?_eq_none (by rw [endsN_len]; omega)]; simp [U64]
def leafN (seed leaf : Int) : Int := hashD leW (endsN seed leaf)
theorem leafN_bd (seed leaf : Int) : U64 (leafN seed leaf) := hashD_bd _ _
theorem u64_take {zs : List Int} (h : ∀ k, U64 (zs.getD k 0)) (j : Nat) : ∀ k, U64 ((zs.take j).getD k 0) := by
  intro k
  have := h k
  rw [List.getD_eq_getElem?_getD, List.getElem?_take]
  split
  · simpa [List.getD_eq_getElem?_getD] using this
  · simp [U64]

set_option maxRecDepth 10000 in
set_option maxHeartbeats 2000000 in
theorem leafDigest_any (seed height next leaf : Int) (w : World) (hx : U64 seed) (hl : leaf ≤ 9223372036854775807) :
    Calls Tryz.prog 140 #[tkv seed height next, .int .i64 leaf] w fun e w' => e = .returned (.int .u64 (leafN seed leaf)) ∧ Below w.heap.size w w' := by
  obtain ⟨i0, hi, hz0, hz1, hz2⟩ := info_parts Tryz.infoU
  obtain ⟨wb, hwb⟩ : ∃ wb, wb = w.alloc (.cells #[.int .u64 seed, .int .i64 height, .int .i64 next] 88) := ⟨_, rfl⟩
  have hbb : Below w.heap.size w wb := by rw [hwb]; exact (Below.refl _ _).alloc (Nat.le_refl _) _
  have HBX : Hid (wb.heap[w.heap.size]? = some (.cells #[.int .u64 seed, .int .i64 height, .int .i64 next] 88)) := by show _ = _; rw [hwb]; exact heap_alloc_new w _
  have hlw : w.heap.size < wb.heap.size := by rw [hwb]; simp
  have HWB : Hid (_ = _) := hwb
  clear hwb
  rw [tkv]
  go_enter Tryz.func140, Tryz.ntmps140
  go_upto_region 1 with fail
  rw [← HWB.out]
  clear HWB
  go_wp2_with (first | (at_make; refine wpList_make_full _ rfl _ _ 84 rfl wb.heap.size 26 i0 _ 1 Tryz.underlying84 hi hz0 hz1 _ _ _ _ 18 rfl rfl rfl rfl (by rw [hz2]; decide) (by unfold maxLen; decide) (by exact Nat.le_refl _) ?_; intro w2 hown hgrow))
  have hbl : Below wb.heap.size wb w2 := (Below.refl _ _).grown hgrow (Nat.le_refl _) (by simp)
  have HST : Hid (OwnU wb.heap.size w2 (some ⟨wb.heap.size, 0, none⟩) 18 18 (half (endsN seed leaf) 0)) := by
    show OwnU _ _ _ _ _ _
    rw [half_zero, endsN_len]
    exact ⟨madeU hown, u64_rep 18⟩
  clear hgrow hi hz0 hz1 hz2 hown
  go_loopw [10] (fun i wr => ∃ k : Nat, k ≤ 18 ∧ i = .int .i64 k ∧ Hid (OwnU wb.heap.size wr (some ⟨wb.heap.size, 0, none⟩) 18 18 (half (endsN seed leaf) k)) ∧ Below wb.heap.size wb wr) (fun i _ => 18 - (intOf i).toNat)
  case atStart => exact ⟨0, by decide, rfl, HST, hbl⟩
  case round =>
    obtain ⟨k, hk, rfl, HO, hbr⟩ := hrel
    by_cases hlt : k < 18
    · have hbx : wr.heap[w.heap.size]? = some (.cells #[.int .u64 seed, .int .i64 height, .int .i64 next] 88) := (hbr.block _ hlw).trans HBX.out
      have q0 : wr.cell? ⟨w.heap.size, 0, none⟩ = some (.int .u64 seed) := (cell_of_row _ w.heap.size 0 _ 88 (0, 0) hbx).trans rfl
      have q1 : wr.cell? ⟨w.heap.size, 1, none⟩ = some (.int .i64 height) := (cell_of_row _ w.heap.size 1 _ 88 (0, 0) hbx).trans rfl
      have q2 : wr.cell? ⟨w.heap.size, 2, none⟩ = some (.int .i64 next) := (cell_of_row _ w.heap.size 2 _ 88 (0, 0) hbx).trans rfl
      have hlti : (k : Int) < 18 := by omega
      clear hbx HST hbl
      go_wp2_with fail
      refine (implStart_any seed height next leaf (k : Int) _ hx hl (by omega)).mono ?_
      rintro e w3 ⟨rfl, hb3⟩
      clear q0 q1 q2
      go_wp2_with fail
      refine (stepped_any (startN seed leaf (k : Int)) 15 _ (startN_bd _ _ _) (by decide)).mono ?_
      rintro e w4 ⟨rfl, hb4⟩
      have hb34 := keepT hb3 hb4
      have hor := HO.out.kept hb34
      have hB4 := keepT hbr hb34
      have f0 : w4.frozen? ⟨wb.heap.size, k, none⟩ = false := hor.row.frozenAt _
      have hvl : ((half (endsN seed leaf) k).map (Value.int .u64)).length = 18 * 1 := hor.row.1
      obtain ⟨y0, hy0⟩ : ∃ y, w4.cell? ⟨wb.heap.size, k, none⟩ = some y := ⟨_, (hor.row.cellAt _ (by omega)).trans (List.getElem?_eq_getElem (by omega))⟩
      have hs := (hor.row.stored k (.int .u64 (stepsN (startN seed leaf (k : Int)) 15))).1
      rw [← List.map_set, show stepsN (startN seed leaf (k : Int)) 15 = (endsN seed leaf).getD k 0 by rw [endsN_get seed leaf k hlt]; rfl, half_set (endsN seed leaf) k (by rw [endsN_len]; exact hlt), show (endsN seed leaf).getD k 0 = stepsN (startN seed leaf (k : Int)) 15 by rw [endsN_get seed leaf k hlt]; rfl] at hs
      have HN : Hid (OwnU wb.heap.size (w4.setCell ⟨wb.heap.size, k, none⟩ (.int .u64 (stepsN (startN seed leaf (k : Int)) 15))) (some ⟨wb.heap.size, 0, none⟩) 18 18 (half (endsN seed leaf) (k + 1))) := ⟨hs, u64_half (endsN_bd seed leaf) _⟩
      have HBN : Hid (Below wb.heap.size wb (w4.setCell ⟨wb.heap.size, k, none⟩ (.int .u64 (stepsN (startN seed leaf (k : Int)) 15)))) := hB4.setCell (Nat.le_refl _) _
      clear hs hor hB4 hb34 hb3 hb4 hbr HO hvl
      go_wp2
      go_roundw
      case rel => exact ⟨k + 1, by omega, by go_num, HN, HBN.out⟩
      case measure => simp [intOf]; omega
    · obtain rfl : k = 18 := by omega
      have HR : Hid (RowU wr (some ⟨wb.heap.size, 0, none⟩) 18 (endsN seed leaf)) := by
        have := HO.out.toRow
        have e := half_all (endsN seed leaf)
        rw [endsN_len] at e
        rwa [e] at this
      have HLE : Hid (strL ⟨#[108, 101, 97, 102]⟩ = leW) := by show _ = _; decide
      clear HO HST hbl
      go_wp2_with fail
      refine (hashDigests_any _ _ 18 18 (endsN seed leaf) _ HR.out (by decide) (by decide)).mono ?_
      rintro e w3 ⟨rfl, hb3⟩
      rw [HLE.out]
      go_wp2
      go_ret
      exact ⟨rfl, keepT hbb (keepT hbr hb3)⟩

end Go.Proofs.YtpnhhhhmonbajaaGreat
