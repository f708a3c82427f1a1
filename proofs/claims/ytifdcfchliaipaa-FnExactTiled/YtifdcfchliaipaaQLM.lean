import Derived.Test.YtifdcfchliaipaaQL5
namespace Go.Proofs.Ytifdcfchliaipaa
open Go.RowKit Go.Sort

theorem OwnU.blk {B : Nat} {w : World} {a : Option Addr} {n cap : Nat} {zs : List Int} (h : OwnU B w a n cap zs) : ∀ x, a = some x → B ≤ x.block ∧ x.block < w.heap.size := by
  intro x hx
  subst hx
  exact h.row.lt x.block rfl
theorem RowU.grownU {w w' : World} {a b : Option Addr} {n cap m : Nat} {ys : List Int} (h : RowU w b m ys) (hg : w.grownBy w' (Value.slice a n cap).ownBlock) (hne : ∀ x y, a = some x → b = some y → x.block ≠ y.block) : RowU w' b m ys := by
  refine ⟨h.len, fun k hk => ?_, h.rng⟩
  obtain ⟨b', off, rfl, hlt, hc⟩ := h.get k hk
  refine ⟨b', off, rfl, Nat.lt_of_lt_of_le hlt hg.size, (World.cell?_of_block (a := ⟨b', off + k, none⟩) (hg.block b' hlt (fun e => ?_))).trans hc⟩
  cases a with
  | none => simp [Value.ownBlock] at e
  | some x => simp [Value.ownBlock] at e; exact hne x _ rfl rfl e.symm
theorem OwnU.grownU {B : Nat} {w w' : World} {a b : Option Addr} {n cap m c : Nat} {ys : List Int} (h : OwnU B w b m c ys) (hg : w.grownBy w' (Value.slice a n cap).ownBlock) (hne : ∀ x y, a = some x → b = some y → x.block ≠ y.block) : OwnU B w' b m c ys := by
  refine ⟨h.row.kept hg ?_, h.rng⟩
  cases b with
  | none => exact .inl rfl
  | some y =>
    refine .inr (fun e => ?_)
    cases a with
    | none => simp [Value.ownBlock] at e
    | some x => simp [Value.ownBlock] at e; exact hne x y rfl rfl e.symm
theorem below_grownU {B : Nat} {w0 w w' : World} {a : Option Addr} {n cap : Nat} (hb : Below B w0 w) (hB : B ≤ w.heap.size) (hg : w.grownBy w' (Value.slice a n cap).ownBlock) (ha : ∀ x, a = some x → B ≤ x.block) : Below B w0 w' := by
  refine hb.grown hg hB (fun k hk => ?_)
  cases a with
  | none => simp [Value.ownBlock] at hk
  | some x => simp [Value.ownBlock] at hk; subst hk; exact ha x rfl

set_option maxHeartbeats 1000000 in
theorem markU_any (B : Nat) (a : Option Addr) (n cap k : Nat) (zs : List Int) (w : World) (h : OwnU B w a n cap zs) (hn : n ≤ 1000000000) (hk : k ≤ 1000000000) :
    Calls Try.prog 21 #[.slice a n cap, .int .i64 k] w fun e w' => e = .returned (.int .i64 (k + n : Nat)) ∧ OwnU B w' a n cap (marksU k n) ∧ w.grownBy w' (Value.slice a n cap).ownBlock := by
  have HL : Hid (zs.length = n) := h.len
  have HRG : Hid (∀ i, U64 (zs.getD i 0)) := h.rng
  have H0 : Hid (OwnU B w a n cap (mkU zs k 0)) := by rw [mkU_zero]; exact h
  clear h
  go_enter Try.func21, Try.ntmps21
  go_wp2
  go_loopw [1, 5] (fun kk i wr => ∃ j : Nat, j ≤ n ∧ i = .int .i64 j ∧ kk = .int .i64 (k + j : Nat) ∧ Hid (OwnU B wr a n cap (mkU zs k j)) ∧ Hid (w.grownBy wr (Value.slice a n cap).ownBlock)) (fun _ i _ => n - (intOf i).toNat)
  case atStart => exact ⟨0, Nat.zero_le _, rfl, rfl, H0, World.grownBy.refl _ _⟩
  case round =>
    obtain ⟨j, hj, rfl, rfl, HO, HG⟩ := hrel
    by_cases hlt : j < n
    · obtain ⟨g, rfl, hgB, hgs⟩ := HO.out.shape (by omega)
      have hlti : (j : Int) < (n : Int) := by omega
      have hfr : wr.frozen? ⟨g, j, none⟩ = false := HO.out.row.frozenAt j
      have hvl : ((mkU zs k j).map (Value.int .u64)).length = n * 1 := HO.out.row.1
      obtain ⟨y, hy⟩ : ∃ y, wr.cell? ⟨g, j, none⟩ = some y := ⟨_, (HO.out.row.cellAt j (by omega)).trans (List.getElem?_eq_getElem (by omega))⟩
      have hs := HO.out.row.stored j (.int .u64 ((k + j : Nat) : Int))
      have hs1 := hs.1
      rw [← List.map_set, mkU_set zs k j (by rw [HL.out]; exact hlt)] at hs1
      have HN : Hid (OwnU B (wr.setCell ⟨g, j, none⟩ (.int .u64 ((k + j : Nat) : Int))) (some ⟨g, 0, none⟩) n cap (mkU zs k (j + 1))) := ⟨hs1, mkU_bd zs HRG.out k (j + 1) (by omega) (by rw [HL.out]; omega)⟩
      have HGN : Hid (w.grownBy (wr.setCell ⟨g, j, none⟩ (.int .u64 ((k + j : Nat) : Int))) (Value.slice (some ⟨g, 0, none⟩) n cap).ownBlock) := grown_trans HG.out hs.2
      have u1 : IntKind.u64.wrap ((k : Int) + (j : Int)) = (k : Int) + (j : Int) := by rw [IntKind.wrap_u64]; omega
      clear hs hs1 hvl HO HG
      go_wp2
      go_roundw
      case rel => exact ⟨j + 1, by omega, by go_num, by go_num, by have := HN.out; rw [Int.natCast_add] at this; exact this, by have := HGN.out; rw [Int.natCast_add] at this; exact this⟩
      case measure => simp [intOf]; omega
    · obtain rfl : j = n := by omega
      have HF : Hid (OwnU B wr a j cap (marksU k j)) := by have := HO.out; rwa [mkU_all zs k j HL.out] at this
      go_wp2
      go_ret
      exact ⟨rfl, HF.out, HG.out⟩

set_option maxHeartbeats 1000000 in
theorem heldU_any (a : Option Addr) (n cap k : Nat) (w : World) (h : RowU w a n (marksU k n)) (hn : n ≤ 1000000000) (hk : k ≤ 1000000000) :
    Calls Try.prog 22 #[.slice a n cap, .int .i64 k] w fun e w' => e = .returned (.int .i64 (k + n : Nat)) ∧ w' = w := by
  have H0 : Hid (RowU w a n (marksU k n)) := h
  clear h
  go_enter Try.func22, Try.ntmps22
  go_wp2
  go_loop [1, 5] (fun kk i => ∃ j : Nat, j ≤ n ∧ i = .int .i64 j ∧ kk = .int .i64 (k + j : Nat)) (fun _ i => n - (intOf i).toNat)
  case atStart => exact ⟨0, Nat.zero_le _, rfl, rfl⟩
  case round =>
    obtain ⟨j, hj, rfl, rfl⟩ := hrel
    by_cases hlt : j < n
    · have hlti : (j : Int) < (n : Int) := by omega
      obtain ⟨b, off, rfl, hlb, hc⟩ := H0.out.get j hlt
      rw [marksU_get k n j hlt, Int.natCast_add] at hc
      have u1 : IntKind.u64.wrap ((k : Int) + (j : Int)) = (k : Int) + (j : Int) := by rw [IntKind.wrap_u64]; omega
      have z1 : ((k : Int) + (j : Int) != (k : Int) + (j : Int)) = false := by simp
      go_wp2
      go_round
      case rel => exact ⟨j + 1, by omega, by go_num, by go_num⟩
      case measure => simp [intOf]; omega
    · obtain rfl : j = n := by omega
      go_wp2
      go_ret
      exact ⟨rfl, rfl⟩

end Go.Proofs.Ytifdcfchliaipaa
