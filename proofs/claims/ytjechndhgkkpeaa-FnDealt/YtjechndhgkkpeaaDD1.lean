import Derived.Test.YtjechndhgkkpeaaSG1
import Derived.Test.YtjechndhgkkpeaaWI64
namespace Go.Proofs.Ytjechndhgkkpeaa
open Go.RowKit

theorem Try.info2D : (Try.prog.info? 2).map (fun i => (i.zero, i.size, i.bytes)) = some (some (.int .i64 0), 1, 8) := by kernel_rfl
theorem cell_one64 (w : World) (x : Int) : ∀ jj uu, ([x].map (Value.int .i64))[jj]? = some uu → (w.alloc (.cells #[.int .i64 x] 2)).cell? ((⟨w.heap.size, 0, none⟩ : Addr).add jj) = some uu := by
  intro jj uu hju
  rw [Addr.add_lit, Nat.zero_add, cell_of_row _ w.heap.size jj _ 2 _ (heap_alloc_new w _), ← hju]
  simp
/-- A row of int64 of our own. -/
structure OwnI (B : Nat) (w : World) (a : Option Addr) (n cap : Nat) (zs : List Int) : Prop where
  row : w.ownsRow B 2 1 (.slice a n cap) n (zs.map (Value.int .i64))
theorem OwnI.len {B : Nat} {w : World} {a : Option Addr} {n cap : Nat} {zs : List Int} (h : OwnI B w a n cap zs) : zs.length = n := by simpa using h.row.1
theorem OwnI.kept {B : Nat} {w w' : World} {a : Option Addr} {n cap : Nat} {zs : List Int} (h : OwnI B w a n cap zs) (hb : Below w.heap.size w w') : OwnI B w' a n cap zs := ⟨ownsRow_below h.row hb⟩
theorem OwnI.touched {w w' : World} {B lo hi : Nat} {a : Option Addr} {n cap : Nat} {zs : List Int} (h : OwnI B w a n cap zs) (ht : Touch lo hi w w') (hd : hi ≤ B) : OwnI B w' a n cap zs := ⟨owns_touch h.row ht hd⟩
theorem OwnI.toRow {B : Nat} {w : World} {a : Option Addr} {n cap : Nat} {zs : List Int} (h : OwnI B w a n cap zs) : Row64 w a n zs := by
  refine ⟨h.len, fun k hk => ?_⟩
  rcases h.row.2 with ⟨_, h0⟩ | ⟨g, cap', cur, hv, hb, hg, _⟩
  · omega
  · simp only [Value.slice.injEq] at hv
    obtain ⟨rfl, _, _⟩ := hv
    refine ⟨g, 0, rfl, (Array.getElem?_eq_some_iff.1 hg).1, ?_⟩
    rw [Nat.zero_add, World.ownsRow.cellAt h.row k (by omega)]
    have hl := h.len
    simp [show k < zs.length by omega]
theorem ownI_appended {B : Nat} {w : World} {v : Value} {m : Nat} {zs : List Int} (h : w.ownsRow B 2 1 v m (zs.map (Value.int .i64))) : ∃ a cap, v = .slice a m cap ∧ OwnI B w a m cap zs := by
  rcases h.2 with ⟨rfl, rfl⟩ | ⟨g, cap, cur, rfl, _⟩
  · exact ⟨_, _, rfl, ⟨h⟩⟩
  · exact ⟨_, _, rfl, ⟨h⟩⟩
theorem ownI_mono {B B' : Nat} {w : World} {a : Option Addr} {n cap : Nat} {zs : List Int} (h : OwnI B w a n cap zs) (hB : B' ≤ B) : OwnI B' w a n cap zs := by
  refine ⟨h.row.1, ?_⟩
  rcases h.row.2 with hv | ⟨g, cap', cur, hv, hb, r⟩
  · exact .inl hv
  · exact .inr ⟨g, cap', cur, hv, Nat.le_trans hB hb, r⟩
def k3s : List Int := [0, 20, 21]
theorem k3s_range (k : Nat) (h : k < 3) : 0 ≤ k3s.getD k 0 ∧ k3s.getD k 0 ≤ 21 := by
  match k, h with
  | 0, _ => exact ⟨by decide, by decide⟩
  | 1, _ => exact ⟨by decide, by decide⟩
  | 2, _ => exact ⟨by decide, by decide⟩
theorem k3s_cell (w : World) (k : Nat) (h : k < 3) : (w.alloc (.cells #[.int .i64 0, .int .i64 20, .int .i64 21] 2)).cell? ⟨w.heap.size, k, none⟩ = some (.int .i64 (k3s.getD k 0)) := by
  rw [cell_of_row _ w.heap.size k _ 2 _ (heap_alloc_new w _)]
  match k, h with
  | 0, _ => rfl
  | 1, _ => rfl
  | 2, _ => rfl

set_option maxHeartbeats 4000000 in
theorem drawDeal_any (a : Option Addr) (n cap : Nat) (bs : List Int) (w : World) (h : Row w a n bs) (hn : n ≤ 1000000000) :
    Calls Try.prog 6 #[.slice a n cap] w fun e w' => ∃ (s k : Int) (am : Option Addr) (nm cm : Nat) (ms : List Int), e = .returned (.tuple #[.int .i64 s, .slice am nm cm, .int .i64 k]) ∧ (-1 ≤ s ∧ s ≤ 1000000007) ∧ (0 ≤ k ∧ k ≤ 21) ∧ nm ≤ 21 ∧ OwnI w.heap.size w' am nm cm ms ∧ Below w.heap.size w w' := by
  obtain ⟨i0, hi, hz0, hz1, hz2⟩ := info_parts Try.info2D
  go_enter Try.func6, Try.ntmps6
  go_wp2_with fail
  refine (open_any a n cap bs _ h hn).mono ?_
  rintro e w1 ⟨rfl, hrd, hb1⟩
  have hg1 := hrd.lt
  obtain ⟨g, hg⟩ : ∃ g, g = w.heap.size := ⟨_, rfl⟩
  have HR1 : Hid (RdPost w1 g a n cap bs w1) := by rw [hg]; exact ⟨hrd, Touch.same _ _ _⟩
  have HG : Hid (g = w.heap.size) := hg
  have HB1 : Hid (Below w.heap.size w w1) := hb1
  have hgl : g < w1.heap.size := by omega
  rw [← hg]
  clear hg hrd h hb1
  go_wp2_with fail
  refine (drawExp_any g a n cap bs _ HR1.out.1).mono ?_
  rintro e w2 ⟨s, rfl, hs0, hs1, hp2⟩
  have hp2' := HR1.out.step hp2
  have hoe : OwnI w1.heap.size (w2.alloc (.cells #[] 2)) (some ⟨w2.heap.size, 0, none⟩) 0 0 [] := ⟨World.ownsRow_lit w2 #[] 0 hp2.2.size (Nat.zero_le _) rfl⟩
  have hpe := hp2'.alloc (.cells #[] 2)
  have HOE : Hid (_) := hoe
  have HPE : Hid (RdPost w1 g a n cap bs (w2.alloc (.cells #[] 2))) := hpe
  clear hoe hpe hp2 hp2' HR1
  go_wp2_with fail
  refine (below_any g a n cap bs 5 _ HPE.out.1 (by decide)).mono ?_
  rintro e w3 ⟨v, rfl, hv0, hv1, hp3⟩
  obtain ⟨u, rfl⟩ := Int.eq_ofNat_of_zero_le hv0
  have hu4 : u ≤ 4 := by omega
  have HO3 : Hid (_) := HOE.out.touched hp3.2 (by omega)
  have HP3 : Hid (RdPost w1 g a n cap bs w3) := HPE.out.step hp3
  clear HOE HPE hp3
  go_wp2
  go_loopw [7, 9] (fun o i wr => ∃ (k c' : Nat) (a' : Option Addr) (xs : List Int), k ≤ u ∧ i = .int .i64 k ∧ o = .slice a' k c' ∧ OwnI w1.heap.size wr a' k c' xs ∧ RdPost w1 g a n cap bs wr) (fun _ i _ => u - (intOf i).toNat)
  case atStart => exact ⟨0, 0, _, [], Nat.zero_le _, rfl, rfl, HO3.out, HP3.out⟩
  case round =>
    obtain ⟨k, c', a', xs, hk, rfl, rfl, hor, hpr⟩ := hrel
    have hsr := hpr.2.size
    by_cases hlt : k < u
    · have hlti : (k : Int) < (u : Int) := by omega
      go_wp2_with fail
      refine (drawExp_any g a n cap bs _ hpr.1).mono ?_
      rintro e w4 ⟨y, rfl, hy0, hy1, hp4⟩
      have hor4 := hor.touched hp4.2 (by omega)
      have hpp4 := hpr.step hp4
      have hs4 := hp4.2.size
      clear hor hpr hp4
      go_wp2_with (at_builtin; refine wpList_append_own _ rfl _ _ 24 rfl w1.heap.size 2 i0 (.int .i64 0) 1 8 Try.underlying24 hi hz0 hz1 hz2 rfl (by decide) _ _ _ rfl (hor4.kept ((Below.refl _ _).alloc (Nat.le_refl _) _)).row ⟨w4.heap.size, 0, none⟩ 1 1 ([y].map (Value.int .i64)) rfl rfl (cell_one64 _ _) (ints_oneCell .i64 [y]) (by unfold maxLen; omega) (by omega) (by simp; omega) ?_; intro v' w5 hown' hgrow' _)
      rw [← List.map_append] at hown'
      obtain ⟨a5, c5, rfl, ho5⟩ := ownI_appended hown'
      have hT : Touch w1.heap.size (w4.heap.size + 1) (w4.alloc (.cells #[.int .i64 y] 2)) w5 := touch_grown hgrow' (fun k hk => by have := (hor4.row.lt k hk); omega)
      have hp5 := (hpp4.alloc (.cells #[.int .i64 y] 2)).grown hT hgl (Nat.le_refl _)
      go_roundw
      case rel => exact ⟨k + 1, c5, a5, xs ++ [y], by omega, by go_num, rfl, ho5, hp5⟩
      case measure => simp [intOf]; omega
    · have hnl : ¬ ((k : Int) < (u : Int)) := by omega
      go_wp2_with fail
      refine (once_any g a n cap bs 15 _ hpr.1 (by decide) (by decide)).mono ?_
      rintro e w4 ⟨c, rfl, hp4⟩
      have HO4 : Hid (_) := hor.touched hp4.2 (by omega)
      have HP4 : Hid (RdPost w1 g a n cap bs w4) := hpr.step hp4
      have hk20 : k ≤ 20 := by omega
      clear hor hpr hp4 hlt hnl hk
      cases c
      · skip
        go_wp2_with fail
        refine (below_any g a n cap bs 7 _ HP4.out.1 (by decide)).mono ?_
        rintro e w6 ⟨qv, rfl, hqv0, hqv1, hp6⟩
        have HO6 : Hid (_) := HO4.out.touched hp6.2 (by omega)
        have HP6 : Hid (RdPost w1 g a n cap bs w6) := HP4.out.step hp6
        have hq6 : qv ≤ 6 := by omega
        clear HO4 HP4 hp6
        go_wp2_with fail
        refine (once_any g a n cap bs 10 _ HP6.out.1 (by decide) (by decide)).mono ?_
        rintro e w7 ⟨c, rfl, hp7⟩
        have HO7 : Hid (_) := HO6.out.touched hp7.2 (by omega)
        have HP7 : Hid (RdPost w1 g a n cap bs w7) := HP6.out.step hp7
        clear HO6 HP6 hp7
        cases c
        · have hfin : Below w.heap.size w w7 := RdPost.below HB1.out (by rw [← HG.out]; exact HP7.out)
          go_wp2
          go_ret3
          exact ⟨s, 1 + qv, a', k, c', xs, rfl, ⟨hs0, hs1⟩, by omega, by omega, ownI_mono HO7.out HB1.out.size, hfin⟩
        · have HT8 : Hid (∀ k, k < 3 → (w7.alloc (.cells #[.int .i64 0, .int .i64 20, .int .i64 21] 2)).cell? ⟨w7.heap.size, k, none⟩ = some (.int .i64 (k3s.getD k 0))) := fun k hk => k3s_cell w7 k hk
          obtain ⟨w8, hw8⟩ : ∃ w8, w8 = w7.alloc (.cells #[.int .i64 0, .int .i64 20, .int .i64 21] 2) := ⟨_, rfl⟩
          have HO8 : Hid (OwnI w1.heap.size w8 a' k c' xs) := by show OwnI _ _ _ _ _ _; rw [hw8]; exact HO7.out.kept ((Below.refl _ _).alloc (Nat.le_refl _) _)
          have HP8 : Hid (RdPost w1 g a n cap bs w8) := by show RdPost _ _ _ _ _ _ _; rw [hw8]; exact HP7.out.alloc _
          have hl8 : w7.heap.size < w8.heap.size := by rw [hw8]; simp
          have hg7 : g < w7.heap.size := by have := HP7.out.2.size; omega
          have HW8 : Hid (_ = _) := hw8
          rw [← hw8] at HT8
          clear hw8 HO7 HP7
          go_wp2_with fail
          rw [← HW8.out]
          clear HW8
          refine (below_any g a n cap bs 3 _ HP8.out.1 (by decide)).mono ?_
          rintro e w9 ⟨x, rfl, hx0, hx1, hp9⟩
          obtain ⟨j, rfl⟩ := Int.eq_ofNat_of_zero_le hx0
          have hj3 : j < 3 := by omega
          have hji : (j : Int) < 3 := by omega
          have hcj : w9.cell? ⟨w7.heap.size, j, none⟩ = some (.int .i64 (k3s.getD j 0)) := (World.cell?_of_block (hp9.2.block w7.heap.size hl8 (.inr (by omega)))).trans (HT8.out j hj3)
          have hkr := k3s_range j hj3
          obtain ⟨kv, hkv⟩ : ∃ kv, kv = k3s.getD j 0 := ⟨_, rfl⟩
          rw [← hkv] at hcj hkr
          have HO9 : Hid (_) := HO8.out.touched hp9.2 (by omega)
          have hfin : Below w.heap.size w w9 := RdPost.below HB1.out (by rw [← HG.out]; exact HP8.out.step hp9)
          clear hkv HO8 HP8 hp9 HT8
          go_wp2
          go_ret3
          exact ⟨s, kv, a', k, c', xs, rfl, ⟨hs0, hs1⟩, hkr, by omega, ownI_mono HO9.out HB1.out.size, hfin⟩
      · go_wp2
        go_loopw [7] (fun o wr => ∃ (q c' : Nat) (a' : Option Addr) (xs : List Int), q ≤ 20 ∧ o = .slice a' q c' ∧ OwnI w1.heap.size wr a' q c' xs ∧ RdPost w1 g a n cap bs wr) (fun o _ => 21 - (match o with | .slice _ m _ => m | _ => 0))
        case atStart => exact ⟨k, c', a', xs, hk20, rfl, HO4.out, HP4.out⟩
        case round =>
          obtain ⟨q, cq, aq, zq, hq, rfl, hoq, hpq⟩ := hrel
          have hsq := hpq.2.size
          go_wp2_with fail
          refine (below_any g a n cap bs 2 _ hpq.1 (by decide)).mono ?_
          rintro e w5 ⟨b, rfl, hb0, hb1, hp5⟩
          have hor5 := hoq.touched hp5.2 (by omega)
          have hpp5 := hpq.step hp5
          have hs5 := hp5.2.size
          clear hoq hpq hp5
          by_cases hlt : (q : Int) < 19 + b
          · go_wp2_with (at_builtin; refine wpList_append_own _ rfl _ _ 24 rfl w1.heap.size 2 i0 (.int .i64 0) 1 8 Try.underlying24 hi hz0 hz1 hz2 rfl (by decide) _ _ _ rfl (hor5.kept ((Below.refl _ _).alloc (Nat.le_refl _) _)).row ⟨w5.heap.size, 0, none⟩ 1 1 ([1].map (Value.int .i64)) rfl rfl (cell_one64 _ _) (ints_oneCell .i64 [1]) (by unfold maxLen; omega) (by omega) (by simp; omega) ?_; intro v' w6 hown' hgrow' _)
            rw [← List.map_append] at hown'
            obtain ⟨a6, c6, rfl, ho6⟩ := ownI_appended hown'
            have hT : Touch w1.heap.size (w5.heap.size + 1) (w5.alloc (.cells #[.int .i64 1] 2)) w6 := touch_grown hgrow' (fun k hk => by have := (hor5.row.lt k hk); omega)
            have hp6 := (hpp5.alloc (.cells #[.int .i64 1] 2)).grown hT hgl (Nat.le_refl _)
            go_roundw
            case rel => exact ⟨q + 1, c6, a6, zq ++ [1], by omega, rfl, ho6, hp6⟩
            case measure => simp; omega
          · have HO5 : Hid (_) := hor5
            have HP5 : Hid (RdPost w1 g a n cap bs w5) := hpp5
            clear hor5 hpp5
            go_wp2_with fail
            refine (below_any g a n cap bs 7 _ HP5.out.1 (by decide)).mono ?_
            rintro e w6 ⟨qv, rfl, hqv0, hqv1, hp6⟩
            have HO6 : Hid (_) := HO5.out.touched hp6.2 (by omega)
            have HP6 : Hid (RdPost w1 g a n cap bs w6) := HP5.out.step hp6
            have hq6 : qv ≤ 6 := by omega
            clear HO5 HP5 hp6
            go_wp2_with fail
            refine (once_any g a n cap bs 10 _ HP6.out.1 (by decide) (by decide)).mono ?_
            rintro e w7 ⟨c, rfl, hp7⟩
            have HO7 : Hid (_) := HO6.out.touched hp7.2 (by omega)
            have HP7 : Hid (RdPost w1 g a n cap bs w7) := HP6.out.step hp7
            clear HO6 HP6 hp7
            cases c
            · have hfin : Below w.heap.size w w7 := RdPost.below HB1.out (by rw [← HG.out]; exact HP7.out)
              go_wp2
              go_ret3
              exact ⟨s, 1 + qv, aq, q, cq, zq, rfl, ⟨hs0, hs1⟩, by omega, by omega, ownI_mono HO7.out HB1.out.size, hfin⟩
            · have HT8 : Hid (∀ k, k < 3 → (w7.alloc (.cells #[.int .i64 0, .int .i64 20, .int .i64 21] 2)).cell? ⟨w7.heap.size, k, none⟩ = some (.int .i64 (k3s.getD k 0))) := fun k hk => k3s_cell w7 k hk
              obtain ⟨w8, hw8⟩ : ∃ w8, w8 = w7.alloc (.cells #[.int .i64 0, .int .i64 20, .int .i64 21] 2) := ⟨_, rfl⟩
              have HO8 : Hid (OwnI w1.heap.size w8 aq q cq zq) := by show OwnI _ _ _ _ _ _; rw [hw8]; exact HO7.out.kept ((Below.refl _ _).alloc (Nat.le_refl _) _)
              have HP8 : Hid (RdPost w1 g a n cap bs w8) := by show RdPost _ _ _ _ _ _ _; rw [hw8]; exact HP7.out.alloc _
              have hl8 : w7.heap.size < w8.heap.size := by rw [hw8]; simp
              have hg7 : g < w7.heap.size := by have := HP7.out.2.size; omega
              have HW8 : Hid (_ = _) := hw8
              rw [← hw8] at HT8
              clear hw8 HO7 HP7
              go_wp2_with fail
              rw [← HW8.out]
              clear HW8
              refine (below_any g a n cap bs 3 _ HP8.out.1 (by decide)).mono ?_
              rintro e w9 ⟨x, rfl, hx0, hx1, hp9⟩
              obtain ⟨j, rfl⟩ := Int.eq_ofNat_of_zero_le hx0
              have hj3 : j < 3 := by omega
              have hji : (j : Int) < 3 := by omega
              have hcj : w9.cell? ⟨w7.heap.size, j, none⟩ = some (.int .i64 (k3s.getD j 0)) := (World.cell?_of_block (hp9.2.block w7.heap.size hl8 (.inr (by omega)))).trans (HT8.out j hj3)
              have hkr := k3s_range j hj3
              obtain ⟨kv, hkv⟩ : ∃ kv, kv = k3s.getD j 0 := ⟨_, rfl⟩
              rw [← hkv] at hcj hkr
              have HO9 : Hid (_) := HO8.out.touched hp9.2 (by omega)
              have hfin : Below w.heap.size w w9 := RdPost.below HB1.out (by rw [← HG.out]; exact HP8.out.step hp9)
              clear hkv HO8 HP8 hp9 HT8
              go_wp2
              go_ret3
              exact ⟨s, kv, aq, q, cq, zq, rfl, ⟨hs0, hs1⟩, hkr, by omega, ownI_mono HO9.out HB1.out.size, hfin⟩

end Go.Proofs.Ytjechndhgkkpeaa
