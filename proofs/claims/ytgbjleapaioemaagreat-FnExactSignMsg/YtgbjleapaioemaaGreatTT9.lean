import Derived.Test.YtgbjleapaioemaaGreatTT8
namespace Go.Proofs.YtgbjleapaioemaaGreat
open Go.RowKit

def lenT : Value → Nat
  | .slice _ n _ => n
  | _ => 0
def sib (x : Nat) : Nat := if x % 2 = 0 then x + 1 else x - 1
theorem xor_sib : ∀ x : Nat, x < 32 → bits .xor .i64 (x : Int) 1 = (sib x : Int) := by decide +kernel
theorem sib_lt {x m : Nat} (h : x < 2 * m) : sib x < 2 * m := by unfold sib; split <;> omega
/-- The rows above a row. -/
def lev (zs : List Int) : Nat → List Int
  | 0 => zs
  | k + 1 => upL (lev zs k)
theorem lev_len (zs : List Int) (H k : Nat) (hz : zs.length = 2 ^ H) (hk : k ≤ H) : (lev zs k).length = 2 ^ (H - k) := by
  induction k with
  | zero => exact hz
  | succ k ih =>
    rw [lev, upL_len, ih (by omega), show H - k = H - (k + 1) + 1 by omega, Nat.pow_succ]
    omega
theorem lev_bd (zs : List Int) (hz : ∀ k, U64 (zs.getD k 0)) (j : Nat) : ∀ k, U64 ((lev zs j).getD k 0) := by
  cases j with
  | zero => exact hz
  | succ j => exact upL_bd _
/-- What stands beside the way up from a leaf. -/
def pathN (zs : List Int) (L : Nat) : Nat → List Int
  | 0 => []
  | k + 1 => pathN zs L k ++ [(lev zs k).getD (sib (L / 2 ^ k)) 0]
theorem pathN_len (zs : List Int) (L k : Nat) : (pathN zs L k).length = k := by
  induction k with
  | zero => rfl
  | succ k ih => rw [pathN, List.length_append, ih]; rfl
theorem pathN_bd (zs : List Int) (hz : ∀ k, U64 (zs.getD k 0)) (L k : Nat) : ∀ j, U64 ((pathN zs L k).getD j 0) := by
  induction k with
  | zero => intro j; simp [pathN, U64]
  | succ k ih => exact u64_snoc ih (lev_bd zs hz k _)
theorem div_pow_lt {L H k : Nat} (hL : L < 2 ^ H) (hk : k ≤ H) : L / 2 ^ k < 2 ^ (H - k) := by
  rw [Nat.div_lt_iff_lt_mul (Nat.pow_pos (by decide)), ← Nat.pow_add, show H - k + k = H by omega]
  exact hL
theorem HN.pow {h : Int} {N : Nat} (hn : HN h N) : N = 2 ^ h.toNat ∧ h.toNat ≤ 5 := by
  unfold HN at hn
  rcases hn with ⟨rfl, rfl⟩ | ⟨rfl, rfl⟩ | ⟨rfl, rfl⟩ | ⟨rfl, rfl⟩ | ⟨rfl, rfl⟩ | ⟨rfl, rfl⟩ <;> decide

set_option maxRecDepth 10000 in
set_option maxHeartbeats 4000000 in
theorem wayUp_any (seed h next : Int) (N L : Nat) (w : World) (hx : U64 seed) (hN : HN h N) (hL : L < N) :
    Calls Tryz.prog 128 #[.int .i64 N, .int .i64 L, .func (Fn.func 129) #[tkv seed h next] #[]] w fun e w' => ∃ ap cp, e = .returned (.tuple #[.int .u64 ((lev (leavesN seed N) h.toNat).getD 0 0), .slice ap h.toNat cp]) ∧ OwnU w.heap.size w' ap h.toNat cp (pathN (leavesN seed N) L h.toNat) ∧ Below w.heap.size w w' := by
  obtain ⟨i0, hi, hz0, hz1, hz2⟩ := info_parts Tryz.infoU
  have hN1 := hN.le.1
  have hN2 := hN.le.2
  obtain ⟨H, hH⟩ : ∃ H, H = h.toNat := ⟨_, rfl⟩
  have hp := hN.pow
  rw [← hH] at hp ⊢
  obtain ⟨hpN, hH5⟩ := hp
  have HP : Hid (N = 2 ^ H) := hpN
  have hZL : (leavesN seed N).length = N := leavesN_len seed N
  obtain ⟨zs, hzs⟩ : ∃ zs, zs = leavesN seed N := ⟨_, rfl⟩
  have HZ : Hid (zs = leavesN seed N) := hzs
  have HZB : Hid (∀ k, U64 (zs.getD k 0)) := by rw [hzs]; exact leavesN_bd seed N
  rw [← hzs] at hZL ⊢
  have HZL : Hid (zs.length = N) := hZL
  clear hH hpN hzs hZL
  go_enter Tryz.func128, Tryz.ntmps128
  go_wp2_with (first | (at_make; refine wpList_make_full _ rfl _ _ 71 rfl w.heap.size 41 i0 _ 1 Tryz.underlying71 hi hz0 hz1 _ _ _ _ N rfl rfl rfl rfl (by rw [hz2]; omega) (by unfold maxLen; omega) (by exact Nat.le_refl _) ?_; intro w2 hown hgrow))
  have hbl : Below w.heap.size w w2 := (Below.refl _ _).grown hgrow (Nat.le_refl _) (by simp)
  have HST : Hid (OwnU w.heap.size w2 (some ⟨w.heap.size, 0, none⟩) N N (half zs 0)) := by
    show OwnU _ _ _ _ _ _
    rw [half_zero, HZL.out]
    exact ⟨madeU hown, u64_rep N⟩
  clear hgrow hown
  go_loopw [15] (fun i wr => ∃ k : Nat, k ≤ N ∧ i = .int .i64 k ∧ Hid (OwnU w.heap.size wr (some ⟨w.heap.size, 0, none⟩) N N (half zs k)) ∧ Below w.heap.size w wr) (fun i _ => N - (intOf i).toNat)
  case atStart => exact ⟨0, Nat.zero_le _, rfl, HST, hbl⟩
  case round =>
    obtain ⟨k, hk, rfl, HO, hbr⟩ := hrel
    by_cases hlt : k < N
    · have hlti : (k : Int) < (N : Int) := by omega
      have hgk : zs.getD k 0 = leafN seed (k : Int) := by rw [HZ.out]; exact leavesN_get seed N k hlt
      have HGK : Hid (leafN seed (k : Int) = zs.getD k 0) := hgk.symm
      clear hgk HST hbl
      go_wp2_with fail
      refine (leafDigest_any seed h next (k : Int) _ hx (by omega)).mono ?_
      rintro e w4 ⟨rfl, hb4⟩
      rw [HGK.out]
      have hor := HO.out.kept hb4
      have hB4 := keepT hbr hb4
      have f0 : w4.frozen? ⟨w.heap.size, k, none⟩ = false := hor.row.frozenAt _
      have hvl : ((half zs k).map (Value.int .u64)).length = N * 1 := hor.row.1
      obtain ⟨y0, hy0⟩ : ∃ y, w4.cell? ⟨w.heap.size, k, none⟩ = some y := ⟨_, (hor.row.cellAt _ (by omega)).trans (List.getElem?_eq_getElem (by omega))⟩
      have hs := (hor.row.stored k (.int .u64 (zs.getD k 0))).1
      rw [← List.map_set, half_set zs k (by rw [HZL.out]; exact hlt)] at hs
      obtain ⟨vv, hvv⟩ : ∃ vv, vv = zs.getD k 0 := ⟨_, rfl⟩
      rw [← hvv] at hs ⊢
      clear hvv
      have HNX : Hid (OwnU w.heap.size (w4.setCell ⟨w.heap.size, k, none⟩ (.int .u64 vv)) (some ⟨w.heap.size, 0, none⟩) N N (half zs (k + 1))) := ⟨hs, u64_half HZB.out _⟩
      have HBN : Hid (Below w.heap.size w (w4.setCell ⟨w.heap.size, k, none⟩ (.int .u64 vv))) := hB4.setCell (Nat.le_refl _) _
      clear hs hor hB4 hb4 hbr HO hvl
      go_wp2
      go_roundw
      case rel => exact ⟨k + 1, by omega, by go_num, HNX, HBN.out⟩
      case measure => simp [intOf]; omega
    · obtain rfl : k = N := by omega
      have HR0 : Hid (RowU wr (some ⟨w.heap.size, 0, none⟩) k (lev zs 0)) := by
        have := HO.out.toRow
        have e := half_all zs
        rw [HZL.out] at e
        rwa [e] at this
      have HB0 : Hid (Below w.heap.size w wr) := hbr
      clear HO HST hbl hbr
      go_wp2
      go_loopw [8, 10, 1] (fun r p l wx => ∃ (j n2 c2 cp : Nat) (ar ap : Option Addr), j ≤ H ∧ n2 ≤ 32 ∧ n2 = 2 ^ (H - j) ∧ r = .slice ar n2 c2 ∧ p = .slice ap j cp ∧ l = .int .i64 ((L / 2 ^ j : Nat) : Int) ∧ RowU wx ar n2 (lev zs j) ∧ OwnU w.heap.size wx ap j cp (pathN zs L j) ∧ (∀ g, (Value.slice ap j cp).ownBlock = some g → ∀ b' off', ar = some ⟨b', off', none⟩ → b' ≠ g) ∧ Below w.heap.size w wx) (fun r _ _ _ => lenT r)
      case atStart => exact ⟨0, k, k, 0, _, none, Nat.zero_le _, hN2, HP.out, rfl, rfl, by simp, HR0.out, ownU_none _ _, (fun g hg => by cases hg), HB0.out⟩
      case round =>
        obtain ⟨j, n2, c2, cp, ar, ap, hj, hn2, hn2e, rfl, rfl, rfl, hro, hpo, hsep, hbx⟩ := hrel
        have HN2 : Hid (n2 = 2 ^ (H - j)) := hn2e
        clear hn2e HR0 HB0
        by_cases hjl : j < H
        · obtain ⟨m2, hm2⟩ : ∃ m2, m2 = 2 ^ (H - (j + 1)) := ⟨_, rfl⟩
          have hnm : n2 = 2 * m2 := by rw [HN2.out, hm2, show H - j = H - (j + 1) + 1 by omega, Nat.pow_succ]; omega
          have hm1 : 1 ≤ m2 := by rw [hm2]; exact Nat.pow_pos (by decide)
          have hl : L / 2 ^ j < n2 := by rw [HN2.out]; exact div_pow_lt (by rw [← HP.out]; exact hL) hj
          have HLD : Hid (L / 2 ^ (j + 1) = L / 2 ^ j / 2) := by show _ = _; rw [Nat.pow_succ, Nat.div_div_eq_div_mul]
          have HM2 : Hid (m2 = 2 ^ (H - (j + 1))) := hm2
          have HPN : Hid (pathN zs L (j + 1) = pathN zs L j ++ [(lev zs j).getD (sib (L / 2 ^ j)) 0]) := rfl
          obtain ⟨x, hxx⟩ : ∃ x, x = L / 2 ^ j := ⟨_, rfl⟩
          rw [← hxx] at hl HLD HPN ⊢
          have hs := sib_lt (x := x) (m := m2) (by omega)
          have hxo := xor_sib x (by omega)
          have hsn : ((sib x : Nat) : Int) < (n2 : Int) := by omega
          obtain ⟨y, hy⟩ : ∃ y, y = sib x := ⟨_, rfl⟩
          rw [← hy] at hs hxo hsn HPN
          clear hxx hm2 hy
          obtain ⟨b, off, rfl, hlb, hcell⟩ := hro.get y (by omega)
          have hvb := hro.rng y
          obtain ⟨v, hv⟩ : ∃ v, v = (lev zs j).getD y 0 := ⟨_, rfl⟩
          rw [← hv] at hcell hvb HPN
          have HRO : Hid (RowU wr (some ⟨b, off, none⟩) n2 (lev zs j)) := hro
          have hal : Below wr.heap.size wr (wr.alloc (.cells #[.int .u64 v] 41)) := (Below.refl _ _).alloc (Nat.le_refl _) _
          have hor4 := (hpo.kept hal).row
          have hbr4 := keepT hbx hal
          have hcl := cell_oneU wr v
          have HPB : Hid (∀ k, U64 ((pathN zs L j ++ [v]).getD k 0)) := u64_snoc (pathN_bd zs HZB.out L j) hvb
          have hn2i : 1 < (n2 : Int) := by omega
          have HNM : Hid (n2 = 2 * m2) := hnm
          clear hv hro hpo hnm
          go_wp2_with (first | (at_builtin; refine wpList_append_own _ rfl (.tmp 28) (.tmp 34) 71 rfl w.heap.size 41 i0 _ 1 8 Tryz.underlying71 hi hz0 hz1 hz2 rfl (by decide) _ j _ rfl hor4 ⟨wr.heap.size, 0, none⟩ 1 1 ([v].map (Value.int .u64)) rfl rfl hcl (ints_oneCell .u64 [v]) (by unfold maxLen; omega) (by omega) (by have := hbr4.size; exact this) ?_; intro v5 w5 hv5 hg5 _))
          have hbr5 : Below w.heap.size w w5 := hbr4.grown hg5 hbr4.size (fun k hk => (hor4.lt k hk).1)
          have HR5 : Hid (RowU w5 (some ⟨b, off, none⟩) n2 (lev zs j)) := by
            have h1 := HRO.out.kept hal
            refine ⟨h1.len, fun i hi => ?_, h1.rng⟩
            obtain ⟨b1, off1, e1, hl1, hc1⟩ := h1.get i hi
            exact ⟨b1, off1, e1, Nat.lt_of_lt_of_le hl1 hg5.size, (World.cell?_of_block (a := ⟨b1, off1 + i, none⟩) (hg5.block b1 hl1 (fun e => hsep b1 e.symm b1 off1 e1 rfl))).trans hc1⟩
          rw [← List.map_append] at hv5
          obtain ⟨a5, c5, rfl, ho5⟩ := ownU_appended HPB.out hv5
          rw [← HPN.out] at ho5
          clear hal hor4 hbr4 hcl hg5 hv5 HRO hsep hcell
          refine (rowAbove_any _ n2 c2 (lev zs j) _ HR5.out (by omega)).mono ?_
          rintro e w6 ⟨ar6, rfl, ho6, hb6⟩
          have hn2h : n2 / 2 = m2 := by have := HNM.out; omega
          rw [hn2h] at ho6 ⊢
          have HO6 : Hid (_) := ho6
          have HO5 : Hid (_) := ho5.kept hb6
          have HB6 : Hid (Below w.heap.size w w6) := keepT hbr5 hb6
          have HS6 : Hid (∀ g, (Value.slice a5 (j + 1) c5).ownBlock = some g → ∀ b' off', ar6 = some ⟨b', off', none⟩ → b' ≠ g) := by
            intro g hg b' off' e
            have h1 := (ho5.row.lt g hg).2
            obtain ⟨g6, e6, hg6, _⟩ := ho6.shape (by omega)
            rw [e6] at e
            simp at e
            omega
          have HX2 : Hid (((x : Int) / 2) = ((L / 2 ^ (j + 1) : Nat) : Int)) := by show _ = _; rw [HLD.out]; omega
          clear ho5 ho6 hb6 hbr5 hn2h HR5
          go_wp2_with fail
          rw [HX2.out]
          go_roundw
          case rel => exact ⟨j + 1, m2, m2, c5, ar6, a5, by omega, by have := HNM.out; omega, HM2.out, rfl, rfl, rfl, HO6.out.toRow, HO5.out, HS6.out, HB6.out⟩
          case measure => show m2 < n2; have := HNM.out; omega
        · obtain rfl : j = H := by omega
          have h1 : n2 = 1 := by rw [HN2.out, Nat.sub_self]
          subst h1
          obtain ⟨b, off, rfl, hlb, hcell⟩ := hro.get 0 (by decide)
          obtain ⟨v, hv⟩ : ∃ v, v = (lev zs j).getD 0 0 := ⟨_, rfl⟩
          have HV : Hid (v = (lev zs j).getD 0 0) := hv
          rw [← hv, Nat.add_zero] at hcell
          have HPO : Hid (_) := hpo
          have HBX : Hid (_) := hbx
          clear hv hro hpo hbx hsep
          go_wp2
          go_ret2
          exact ⟨_, _, by rw [← HV.out]; rfl, HPO.out, HBX.out⟩

end Go.Proofs.YtgbjleapaioemaaGreat
