import Derived.Test.YtlcojjcgaibbiaaMI1
set_option linter.unusedVariables false
namespace Go.Proofs.Ytlcojjcgaibbiaa
open Go.RowKit Go.Sort

theorem itg_up {B : Nat} {w : World} {x : It} {ab : Option Addr} {nb cb : Nat} {ak : Option Addr} {nk ck : Nat} (d : Nat) (h : ItG B 1 w x ab nb cb ak nk ck) : ItG B (d + 1) w x ab nb cb ak nk ck := by
  induction d with
  | zero => exact h
  | succ d ih => exact ih.more
/-- What is known of a region (RJ). -/
def ms1 (y : ItT) (ls : List It) (d : Nat) (ab : Option Addr) (nb cb : Nat) (ak : Option Addr) (nk ck : Nat) (ao : Option Addr) (kq cc : Nat) (es0 : List It) (Q R GS B : Nat) : RSpec where
  m := 19
  n := 22
  slots := [17, 18, 19, 20, 21, 22, 23, 24, 25, 26, 27, 28, 29, 30, 31, 32, 33, 34, 3, 100019, 100020, 3]
  kills := [[], [], [], [], [], [], [], [], [], [], [], [], [], [], [], [], [], [], [], [], [17], [18]]
  pres := [[], [], [], [], [], [], [], [], [], [], [], [], [], [], [], [], [], [0], [17], [], [], []]
  fact := fun k v w => match k with
    | 0 => v = .slice ao kq cc
    | 1 => v = .pointer (some ⟨GS, 0, none⟩)
    | 2 => v = .int .u64 y.ky
    | 3 => ∃ q0 d0, v = .slice q0 8 d0 ∧ OwnT Q w q0 8 d0 (eightI y.ky)
    | 4 => ∃ q1 d1, v = .agg #[.int .i64 0, .int .i64 4, .bool false, .slice q1 8 d1, .slice none 0 0] ∧ ItG Q (d + 1) w (bytI (eightI y.ky)) q1 8 d1 none 0 0
    | 5 => v = .pointer (some ⟨GS, 1, none⟩)
    | 6 => v = .int .i64 y.at2
    | 7 => ∃ q2 d2, v = .agg #[.int .i64 0, .int .i64 2, .bool false, .slice q2 (wsz y.at2) d2, .slice none 0 0] ∧ ItG Q (d + 1) w (numI y.at2) q2 (wsz y.at2) d2 none 0 0
    | 8 => v = .pointer (some ⟨GS, 2, none⟩)
    | 9 => v = .slice ab nb cb
    | 10 => ∃ q3 d3, v = .agg #[.int .i64 0, .int .i64 4, .bool false, .slice q3 nb d3, .slice none 0 0] ∧ ItG Q (d + 1) w (bytI y.sg) q3 nb d3 none 0 0
    | 11 => v = .pointer (some ⟨GS, 3, none⟩)
    | 12 => v = .slice ak nk ck
    | 13 => ∃ ao4 co4, v = .agg #[.int .i64 0, .int .i64 17, .bool true, .slice none 0 0, .slice ao4 nk co4] ∧ ListH Q (d + 1) w ao4 nk ls
    | 14 => ∃ gr, v = .slice (some ⟨gr, 0, none⟩) 4 4 ∧ KidG Q w gr (d + 2) (sgK y ls)
    | 15 => ∃ gr, v = .agg #[.int .i64 0, .int .i64 16, .bool true, .slice none 0 0, .slice (some ⟨gr, 0, none⟩) 4 4] ∧ KidG Q w gr (d + 2) (sgK y ls)
    | 16 => ∃ g8 gr, v = .slice (some ⟨g8, 0, none⟩) 1 1 ∧ w.heap[g8]? = some (.cells #[.int .i64 0, .int .i64 16, .bool true, .slice none 0 0, .slice (some ⟨gr, 0, none⟩) 4 4] 43 (0, 0)) ∧ KidG Q w gr (d + 2) (sgK y ls) ∧ Q ≤ g8
    | 17 => ∃ gf cf, v = .slice (some ⟨gf, 0, none⟩) (kq + 1) cf ∧ OwnItR (d + 2) R w (some ⟨gf, 0, none⟩) (kq + 1) cf (es0 ++ [strI (sgK y ls)])
    | 18 => ∃ gf cf, v = .slice (some ⟨gf, 0, none⟩) (kq + 1) cf ∧ OwnItR (d + 2) R w (some ⟨gf, 0, none⟩) (kq + 1) cf (es0 ++ [strI (sgK y ls)])
    | 19 => w.heap[GS]? = some (.cells #[.int .u64 y.ky, .int .i64 y.at2, .slice ab nb cb, .slice ak nk ck] 59 (0, 0))
    | 20 => OwnItR (d + 2) R w ao kq cc es0
    | _ => v = .slice ao kq cc
set_option linter.unusedVariables false in
theorem ms1_stb (y : ItT) (ls : List It) (d : Nat) (ab : Option Addr) (nb cb : Nat) (ak : Option Addr) (nk ck : Nat) (ao : Option Addr) (kq cc : Nat) (es0 : List It) (Q R GS B : Nat) (k : Nat) (hk : k < 22) : StB ((ms1 y ls d ab nb cb ak nk ck ao kq cc es0 Q R GS (B)).fact k) := by
  match k, hk with
  | 0, _ => exact fun _ _ _ h _ => h
  | 1, _ => exact fun _ _ _ h _ => h
  | 2, _ => exact fun _ _ _ h _ => h
  | 3, _ => exact fun _ _ _ ⟨q0, d0, hv, q_0⟩ hb => ⟨q0, d0, hv, q_0.kept hb⟩
  | 4, _ => exact fun _ _ _ ⟨q1, d1, hv, q_0⟩ hb => ⟨q1, d1, hv, q_0.kept hb⟩
  | 5, _ => exact fun _ _ _ h _ => h
  | 6, _ => exact fun _ _ _ h _ => h
  | 7, _ => exact fun _ _ _ ⟨q2, d2, hv, q_0⟩ hb => ⟨q2, d2, hv, q_0.kept hb⟩
  | 8, _ => exact fun _ _ _ h _ => h
  | 9, _ => exact fun _ _ _ h _ => h
  | 10, _ => exact fun _ _ _ ⟨q3, d3, hv, q_0⟩ hb => ⟨q3, d3, hv, q_0.kept hb⟩
  | 11, _ => exact fun _ _ _ h _ => h
  | 12, _ => exact fun _ _ _ h _ => h
  | 13, _ => exact fun _ _ _ ⟨ao4, co4, hv, q_0⟩ hb => ⟨ao4, co4, hv, q_0.kept hb⟩
  | 14, _ => exact fun _ _ _ ⟨gr, hv, q_0⟩ hb => ⟨gr, hv, q_0.kept hb⟩
  | 15, _ => exact fun _ _ _ ⟨gr, hv, q_0⟩ hb => ⟨gr, hv, q_0.kept hb⟩
  | 16, _ => exact fun _ _ _ ⟨g8, gr, hv, q_0, q_1, q_2⟩ hb => ⟨g8, gr, hv, below_kept q_0 hb, q_1.kept hb, q_2⟩
  | 17, _ => exact fun _ _ _ ⟨gf, cf, hv, q_0⟩ hb => ⟨gf, cf, hv, q_0.kept hb⟩
  | 18, _ => exact fun _ _ _ ⟨gf, cf, hv, q_0⟩ hb => ⟨gf, cf, hv, q_0.kept hb⟩
  | 19, _ => exact fun _ _ _ q_0 hb => below_kept q_0 hb
  | 20, _ => exact fun _ _ _ q_0 hb => q_0.kept hb
  | 21, _ => exact fun _ _ _ h _ => h
  | k + 22, hk => omega

set_option maxRecDepth 10000 in
set_option maxHeartbeats 8000000 in
theorem l17SI_of (f : ItT → List It) (d dT : Nat) (a : Option Addr) (n c : Nat) (xs : List ItT) (w : World) (h : KidsT (dT + 1) w a n xs) (hn : n ≤ 1000) (P : ItT → Prop) (hP : ∀ k, k < n → P (xs.getD k default) ∧ (xs.getD k default).sg.length ≤ 1000)
    (con : ∀ (y : ItT) (ab : Option Addr) (nb cb : Nat) (ak : Option Addr) (nk ck : Nat), SgEl dT w y ab nb cb ak nk ck → P y → ∀ W, Below w.heap.size w W → Calls Try.prog 38 #[.slice ak nk ck] W fun e w' => ∃ ao co, e = .returned (.agg #[.int .i64 0, .int .i64 17, .bool true, .slice none 0 0, .slice ao nk co]) ∧ ListH W.heap.size (d + 1) w' ao nk (f y) ∧ Below W.heap.size W w') :
    Calls Try.prog 38 #[.slice a n c] w fun e w' => ∃ ao co, e = .returned (.agg #[.int .i64 0, .int .i64 17, .bool true, .slice none 0 0, .slice ao n co]) ∧ ListH w.heap.size (d + 3) w' ao n (xs.map (fun y => strI (sgK y (f y)))) ∧ Below w.heap.size w w' := by
  obtain ⟨i0, hi, hz0, hz1, hz2⟩ := info_parts Try.infoIt
  obtain ⟨w1, hw1⟩ : ∃ w1, w1 = box5 w := ⟨_, rfl⟩
  have hbb : Below w.heap.size w w1 := by rw [hw1]; exact box5_below w
  have hsz1 : w.heap.size < w1.heap.size := by rw [hw1, box5_size w]; omega
  have HB5 : Hid (w1.heap[w.heap.size]? = some (.cells #[.int .i64 0, .int .i64 0, .bool false, .slice none 0 0, .slice none 0 0] 43 (0, 0))) := by show _ = _; rw [hw1]; exact box5_new w
  have HK : Hid (KidsT (dT + 1) w a n xs) := h
  have HP : Hid (∀ k, k < n → P (xs.getD k default) ∧ (xs.getD k default).sg.length ≤ 1000) := hP
  have HC : Hid (_) := con
  have HLX : Hid (xs.length = n) := h.1
  have HW : Hid (_ = _) := hw1
  clear hw1 h hP con
  have hbE : Below w1.heap.size w1 (w1.alloc (.cells #[] 43)) := (Below.refl _ _).alloc (Nat.le_refl _) _
  have HO0 : Hid (OwnItR (d + 2) w1.heap.size (w1.alloc (.cells #[] 43)) (some ⟨w1.heap.size, 0, none⟩) 0 0 ((xs.take 0).map (fun y => strI (sgK y (f y))))) := ownItR_empty (d + 2) w1
  go_enter Try.func38, Try.ntmps38
  go_upto_region 1 with fail
  rw [show w.alloc (.cells #[.int .i64 0, .int .i64 0, .bool false, .slice none 0 0, .slice none 0 0] 43) = w1 from HW.out.symm]
  clear HW
  go_wp2
  go_loopw [3, 4] (fun o i wr => ∃ (kq : Nat) (ao : Option Addr) (cc : Nat), kq ≤ n ∧ i = .int .i64 kq ∧ o = .slice ao kq cc ∧ Hid (OwnItR (d + 2) w1.heap.size wr ao kq cc ((xs.take kq).map (fun y => strI (sgK y (f y))))) ∧ Below w1.heap.size w1 wr) (fun _ i _ => n - (intOf i).toNat)
  case atStart => exact ⟨0, _, 0, Nat.zero_le _, rfl, rfl, HO0, hbE⟩
  case round =>
    obtain ⟨kq, ao, cc, hk, rfl, rfl, HOR0, hbr⟩ := hrel
    have hws := hbr.size
    by_cases hkn : kq < n
    · have hkni : (kq : Int) < (n : Int) := by omega
      obtain ⟨b0, off, hA, hlb, ab, nb, cb, ak, nk, ck, e0, e1, e2, e3, hr, hnl, hmx, hky, hov⟩ := HK.out.2.2 kq hkn
      subst hA
      obtain ⟨y, hy⟩ : ∃ y, y = xs.getD kq default := ⟨_, rfl⟩
      have hpy := HP.out kq hkn
      rw [← hy] at e0 e1 hr hky hov hpy
      have HEL : Hid (SgEl dT w y ab nb cb ak nk ck) := ⟨hr, hnl.1, hmx, hky, hov⟩
      have HPY : Hid (P y) := hpy.1
      have HNB : Hid (nb ≤ 1000) := by show _ ≤ _; rw [← hr.len]; exact hpy.2
      have HNL : Hid (ab = none → cb = 0) := hnl.1
      have HKY : Hid (U64 y.ky) := hky
      obtain ⟨ls, hls⟩ : ∃ ls, ls = f y := ⟨_, rfl⟩
      have HLS : Hid (f y = ls) := hls.symm
      have HXK : Hid ((xs.take (kq + 1)).map (fun y => strI (sgK y (f y))) = (xs.take kq).map (fun y => strI (sgK y (f y))) ++ [strI (sgK y (f y))]) := by show _ = _; rw [hy]; exact sg_next f xs kq (by rw [HLX.out]; exact hkn)
      obtain ⟨es0, hes⟩ : ∃ es0, es0 = (xs.take kq).map (fun y => strI (sgK y (f y))) := ⟨_, rfl⟩
      rw [← hes] at HXK
      have hwr : Below w.heap.size w wr := keepT hbb hbr
      have c0 := (hwr.cell (p := ⟨b0, off + kq * 4, none⟩) hlb).trans e0
      have c1 := (hwr.cell (p := ⟨b0, off + kq * 4 + 1, none⟩) hlb).trans e1
      have c2 := (hwr.cell (p := ⟨b0, off + kq * 4 + 2, none⟩) hlb).trans e2
      have c3 := (hwr.cell (p := ⟨b0, off + kq * 4 + 3, none⟩) hlb).trans e3
      have hbw : b0 < wr.heap.size := by have := hwr.size; omega
      obtain ⟨wz, hwz⟩ : ∃ wz, wz = wr.alloc (.cells #[.int .u64 y.ky, .int .i64 y.at2, .slice ab nb cb, .slice ak nk ck] 59) := ⟨_, rfl⟩
      have hbz : Below wr.heap.size wr wz := by rw [hwz]; exact (Below.refl _ _).alloc (Nat.le_refl _) _
      have hsz : wz.heap.size = wr.heap.size + 1 := by rw [hwz]; simp
      have HBZ : Hid (wz.heap[wr.heap.size]? = some (.cells #[.int .u64 y.ky, .int .i64 y.at2, .slice ab nb cb, .slice ak nk ck] 59 (0, 0))) := by show _ = _; rw [hwz]; exact heap_alloc_new wr _
      have hbz1 : Below w1.heap.size w1 wz := keepT hbr hbz
      have hwz0 : Below w.heap.size w wz := keepT hbb hbz1
      have HOR : Hid (OwnItR (d + 2) w1.heap.size wz ao kq cc es0) := by show OwnItR _ _ _ _ _ _ _; rw [hes]; exact HOR0.out.kept hbz
      have HOWN : Hid (∀ b, (Value.slice ao kq cc).ownBlock = some b → b < wr.heap.size) := fun b hb => by obtain ⟨vs0, hv0⟩ := HOR0.out.row; exact (hv0.lt b hb).2
      have HOWQ : Hid (∀ b, (Value.slice ao kq cc).ownBlock = some b → b < wz.heap.size) := fun b hb => by have := HOWN.out b hb; omega
      have HSG : Hid (∀ W, Below w1.heap.size wz W → Row W ab nb y.sg) := fun W hW => HEL.out.row.kept (hwz0.trans (hW.mono hbb.size))
      have HOV : Hid (∀ W, Below w1.heap.size wz W → Calls Try.prog 38 #[.slice ak nk ck] W fun e w' => ∃ ao co, e = .returned (.agg #[.int .i64 0, .int .i64 17, .bool true, .slice none 0 0, .slice ao nk co]) ∧ ListH W.heap.size (d + 1) w' ao nk ls ∧ Below W.heap.size W w') := fun W hW => by rw [hls]; exact HC.out y ab nb cb ak nk ck HEL.out HPY.out W (hwz0.trans (hW.mono hbb.size))
      have HBB : w1.heap.size ≤ wz.heap.size := hbz1.size
      have HWZ : Hid (_ = _) := hwz
      clear hy hr hnl hmx hky hov e0 e1 e2 e3 hpy hls hes HOR0 hwz
      go_upto_region 6 with fail
      rw [← HWZ.out]
      clear HWZ c0 c1 c2 c3
      refine wp_region_ri (ms1 y ls d ab nb cb ak nk ck ao kq cc es0 wz.heap.size w1.heap.size wr.heap.size (w1.heap.size)) [3, 17, 18, 19, 20, 21, 22, 23, 24, 25, 26, 27, 28, 29, 30, 31, 32, 33, 34] (w1.heap.size) (fun a0 => a0.tmps.size = 37 ∧ aT a0 5 = .pointer (some ⟨wr.heap.size, 0, none⟩)) (by kernel_rfl) rfl (by kernel_rfl) rfl ⟨rfl, rfl⟩ (ms1_stb y ls d ab nb cb ak nk ck ao kq cc es0 wz.heap.size w1.heap.size wr.heap.size (w1.heap.size)) ?_ ?_ ?_
      · intro k hk hk2
        match k, hk, hk2 with
        | 19, _, _ => exact HBZ.out
        | 20, _, _ => exact HOR.out
        | 21, _, _ => exact rfl
        | 0, hk, _ => exact absurd hk (by show ¬ (19 ≤ 0); omega)
        | 1, hk, _ => exact absurd hk (by show ¬ (19 ≤ 1); omega)
        | 2, hk, _ => exact absurd hk (by show ¬ (19 ≤ 2); omega)
        | 3, hk, _ => exact absurd hk (by show ¬ (19 ≤ 3); omega)
        | 4, hk, _ => exact absurd hk (by show ¬ (19 ≤ 4); omega)
        | 5, hk, _ => exact absurd hk (by show ¬ (19 ≤ 5); omega)
        | 6, hk, _ => exact absurd hk (by show ¬ (19 ≤ 6); omega)
        | 7, hk, _ => exact absurd hk (by show ¬ (19 ≤ 7); omega)
        | 8, hk, _ => exact absurd hk (by show ¬ (19 ≤ 8); omega)
        | 9, hk, _ => exact absurd hk (by show ¬ (19 ≤ 9); omega)
        | 10, hk, _ => exact absurd hk (by show ¬ (19 ≤ 10); omega)
        | 11, hk, _ => exact absurd hk (by show ¬ (19 ≤ 11); omega)
        | 12, hk, _ => exact absurd hk (by show ¬ (19 ≤ 12); omega)
        | 13, hk, _ => exact absurd hk (by show ¬ (19 ≤ 13); omega)
        | 14, hk, _ => exact absurd hk (by show ¬ (19 ≤ 14); omega)
        | 15, hk, _ => exact absurd hk (by show ¬ (19 ≤ 15); omega)
        | 16, hk, _ => exact absurd hk (by show ¬ (19 ≤ 16); omega)
        | 17, hk, _ => exact absurd hk (by show ¬ (19 ≤ 17); omega)
        | 18, hk, _ => exact absurd hk (by show ¬ (19 ≤ 18); omega)
        | k + 22, _, hk2 => exact absurd hk2 (by show ¬ (k + 22 < 22); omega)
      · rintro a0 ⟨hz, g5⟩
        refine StepsRI.cons ?_ (StepsRI.cons ?_ (StepsRI.cons ?_ (StepsRI.cons ?_ (StepsRI.cons ?_ (StepsRI.cons ?_ (StepsRI.cons ?_ (StepsRI.cons ?_ (StepsRI.cons ?_ (StepsRI.cons ?_ (StepsRI.cons ?_ (StepsRI.cons ?_ (StepsRI.cons ?_ (StepsRI.cons ?_ (StepsRI.cons ?_ (StepsRI.cons ?_ (StepsRI.cons ?_ (StepsRI.cons ?_ (StepsRI.cons ?_ (StepsRI.nil)))))))))))))))))))
        · intro lQ b W hI hUN hED KQ hKQ
          have hu18 : lQ 18 = false := unT fun h => by
            have h2 := hI.cl 17 (of_decide_eq_true rfl) (hI.cl 18 (of_decide_eq_true rfl) h 17 (List.Mem.head _)) 0 (List.Mem.head _)
            rw [show lQ 0 = false from hUN] at h2
            cases h2
          have f : aT b 3 = .slice ao kq cc := hI.vot1 21 18 (of_decide_eq_true rfl) (of_decide_eq_true rfl) hu18 rfl
          exact opw_move 3 rfl (hKQ.out _ _ (hI.put 0 17 rfl rfl (by rw [hz]; decide) rfl hUN rfl HBB (ms1_stb y ls d ab nb cb ak nk ck ao kq cc es0 wz.heap.size w1.heap.size wr.heap.size (w1.heap.size)) (Below.refl _ _) f))
        · intro lQ b W hI hUN hED KQ hKQ
          exact opw_field 59 5 0 rfl _ ((hI.fr.same 5 (by decide)).trans g5) _ (by kernel_rfl) (hKQ.out _ _ (hI.put 1 18 rfl rfl (by rw [hz]; decide) rfl hUN rfl HBB (ms1_stb y ls d ab nb cb ak nk ck ao kq cc es0 wz.heap.size w1.heap.size wr.heap.size (w1.heap.size)) (Below.refl _ _) rfl))
        · intro lQ b W hI hUN hED KQ hKQ
          have f := hI.got 1 (of_decide_eq_true rfl) (edge hED 1 (by kernel_rfl)) rfl
          have hg := (hI.vot 19 (of_decide_eq_true rfl) (of_decide_eq_true rfl) rfl)
          have hc : W.cell? ⟨wr.heap.size, 0, none⟩ = some (.int .u64 y.ky) := (cell_of_row _ _ 0 _ _ (0, 0) hg).trans rfl
          exact opw_load1 57 18 rfl _ f _ (by simp [Instr.loadAt, go_sem, hc]) (hKQ.out _ _ (hI.put 2 19 rfl rfl (by rw [hz]; decide) rfl hUN rfl HBB (ms1_stb y ls d ab nb cb ak nk ck ao kq cc es0 wz.heap.size w1.heap.size wr.heap.size (w1.heap.size)) (Below.refl _ _) rfl))
        · intro lQ b W hI hUN hED KQ hKQ
          have f0 := hI.got 2 (of_decide_eq_true rfl) (edge hED 2 (by kernel_rfl)) rfl
          replace f0 : aT b 19 = .int .u64 y.ky := f0
          refine opw_call 55 #[.tmp 19] _ _ _ rfl Try.func55 (by kernel_rfl) rfl #[.int .u64 y.ky] (by simp [ev, f0]) ?_
          refine (l1Eight_any y.ky W HKY.out.1 HKY.out.2).mono ?_
          rintro e W2 ⟨q0, d0, rfl, ho, hb⟩
          exact ⟨_, rfl, hKQ.out _ _ (hI.put 3 20 rfl rfl (by rw [hz]; decide) rfl hUN rfl HBB (ms1_stb y ls d ab nb cb ak nk ck ao kq cc es0 wz.heap.size w1.heap.size wr.heap.size (w1.heap.size)) hb ⟨q0, d0, rfl, ⟨ho.mono hI.bel.size⟩⟩)⟩
        · intro lQ b W hI hUN hED KQ hKQ
          have f0 := hI.got 3 (of_decide_eq_true rfl) (edge hED 3 (by kernel_rfl)) rfl
          obtain ⟨q0, d0, f0, o0_0⟩ := f0
          replace f0 : aT b 20 = .slice q0 8 d0 := f0
          refine opw_call 35 #[.tmp 20] _ _ _ rfl Try.func35 (by kernel_rfl) rfl #[.slice q0 8 d0] (by simp [ev, f0]) ?_
          refine (l9Bytes_agg q0 8 d0 (eightI y.ky) W o0_0.own.toRow o0_0.own.nil (by decide)).mono ?_
          rintro e W2 ⟨q1, d1, rfl, ho, hb⟩
          exact ⟨_, rfl, hKQ.out _ _ (hI.put 4 21 rfl rfl (by rw [hz]; decide) rfl hUN rfl HBB (ms1_stb y ls d ab nb cb ak nk ck ao kq cc es0 wz.heap.size w1.heap.size wr.heap.size (w1.heap.size)) hb ⟨q1, d1, rfl, itg_up d (Own.itg (ho.mono (Nat.le_succ_of_le hI.bel.size)) 4 (by decide))⟩)⟩
        · intro lQ b W hI hUN hED KQ hKQ
          exact opw_field 59 5 1 rfl _ ((hI.fr.same 5 (by decide)).trans g5) _ (by kernel_rfl) (hKQ.out _ _ (hI.put 5 22 rfl rfl (by rw [hz]; decide) rfl hUN rfl HBB (ms1_stb y ls d ab nb cb ak nk ck ao kq cc es0 wz.heap.size w1.heap.size wr.heap.size (w1.heap.size)) (Below.refl _ _) rfl))
        · intro lQ b W hI hUN hED KQ hKQ
          have f := hI.got 5 (of_decide_eq_true rfl) (edge hED 5 (by kernel_rfl)) rfl
          have hg := (hI.vot 19 (of_decide_eq_true rfl) (of_decide_eq_true rfl) rfl)
          have hc : W.cell? ⟨wr.heap.size, 1, none⟩ = some (.int .i64 y.at2) := (cell_of_row _ _ 1 _ _ (0, 0) hg).trans rfl
          exact opw_load1 2 22 rfl _ f _ (by simp [Instr.loadAt, go_sem, hc]) (hKQ.out _ _ (hI.put 6 23 rfl rfl (by rw [hz]; decide) rfl hUN rfl HBB (ms1_stb y ls d ab nb cb ak nk ck ao kq cc es0 wz.heap.size w1.heap.size wr.heap.size (w1.heap.size)) (Below.refl _ _) rfl))
        · intro lQ b W hI hUN hED KQ hKQ
          have f0 := hI.got 6 (of_decide_eq_true rfl) (edge hED 6 (by kernel_rfl)) rfl
          replace f0 : aT b 23 = .int .i64 y.at2 := f0
          refine opw_call 56 #[.tmp 23] _ _ _ rfl Try.func56 (by kernel_rfl) rfl #[.int .i64 y.at2] (by simp [ev, f0]) ?_
          refine (l9Num_agg y.at2 W).mono ?_
          rintro e W2 ⟨q2, d2, rfl, ho, hb⟩
          exact ⟨_, rfl, hKQ.out _ _ (hI.put 7 24 rfl rfl (by rw [hz]; decide) rfl hUN rfl HBB (ms1_stb y ls d ab nb cb ak nk ck ao kq cc es0 wz.heap.size w1.heap.size wr.heap.size (w1.heap.size)) hb ⟨q2, d2, rfl, itg_up d (Own.itg (ho.mono (Nat.le_succ_of_le hI.bel.size)) 2 (by have := wsz_bd y.at2; omega))⟩)⟩
        · intro lQ b W hI hUN hED KQ hKQ
          exact opw_field 59 5 2 rfl _ ((hI.fr.same 5 (by decide)).trans g5) _ (by kernel_rfl) (hKQ.out _ _ (hI.put 8 25 rfl rfl (by rw [hz]; decide) rfl hUN rfl HBB (ms1_stb y ls d ab nb cb ak nk ck ao kq cc es0 wz.heap.size w1.heap.size wr.heap.size (w1.heap.size)) (Below.refl _ _) rfl))
        · intro lQ b W hI hUN hED KQ hKQ
          have f := hI.got 8 (of_decide_eq_true rfl) (edge hED 8 (by kernel_rfl)) rfl
          have hg := (hI.vot 19 (of_decide_eq_true rfl) (of_decide_eq_true rfl) rfl)
          have hc : W.cell? ⟨wr.heap.size, 2, none⟩ = some (.slice ab nb cb) := (cell_of_row _ _ 2 _ _ (0, 0) hg).trans rfl
          exact opw_load1 22 25 rfl _ f _ (by simp [Instr.loadAt, go_sem, hc]) (hKQ.out _ _ (hI.put 9 26 rfl rfl (by rw [hz]; decide) rfl hUN rfl HBB (ms1_stb y ls d ab nb cb ak nk ck ao kq cc es0 wz.heap.size w1.heap.size wr.heap.size (w1.heap.size)) (Below.refl _ _) rfl))
        · intro lQ b W hI hUN hED KQ hKQ
          have f0 : aT b 26 = .slice ab nb cb := hI.got 9 (of_decide_eq_true rfl) (edge hED 9 (by kernel_rfl)) rfl
          refine opw_call 35 #[.tmp 26] _ _ _ rfl Try.func35 (by kernel_rfl) rfl #[.slice ab nb cb] (by simp [ev, f0]) ?_
          refine (l9Bytes_agg ab nb cb y.sg W (HSG.out W hI.bel) HNL.out HNB.out).mono ?_
          rintro r W2 ⟨q3, d3, rfl, ho, hb⟩
          exact ⟨_, rfl, hKQ.out _ _ (hI.put 10 27 rfl rfl (by rw [hz]; decide) rfl hUN rfl HBB (ms1_stb y ls d ab nb cb ak nk ck ao kq cc es0 wz.heap.size w1.heap.size wr.heap.size (w1.heap.size)) hb ⟨q3, d3, rfl, itg_up d (Own.itg (ho.mono (Nat.le_succ_of_le hI.bel.size)) 4 HNB.out)⟩)⟩
        · intro lQ b W hI hUN hED KQ hKQ
          exact opw_field 59 5 3 rfl _ ((hI.fr.same 5 (by decide)).trans g5) _ (by kernel_rfl) (hKQ.out _ _ (hI.put 11 28 rfl rfl (by rw [hz]; decide) rfl hUN rfl HBB (ms1_stb y ls d ab nb cb ak nk ck ao kq cc es0 wz.heap.size w1.heap.size wr.heap.size (w1.heap.size)) (Below.refl _ _) rfl))
        · intro lQ b W hI hUN hED KQ hKQ
          have f := hI.got 11 (of_decide_eq_true rfl) (edge hED 11 (by kernel_rfl)) rfl
          have hg := (hI.vot 19 (of_decide_eq_true rfl) (of_decide_eq_true rfl) rfl)
          have hc : W.cell? ⟨wr.heap.size, 3, none⟩ = some (.slice ak nk ck) := (cell_of_row _ _ 3 _ _ (0, 0) hg).trans rfl
          exact opw_load1 29 28 rfl _ f _ (by simp [Instr.loadAt, go_sem, hc]) (hKQ.out _ _ (hI.put 12 29 rfl rfl (by rw [hz]; decide) rfl hUN rfl HBB (ms1_stb y ls d ab nb cb ak nk ck ao kq cc es0 wz.heap.size w1.heap.size wr.heap.size (w1.heap.size)) (Below.refl _ _) rfl))
        · intro lQ b W hI hUN hED KQ hKQ
          have f0 : aT b 29 = .slice ak nk ck := hI.got 12 (of_decide_eq_true rfl) (edge hED 12 (by kernel_rfl)) rfl
          refine opw_call 38 #[.tmp 29] _ _ _ rfl Try.func38 (by kernel_rfl) rfl #[.slice ak nk ck] (by simp [ev, f0]) ?_
          refine (HOV.out W hI.bel).mono ?_
          rintro r W2 ⟨ao4, co4, rfl, hk, hb⟩
          exact ⟨_, rfl, hKQ.out _ _ (hI.put 13 30 rfl rfl (by rw [hz]; decide) rfl hUN rfl HBB (ms1_stb y ls d ab nb cb ak nk ck ao kq cc es0 wz.heap.size w1.heap.size wr.heap.size (w1.heap.size)) hb ⟨ao4, co4, rfl, hk.mono hI.bel.size⟩)⟩
        · intro lQ b W hI hUN hED KQ hKQ
          obtain ⟨q1, d1, f0, o0⟩ := hI.got 4 (of_decide_eq_true rfl) (edge hED 4 (by kernel_rfl)) rfl
          obtain ⟨q2, d2, f1, o1⟩ := hI.got 7 (of_decide_eq_true rfl) (edge hED 7 (by kernel_rfl)) rfl
          obtain ⟨q3, d3, f2, o2⟩ := hI.got 10 (of_decide_eq_true rfl) (edge hED 10 (by kernel_rfl)) rfl
          obtain ⟨ao4, co4, f3, o3⟩ := hI.got 13 (of_decide_eq_true rfl) (edge hED 13 (by kernel_rfl)) rfl
          replace f0 : aT b 21 = .agg #[.int .i64 0, .int .i64 4, .bool false, .slice q1 8 d1, .slice none 0 0] := f0
          replace f1 : aT b 24 = .agg #[.int .i64 0, .int .i64 2, .bool false, .slice q2 (wsz y.at2) d2, .slice none 0 0] := f1
          replace f2 : aT b 27 = .agg #[.int .i64 0, .int .i64 4, .bool false, .slice q3 nb d3, .slice none 0 0] := f2
          replace f3 : aT b 30 = .agg #[.int .i64 0, .int .i64 17, .bool true, .slice none 0 0, .slice ao4 nk co4] := f3
          refine opw_buildSliceT _ 4 _ rfl #[(0, .agg #[.int .i64 0, .int .i64 4, .bool false, .slice q1 8 d1, .slice none 0 0]), (1, .agg #[.int .i64 0, .int .i64 2, .bool false, .slice q2 (wsz y.at2) d2, .slice none 0 0]), (2, .agg #[.int .i64 0, .int .i64 4, .bool false, .slice q3 nb d3, .slice none 0 0]), (3, .agg #[.int .i64 0, .int .i64 17, .bool true, .slice none 0 0, .slice ao4 nk co4])] (by simp [ev, f0, f1, f2, f3]) (.slice (some ⟨W.heap.size, 0, none⟩) 4 4) (W.alloc (.cells #[.int .i64 0, .int .i64 4, .bool false, .slice q1 8 d1, .slice none 0 0, .int .i64 0, .int .i64 2, .bool false, .slice q2 (wsz y.at2) d2, .slice none 0 0, .int .i64 0, .int .i64 4, .bool false, .slice q3 nb d3, .slice none 0 0, .int .i64 0, .int .i64 17, .bool true, .slice none 0 0, .slice ao4 nk co4] 43)) (by kernel_rfl) ?_
          exact hKQ.out _ _ (hI.put 14 31 rfl rfl (by rw [hz]; decide) rfl hUN rfl HBB (ms1_stb y ls d ab nb cb ak nk ck ao kq cc es0 wz.heap.size w1.heap.size wr.heap.size (w1.heap.size)) ((Below.refl _ _).alloc (Nat.le_refl _) _) ⟨W.heap.size, rfl, kidG_n4 hI.bel.size o0 o1 o2 o3.itg⟩)
        · intro lQ b W hI hUN hED KQ hKQ
          have f0 := hI.got 14 (of_decide_eq_true rfl) (edge hED 14 (by kernel_rfl)) rfl
          obtain ⟨gr, f0, o0_0⟩ := f0
          replace f0 : aT b 31 = .slice (some ⟨gr, 0, none⟩) 4 4 := f0
          refine opw_call 54 #[.tmp 31] _ _ _ rfl Try.func54 (by kernel_rfl) rfl #[.slice (some ⟨gr, 0, none⟩) 4 4] (by simp [ev, f0]) ?_
          refine (l9Struct_agg (some ⟨gr, 0, none⟩) 4 4 W).mono ?_
          rintro e W2 ⟨rfl, hb⟩
          exact ⟨_, rfl, hKQ.out _ _ (hI.put 15 32 rfl rfl (by rw [hz]; decide) rfl hUN rfl HBB (ms1_stb y ls d ab nb cb ak nk ck ao kq cc es0 wz.heap.size w1.heap.size wr.heap.size (w1.heap.size)) hb ⟨gr, rfl, o0_0.kept hb⟩)⟩
        · intro lQ b W hI hUN hED KQ hKQ
          obtain ⟨gr, f0, o0⟩ := hI.got 15 (of_decide_eq_true rfl) (edge hED 15 (by kernel_rfl)) rfl
          replace f0 : aT b 32 = .agg #[.int .i64 0, .int .i64 16, .bool true, .slice none 0 0, .slice (some ⟨gr, 0, none⟩) 4 4] := f0
          refine opw_buildSliceT _ 1 _ rfl #[(0, .agg #[.int .i64 0, .int .i64 16, .bool true, .slice none 0 0, .slice (some ⟨gr, 0, none⟩) 4 4])] (by simp [ev, f0]) (.slice (some ⟨W.heap.size, 0, none⟩) 1 1) (W.alloc (.cells #[.int .i64 0, .int .i64 16, .bool true, .slice none 0 0, .slice (some ⟨gr, 0, none⟩) 4 4] 43)) (by kernel_rfl) ?_
          have hbA : Below W.heap.size W (W.alloc (.cells #[.int .i64 0, .int .i64 16, .bool true, .slice none 0 0, .slice (some ⟨gr, 0, none⟩) 4 4] 43)) := (Below.refl _ _).alloc (Nat.le_refl _) _
          exact hKQ.out _ _ (hI.put 16 33 rfl rfl (by rw [hz]; decide) rfl hUN rfl HBB (ms1_stb y ls d ab nb cb ak nk ck ao kq cc es0 wz.heap.size w1.heap.size wr.heap.size (w1.heap.size)) hbA ⟨W.heap.size, gr, rfl, heap_alloc_new W _, o0.kept hbA, hI.bel.size⟩)
        · intro lQ b W hI hUN hED KQ hKQ
          obtain ⟨g8, gr, f1, hg8, o1, _⟩ := hI.got 16 (of_decide_eq_true rfl) (edge hED 16 (by kernel_rfl)) rfl
          have f0 : aT b 17 = .slice ao kq cc := hI.got 0 (of_decide_eq_true rfl) (edge hED 0 (by kernel_rfl)) rfl
          have hits : OwnItR (d + 2) w1.heap.size W ao kq cc es0 := hI.vot1 20 17 (of_decide_eq_true rfl) (of_decide_eq_true rfl) hUN rfl
          replace f1 : aT b 33 = .slice (some ⟨g8, 0, none⟩) 1 1 := f1
          obtain ⟨vs, hrow⟩ := hits.row
          have hWs := hI.bel.size
          refine wp_append_lies W (.tmp 17) (.tmp 33) 41 rfl 0 43 i0 _ 5 72 Try.underlying41 hi hz0 hz1 hz2 rfl (by decide) (.slice ao kq cc) kq vs f0 hrow ⟨g8, 0, none⟩ 1 1 [.int .i64 0, .int .i64 16, .bool true, .slice none 0 0, .slice (some ⟨gr, 0, none⟩) 4 4] f1 rfl (World.news_of_block hg8) (by intro u hu; simp only [List.mem_cons, List.not_mem_nil, or_false] at hu; rcases hu with rfl | rfl | rfl | rfl | rfl <;> rfl) (by decide) (by unfold maxLen; omega) (by omega) (Nat.zero_le _) _ rfl ?_
          intro gf cf w' hv hg hl hlt
          obtain ⟨S, k1, k2⟩ := o1
          have hnew : OwnItR (d + 2) w1.heap.size w' (some ⟨gf, 0, none⟩) (kq + 1) cf (es0 ++ [strI (sgK y ls)]) := hits.appended (T := S) (ab := none) (nb := 0) (cb := 0) (ak := some ⟨gr, 0, none⟩) (nk := 4) (ck := 4) ⟨⟨⟨rfl, fun j hj => absurd hj (Nat.not_lt_zero _), by simp [strI, It.body]⟩, fun x hx => by cases hx⟩, fun _ => rfl, by decide, k1⟩ (fun b hb => ⟨by have := (k2 b hb).1; omega, (k2 b hb).2, fun e => by have := HOWQ.out b e; have := (k2 b hb).1; omega⟩) (by omega) hrow hv hg hl (by omega)
          have hb' : Below w1.heap.size wz w' := hI.bel.grown hg (by omega) (fun kx hx => hits.2 kx hx)
          have hno : lQ 18 = true → False := fun h => by
            have h2 := hI.cl 18 (of_decide_eq_true rfl) h 17 (List.Mem.head _)
            rw [show lQ 17 = false from hUN] at h2
            cases h2
          refine hKQ.out _ _ (hI.turn 17 34 (fun j hj => by rcases List.mem_singleton.1 hj with rfl; exact edge hED 0 (by kernel_rfl)) rfl (by rw [hz]; decide) rfl hUN rfl hb' ?_ ⟨gf, cf, rfl, hnew⟩)
          intro kx hkx hne hlk hkill u hu
          match kx, hkx, hne, hkill, hu with
            | 0, _, _, _, hu => exact hu
            | 1, _, _, _, hu => exact hu
            | 2, _, _, _, hu => exact hu
            | 3, _, _, _, ⟨q0, d0, hv, q_0⟩ => exact ⟨q0, d0, hv, ⟨own_grownT q_0.own hg HOWQ.out⟩⟩
            | 4, _, _, _, ⟨q1, d1, hv, q_0⟩ => exact ⟨q1, d1, hv, q_0.grown hg HOWQ.out⟩
            | 5, _, _, _, hu => exact hu
            | 6, _, _, _, hu => exact hu
            | 7, _, _, _, ⟨q2, d2, hv, q_0⟩ => exact ⟨q2, d2, hv, q_0.grown hg HOWQ.out⟩
            | 8, _, _, _, hu => exact hu
            | 9, _, _, _, hu => exact hu
            | 10, _, _, _, ⟨q3, d3, hv, q_0⟩ => exact ⟨q3, d3, hv, q_0.grown hg HOWQ.out⟩
            | 11, _, _, _, hu => exact hu
            | 12, _, _, _, hu => exact hu
            | 13, _, _, _, ⟨ao4, co4, hv, q_0⟩ => exact ⟨ao4, co4, hv, q_0.grown hg HOWQ.out⟩
            | 14, _, _, _, ⟨gr, hv, q_0⟩ => exact ⟨gr, hv, q_0.grown hg HOWQ.out⟩
            | 15, _, _, _, ⟨gr, hv, q_0⟩ => exact ⟨gr, hv, q_0.grown hg HOWQ.out⟩
            | 16, _, _, _, ⟨g8, gr, hv, q_0, q_1, q_2⟩ => exact ⟨g8, gr, hv, (hg.block _ (Array.getElem?_eq_some_iff.1 q_0).1 (fun e => by have := HOWQ.out _ e.symm; omega)).trans q_0, q_1.grown hg HOWQ.out, q_2⟩
            | 17, _, hne, _, _ => exact absurd rfl hne
            | 18, _, _, hkill, hu => exact (hno hlk).elim
            | 19, _, _, _, hu => exact (hg.block _ (Array.getElem?_eq_some_iff.1 hu).1 (fun e => by have := HOWN.out _ e.symm; omega)).trans hu
            | 20, _, _, hkill, _ => exact absurd (hkill 17 (List.Mem.head _)) (by rw [upd_same]; decide)
            | 21, _, _, _, hu => exact hu
            | kx + 22, hkx, _, _, _ => exact absurd hkx (by show ¬ (kx + 22 < 22); omega)
        · intro lQ b W hI hUN hED KQ hKQ
          have f := hI.got 17 (of_decide_eq_true rfl) (edge hED 17 (by kernel_rfl)) rfl
          obtain ⟨gf, cf, f0, o0⟩ := f
          replace f0 : aT b 34 = .slice (some ⟨gf, 0, none⟩) (kq + 1) cf := f0
          refine opw_assign 34 rfl ?_
          rw [f0]
          exact hKQ.out _ _ (hI.putp 18 3 (fun j hj => by rcases List.mem_singleton.1 hj with rfl; exact edge hED 17 (by kernel_rfl)) rfl (by rw [hz]; decide) rfl hUN rfl HBB (ms1_stb y ls d ab nb cb ak nk ck ao kq cc es0 wz.heap.size w1.heap.size wr.heap.size (w1.heap.size)) (Below.refl _ _) ⟨gf, cf, rfl, o0⟩)
      · intro b W hf hb F
        obtain ⟨gf, cf, e3, hits⟩ := F 18 (of_decide_eq_true rfl) rfl
        replace e3 : aT b 3 = _ := e3
        rw [hf.eq]
        simp only [puts, Act.put, List.setIfInBounds_toArray, List.set_cons_zero, List.set_cons_succ, e3]
        clear hf F e3
        generalize aT b = AT
        clear b
        have HO7 : Hid (OwnItR (d + 2) w1.heap.size W (some ⟨gf, 0, none⟩) (kq + 1) cf ((xs.take (kq + 1)).map (fun y => strI (sgK y (f y))))) := by show OwnItR _ _ _ _ _ _ _; rw [HXK.out, HLS.out]; exact hits
        have B7 : Below w1.heap.size w1 W := hbz1.trans hb
        clear hits
        go_wp2
        go_roundw
        case rel => exact ⟨kq + 1, _, cf, by omega, by go_num, rfl, HO7, B7⟩
        case measure => simp [intOf]; omega
    · obtain rfl : n = kq := by omega
      have HLG : Hid (ListH w1.heap.size (d + 3) wr ao n (xs.map (fun y => strI (sgK y (f y))))) := ⟨by
        have := HOR0.out
        rw [List.take_of_length_le (by rw [HLX.out]; exact Nat.le_refl _)] at this
        exact this.kids⟩
      have hkk : ¬ ((n : Int) < (n : Int)) := by omega
      clear HOR0 HLX HC HP HK
      go_wp2_with fail
      refine (l9List_agg ao n cc _).mono ?_
      rintro e w2 ⟨rfl, hb2⟩
      have c2 : Below w1.heap.size w1 w2 := keepT hbr hb2
      have h5 := below_kept HB5.out c2
      obtain ⟨_, q0, q1, q2, q3, q4, q5, q6, q7, q8, q9⟩ := Box5.of h5
      have H5 : Hid (_ = _) := h5
      have B2 : Below w.heap.size w w2 := keepT hbb c2
      have HL2 := HLG.out.kept hb2
      have HL3 : Hid (_) := HL2
      clear h5 hb2 HL2
      go_wp2_with fail
      try simp only [Exit.inBlock, Exit.then]
      have T := put5_touch w2 w.heap.size (.int .i64 0) (.int .i64 17) (.bool true) (.slice none 0 0) (.slice ao n cc)
      exact bodyPost_ret (results_it rfl _ w.heap.size rfl _ _ _ _ _ _ (put5_heap H5.out _ _ _ _ _)) rfl ⟨ao, cc, rfl, (HL3.out.touched T (by omega)).mono (by omega), B2.trans (T.below (Nat.le_refl _) B2.size)⟩

theorem l17SI_0 (dT : Nat) (a : Option Addr) (n c : Nat) (w : World) (h : KidsT dT w a n []) :
    Calls Try.prog 38 #[.slice a n c] w fun e w' => ∃ ao co, e = .returned (.agg #[.int .i64 0, .int .i64 17, .bool true, .slice none 0 0, .slice ao n co]) ∧ ListH w.heap.size 3 w' ao n [] ∧ Below w.heap.size w w' := by
  cases dT with
  | zero => exact h.elim
  | succ dT =>
    have hn : n = 0 := h.1.symm
    subst hn
    exact l17SI_of (fun _ => []) 0 dT a 0 c [] w h (by decide) (fun _ => False) (fun k hk => absurd hk (Nat.not_lt_zero _)) (fun _ _ _ _ _ _ _ _ hF => hF.elim)
theorem l17SI_1 (dT : Nat) (a : Option Addr) (n c : Nat) (xs : List ItT) (w : World) (h : KidsT dT w a n xs) (hn : n ≤ 1000) (ho : ∀ k, k < n → (xs.getD k default).over = [] ∧ (xs.getD k default).sg.length ≤ 1000) :
    Calls Try.prog 38 #[.slice a n c] w fun e w' => ∃ ao co, e = .returned (.agg #[.int .i64 0, .int .i64 17, .bool true, .slice none 0 0, .slice ao n co]) ∧ ListH w.heap.size 5 w' ao n (xs.map sgI0) ∧ Below w.heap.size w w' := by
  cases dT with
  | zero => exact h.elim
  | succ dT =>
    exact l17SI_of (fun _ => []) 2 dT a n c xs w h hn (fun z => z.over = []) ho (fun z ab nb cb ak nk ck hz hp W hW => l17SI_0 dT ak nk ck W (by have := hz.over.kept hW; rw [hp] at this; exact this))
theorem l17SI_any (dT : Nat) (a : Option Addr) (n c : Nat) (xs : List ItT) (w : World) (h : KidsT dT w a n xs) (hok : okS 2 xs) :
    Calls Try.prog 38 #[.slice a n c] w fun e w' => ∃ ao co, e = .returned (.agg #[.int .i64 0, .int .i64 17, .bool true, .slice none 0 0, .slice ao n co]) ∧ ListH w.heap.size 7 w' ao n (xs.map sgI1) ∧ Below w.heap.size w w' := by
  cases dT with
  | zero => exact h.elim
  | succ dT =>
    have hl := h.1
    obtain ⟨h6, hp⟩ := okS_parts hok
    exact l17SI_of (fun y => y.over.map sgI0) 4 dT a n c xs w h (by omega) (fun y => y.over.length ≤ 6 ∧ ∀ k, k < y.over.length → (y.over.getD k default).over = [] ∧ (y.over.getD k default).sg.length ≤ 1000) (fun k hk => ⟨⟨(hp k (by omega)).2.2.1, fun j hj => ⟨((hp k (by omega)).2.2.2 j hj).2.2, by have := ((hp k (by omega)).2.2.2 j hj).2.1; omega⟩⟩, by have := (hp k (by omega)).2.1; omega⟩) (fun z ab nb cb ak nk ck hz hq W hW => l17SI_1 dT ak nk ck z.over W (hz.over.kept hW) (by have := (KidsT.len hz.over).1; have := hq.1; omega) (fun k hk => hq.2 k (by have := (KidsT.len hz.over).1; omega)))

end Go.Proofs.Ytlcojjcgaibbiaa
