import Derived.Test.YtjechndhgkkpeaaTG2
namespace Go.Proofs.Ytjechndhgkkpeaa
open Go.RowKit

theorem ownCapT {B : Nat} {w : World} {a : Option Addr} {n cap : Nat} {bs : List Int} (h : Own B w a n cap bs) : n ≤ cap := by
  rcases h.row.2 with ⟨hv, h0⟩ | ⟨g, cap', cur, hv, hb, hg, hle, _⟩
  · omega
  · simp only [Value.slice.injEq] at hv; omega
theorem ownI_cap {B : Nat} {w : World} {a : Option Addr} {n cap : Nat} {zs : List Int} (h : OwnI B w a n cap zs) : n ≤ cap ∧ cap ≤ 9223372036854775807 := by
  rcases h.row.2 with ⟨hv, h0⟩ | ⟨g, cap', cur, hv, hb, hg, hle, hm, _⟩
  · simp only [Value.slice.injEq] at hv; omega
  · simp only [Value.slice.injEq] at hv; unfold maxLen at hm; omega
theorem step_append_ownS {P : Program} {ops : Array Oper} {o : Oper} {a : Act} {w : World} {K : Act → World → Prop} {Q : Exit → Act → World → Prop} {E : Prop}
    (hg : o.guard = none) (s x : Operand) (t : TypeId) (hop : o.op = Op.call { callee := Callee.builtin Builtin.append, args := #[s, x], argTypes := #[t, t] })
    (base : Nat) (e : TypeId) (i : TypeInfo) (z : Value) (size bytes : Nat) (h1 : P.underlying t = some (.slice e)) (h2 : P.info? e = some i) (h3 : i.zero = some z) (h4 : i.size = size) (h5 : i.bytes = bytes) (h6 : z.cells.size = size) (h7 : 0 < size)
    (v : Value) (n : Nat) (xs : List Value) (hs : a.eval s = v) (hown : w.ownsRow base e size v n xs)
    (ad : Addr) (m c : Nat) (news : List Value) (hx : a.eval x = .slice (some ad) m c) (hn : news.length = m * size) (hc : ∀ j u, news[j]? = some u → w.cell? (ad.add j) = some u) (h1c : ∀ u ∈ news, u.oneCell' = true)
    (b1 : n + m ≤ maxLen) (b2 : (n + m) * bytes ≤ 140737488355328) (b3 : base ≤ w.heap.size)
    (hK : ∀ v' w', w'.ownsRow base e size v' (n + m) (xs ++ news) → w.grownBy w' v.ownBlock → K (a.put o.dst v') w') :
    if Region.wanted o (yielded ops a.tmps) = true then Oper.wp P o a w K Q else E := by
  have hw : Region.wanted o (yielded ops a.tmps) = true := by simp [Region.wanted, hg]
  rw [if_pos hw]
  obtain ⟨v', w', hrun, r1, r2, _⟩ := run_append_own (P := P) w base t o.type e i z size bytes h1 h2 h3 h4 h5 h6 h7 v n xs hown ad m c news hn hc h1c b1 b2 b3
  unfold Oper.wp
  simp [execOp, hop, resolve, invoke, builtin, hs, hx, hrun, Result.andThen]
  exact hK v' w' r1 r2
theorem ownI_shape {B : Nat} {w : World} {a : Option Addr} {n cap : Nat} {zs : List Int} (h : OwnI B w a n cap zs) (hn : 0 < n) : ∃ g, a = some ⟨g, 0, none⟩ := by
  rcases h.row.2 with ⟨hv, h0⟩ | ⟨g, cap', cur, hv, _⟩
  · omega
  · simp only [Value.slice.injEq] at hv; exact ⟨g, hv.1⟩
theorem row64_cells {w : World} {ad : Addr} {m : Nat} {ys : List Int} (h : Row64 w (some ad) m ys) : ∀ j u, (ys.map (Value.int .i64))[j]? = some u → w.cell? (ad.add j) = some u := by
  intro j u hj
  have hjl : j < ys.length := by
    have := (List.getElem?_eq_some_iff.1 hj).1
    simpa using this
  obtain ⟨b, off, ha, _, hc⟩ := h.get j (by rw [← h.len]; exact hjl)
  simp only [Option.some.injEq] at ha
  subst ha
  rw [Addr.add_lit, hc]
  simp [hjl] at hj
  simp [hjl, hj]
theorem row64_low {B : Nat} {w w' : World} {a : Option Addr} {n : Nat} {zs : List Int} (h : Row64 w a n zs) (hu : ∀ b off, a = some ⟨b, off, none⟩ → 0 < n → b < B) (hb : Below B w w') : Row64 w' a n zs := by
  refine ⟨h.len, fun k hk => ?_⟩
  obtain ⟨b, off, ha, hlt, h1⟩ := h.get k hk
  exact ⟨b, off, ha, Nat.lt_of_lt_of_le hlt hb.size, (hb.cell (p := ⟨b, off + k, none⟩) (hu b off ha (by omega))).trans h1⟩
theorem row_low {B : Nat} {w w' : World} {a : Option Addr} {n : Nat} {bs : List Int} (h : Row w a n bs) (hu : ∀ b off, a = some ⟨b, off, none⟩ → 0 < n → b < B) (hb : Below B w w') : Row w' a n bs := by
  refine ⟨h.len, fun k hk => ?_, h.byte⟩
  obtain ⟨b, off, ha, hlt, h1⟩ := h.get k hk
  exact ⟨b, off, ha, Nat.lt_of_lt_of_le hlt hb.size, (hb.cell (p := ⟨b, off + k, none⟩) (hu b off ha (by omega))).trans h1⟩

set_option maxRecDepth 10000 in
set_option maxHeartbeats 32000000 in
theorem lawTogether_walk (a : Option Addr) (n c : Nat) (bs : List Int) (a' : Option Addr) (n' c' : Nat) (bs' : List Int) (w : World) (hr : Row w a n bs) (hmax : n ≤ 9223372036854775807) (hr' : Row w a' n' bs') (hmax' : n' ≤ 9223372036854775807) (hnil : a' = none → c' = 0) :
    Calls Try.prog 4 #[.slice a n c, .slice a' n' c'] w fun e w' => e = .returned (.bool true) ∧ Below w.heap.size w w' := by
  obtain ⟨i0, hi, hz0, hz1, hz2⟩ := info_parts Try.info2D
  have H0 : Hid (Row w a n bs) := hr
  have H1 : Hid (∀ W, Below w.heap.size w W → Row W a' n' bs') := fun W hW => hr'.kept hW
  clear hr hr'
  go_enter Try.func4, Try.ntmps4
  go_wp2_with fail
  refine (big_any5 a n c _ hmax).mono ?_
  rintro e w1 ⟨rfl, hw1⟩
  have hw2 := hw1.symm
  subst hw2
  clear hw1
  by_cases hbig : 1048576 < n
  · rw [decide_eq_true hbig]
    go_wp2
    go_ret
    exact ⟨rfl, Below.refl _ _⟩
  rw [decide_eq_false hbig]
  have hn : n ≤ 1048576 := by omega
  clear hmax hbig
  go_wp2_with fail
  refine (big_any5 a' n' c' _ hmax').mono ?_
  rintro e w1 ⟨rfl, hw1⟩
  have hw2 := hw1.symm
  subst hw2
  clear hw1
  by_cases hbig : 1048576 < n'
  · rw [decide_eq_true hbig]
    go_wp2
    go_ret
    exact ⟨rfl, Below.refl _ _⟩
  rw [decide_eq_false hbig]
  have hn' : n' ≤ 1048576 := by omega
  clear hmax' hbig
  go_wp2_with fail
  refine (drawDeal_any a n c bs _ H0.out (by omega)).mono ?_
  rintro e w1 ⟨s, k, am, nm, cm, ms, rfl, hsb, hkb, hnm, hom, hb1⟩
  have HOM : Hid (∀ W, Below w1.heap.size w1 W → Row64 W am nm ms) := fun W hW => (hom.kept hW).toRow
  have hml := hom.len
  clear hom H0
  go_wp2_with fail
  refine (implDeal_any s am nm cm ms k _ (HOM.out _ (Below.refl _ _)) (by omega)).mono ?_
  rintro e w2 ⟨al, N, cl, rfl, hol, hN20, hb2⟩
  have HOL2 : Hid (OwnSh w1.heap.size w2 al N cl (dealR s ms k)) := hol
  clear hol
  go_wp2_with fail
  refine (specDeal_any s am nm cm ms k _ (HOM.out _ hb2) (by omega)).mono ?_
  rintro e w3 ⟨aS, nS, cS, rfl, _, _, hb3⟩
  have HOL3 : Hid (OwnSh w1.heap.size w3 al N cl (dealR s ms k)) := HOL2.out.kept hb3
  have h13 := keepD hb2 hb3
  have hB3 := keepD hb1 h13
  clear HOL2 HOM
  by_cases hd : dealP s ms k
  · rw [decide_eq_true hd]
    have hNk : (N : Int) = k := by
      have h1 := HOL3.out.len
      unfold dealR at h1
      rw [if_pos hd, dealL_len] at h1
      have := hd.2.2.2
      omega
    have HDL : Hid (dealR s ms k = dealL s ms N) := by
      show _ = _
      unfold dealR
      rw [if_pos hd, show k.toNat = N by omega]
    have hs : expP s := hd.1
    have hN1 : 1 ≤ N := by have := hd.2.2.2; omega
    clear hd hNk hkb hsb
    have HML : Hid (ms.length = nm) := hml
    clear hml
    rw [HDL.out] at HOL3
    by_cases hfew : N ≤ nm
    · have d1 : (N : Int) ≤ (nm : Int) := by omega
      go_wp2_with fail
      refine (lives_any _).mono ?_
      rintro e w4 ⟨rfl, hb4⟩
      go_wp2
      go_ret
      exact ⟨rfl, keepD hB3 hb4⟩
    by_cases hs0 : s = 0
    · have d1 : ¬ ((N : Int) ≤ (nm : Int)) := by omega
      have d2 : (s == 0) = true := beq_iff_eq.2 hs0
      clear hs0
      go_wp2_with fail
      refine (lives_any _).mono ?_
      rintro e w4 ⟨rfl, hb4⟩
      go_wp2
      go_ret
      exact ⟨rfl, keepD hB3 hb4⟩
    have d1 : ¬ ((N : Int) ≤ (nm : Int)) := by omega
    have d2 : (s == 0) = false := beq_false_of_ne hs0
    have HS0 : Hid (s ≠ 0) := hs0
    have HFW : Hid (¬ N ≤ nm) := hfew
    obtain ⟨D, hD⟩ : ∃ D : Nat, D = N - nm := ⟨_, rfl⟩
    have hD1 : (N : Int) - (nm : Int) = (D : Int) := by omega
    have hD0 : 1 ≤ D := by omega
    have hD20 : D ≤ N := by omega
    have HD : Hid (D = N - nm) := hD
    clear hs0 hfew hD
    have u1 : IntKind.i64.wrap ((N : Int) - (nm : Int)) = (D : Int) := by rw [hD1, IntKind.wrap_i64]; omega
    obtain ⟨g, hal, hBg, hgl⟩ := HOL3.out.shape (by omega)
    subst hal
    go_wp2_with fail
    refine (byteAt_m a' n' c' bs' 0 (D : Int) _ (H1.out _ hB3) (by omega) (by omega)).mono ?_
    rintro e wx ⟨v, rfl, hv0, hv1, hwx⟩
    subst hwx
    obtain ⟨F, rfl⟩ := Int.eq_ofNat_of_zero_le hv0
    have hFN : F < N := by omega
    have HFM : Hid (F + nm + 1 ≤ N) := by have := HD.out; have := HFW.out; show F + nm + 1 ≤ N; omega
    clear hv0 hv1 u1 hD1 d1 d2
    obtain ⟨w4, hw4⟩ : ∃ w4, w4 = w3.alloc (.cells #[] 2) := ⟨_, rfl⟩
    obtain ⟨gW, hgW⟩ : ∃ gW, gW = w3.heap.size := ⟨_, rfl⟩
    have hb4 : Below w3.heap.size w3 w4 := by rw [hw4]; exact (Below.refl _ _).alloc (Nat.le_refl _) _
    have HW0 : Hid (OwnI gW w4 (some ⟨gW, 0, none⟩) 0 0 (whoL F 0)) := by
      show OwnI _ _ _ _ _ _
      rw [hw4, hgW]
      exact ⟨World.ownsRow_lit w3 #[] 0 (Nat.le_refl _) (Nat.zero_le _) rfl⟩
    have HL4 : Hid (Shs w4 (some ⟨g, 0, none⟩) N (dealL s ms N)) := (HOL3.out.kept hb4).toShs
    have hgg : ∀ b off, (some ⟨g, 0, none⟩ : Option Addr) = some ⟨b, off, none⟩ → 0 < N → b < gW := fun b off e _ => by cases e; omega
    have hB4 := keepD hB3 hb4
    have hgW4 : gW < w4.heap.size := by rw [hw4, hgW]; simp
    have hwgW : w.heap.size ≤ gW := by rw [hgW]; exact hB3.size
    have HWW : Hid (_ = _) := hw4
    have HGW : Hid (gW = w3.heap.size) := hgW
    clear hw4 hgW
    go_upto_region 12 with fail
    rw [← HWW.out, ← HGW.out]
    clear HWW HGW HOL3
    go_wp2
    go_loopw [13, 14, 15] (fun o r i wr => ∃ (q cq : Nat) (aq : Option Addr), F + q ≤ N ∧ i = .int .i64 ((F + q : Nat) : Int) ∧ r = .int .i64 (rN bs' F q) ∧ o = .slice aq q cq ∧ OwnI gW wr aq q cq (whoL F q) ∧ Below gW w4 wr) (fun _ _ i _ => N - (intOf i).toNat)
    case atStart => exact ⟨0, 0, _, by omega, rfl, rfl, rfl, HW0.out, Below.refl _ _⟩
    case round =>
      obtain ⟨q, cq, aq, hq, rfl, rfl, rfl, hoq, hbq⟩ := hrel
      have hszq := hbq.size
      have HLq : Hid (Shs wr (some ⟨g, 0, none⟩) N (dealL s ms N)) := shs_low HL4.out hgg hbq
      have hBq : Below w.heap.size w wr := hB4.trans (hbq.mono hwgW)
      have hrb := rN_bd bs' F q
      by_cases hlt : F + q < N
      · have hlti : (F : Int) + (q : Int) < (N : Int) := by omega
        have hlt2 : ((F + q : Nat) : Int) < (N : Int) := by omega
        obtain ⟨b, off, hbe, _, c0, c1⟩ := HLq.out.get (F + q) hlt
        simp only [Option.some.injEq, Addr.mk.injEq, and_true] at hbe
        obtain ⟨rfl, rfl⟩ := hbe
        rw [Nat.zero_add, dealL_get s ms N _ hlt] at c0 c1
        have c0' : wr.cell? ⟨g, (F + q) * 2, none⟩ = some (.int .i64 ((F + q + 1 : Nat) : Int)) := c0
        obtain ⟨z, hz⟩ : ∃ z : Int, z = ((F + q + 1 : Nat) : Int) := ⟨_, rfl⟩
        rw [← hz] at c0'
        have HNX : Hid (whoL F q ++ [z] = whoL F (q + 1)) := by show _ = _; rw [hz, whoL_next]
        have HOQ : Hid (_) := hoq
        have hal : Below wr.heap.size wr (wr.alloc (.cells #[.int .i64 z] 2)) := (Below.refl _ _).alloc (Nat.le_refl _) _
        have hoqa := HOQ.out.kept hal
        have hcl := cell_one64 wr z
        have hkb := kN_bd bs' (F + q)
        clear c0 c1 hz hoq
        go_wp2_with (first | (at_builtin; refine wpList_append_own _ rfl _ _ 24 rfl gW 2 i0 (.int .i64 0) 1 8 Try.underlying24 hi hz0 hz1 hz2 rfl (by decide) _ q _ rfl hoqa.row ⟨wr.heap.size, 0, none⟩ 1 1 ([z].map (Value.int .i64)) rfl rfl hcl (ints_oneCell .i64 [z]) (by unfold maxLen; omega) (by omega) (by simp; omega) ?_; intro v4 wy hv4 hg4 _))
        rw [← List.map_append, HNX.out] at hv4
        obtain ⟨ay, cy, rfl, hoy⟩ := ownI_appended hv4
        have hby : Below gW w4 wy := (hbq.trans (hal.mono (by omega))).grown hg4 (by simp; omega) (fun k hk => (hoqa.row.lt k hk).1)
        have HOY : Hid (OwnI gW wy ay (q + 1) cy (whoL F (q + 1))) := hoy
        have hBy : Below w.heap.size w wy := hB4.trans (hby.mono hwgW)
        clear hv4 hg4 hoqa hcl c0' hoy
        rw [show (1 + ((F : Int) + (q : Int))) = ((1 + (F + q) : Nat) : Int) by omega]
        refine (byteAt_v a' n' c' bs' (1 + (F + q)) 200 _ (H1.out _ hBy) (by decide) (by decide)).mono ?_
        rintro e wz ⟨rfl, hwz⟩
        subst hwz
        obtain ⟨v, hv⟩ : ∃ v, v = byN bs' (1 + (F + q)) 200 := ⟨_, rfl⟩
        have HKV : Hid (kN bs' (F + q) = 3 + v) := by show _ = _; rw [hv]; rfl
        have hv1 : 0 ≤ v := by have := HKV.out; omega
        have hv2 : v ≤ 199 := by have := HKV.out; omega
        rw [← hv]
        clear hv
        go_wp2_with fail
        refine (implKeyOf_any (3 + v) _).mono ?_
        rintro e wz ⟨rfl, hwz⟩
        subst hwz
        obtain ⟨R, hR⟩ : ∃ R, R = rN bs' F q := ⟨_, rfl⟩
        obtain ⟨K, hK⟩ : ∃ K, K = keyOf (3 + v) := ⟨_, rfl⟩
        have HRK : Hid (rN bs' F (q + 1) = R * K % 1000000007) := by show _ = _; rw [hR, hK, ← HKV.out]; rfl
        have hKb := keyOf_bd (3 + v)
        rw [← hK] at hKb ⊢
        rw [← hR] at hrb ⊢
        obtain ⟨hr0, hr1⟩ := hrb
        obtain ⟨hK0, hK1⟩ := hKb
        have hm0 : 0 ≤ R * K := Int.mul_nonneg hr0 hK0
        have hm1 : R * K ≤ 1000000006 * 1000000006 := Int.mul_le_mul hr1 hK1 hK0 (by decide)
        clear hR hK
        have e1 : IntKind.i64.wrap (R * K) = R * K := by rw [IntKind.wrap_i64]; omega
        have e2 : (R * K).tmod 1000000007 = R * K % 1000000007 := Int.tmod_eq_emod_of_nonneg hm0
        go_wp2
        go_roundw
        case rel => exact ⟨q + 1, cy, ay, by omega, by go_num, by rw [HRK.out], rfl, HOY.out, hby⟩
        case measure => simp [intOf]; omega
      · have hnl : ¬ ((F : Int) + (q : Int) < (N : Int)) := by omega
        have hnl2 : ¬ (((F + q : Nat) : Int) < (N : Int)) := by omega
        have HQN : Hid (q = N - F) := by show q = N - F; omega
        obtain ⟨R, hR⟩ : ∃ R, R = rN bs' F q := ⟨_, rfl⟩
        have HRR : Hid (R = rN bs' F (N - F)) := by show _ = _; rw [hR, ← HQN.out]
        rw [← hR] at hrb ⊢
        clear hR
        obtain ⟨hr0, hr1⟩ := hrb
        obtain ⟨wM, rfl⟩ : ∃ wM, wM = wr := ⟨_, rfl⟩
        go_wp2_with fail
        refine (drawHash_any a' n' c' bs' _ (H1.out _ hBq) hnil (by omega)).mono ?_
        rintro e w5 ⟨a5, c5, rfl, ho5, hMM⟩
        have hn5 := ho5.nil
        have HN5 : Hid (a5 = none → c5 = 0) := hn5
        have hnl5 := HN5
        clear hnl5
        have hcap5 := ownCapT ho5
        by_cases hlong : 100 < n'
        · have hli : (100 : Int) < (n' : Int) := by omega
          obtain ⟨g5, rfl⟩ := ho5.shape (by omega)
          have hc5i : (100 : Int) ≤ (c5 : Int) := by omega
          obtain ⟨msgL, hms⟩ : ∃ m, m = bs'.take 100 := ⟨_, rfl⟩
          have HMS : Hid (∀ W, Below w5.heap.size w5 W → Row W (some ⟨g5, 0, none⟩) 100 msgL) := fun W hW => by rw [hms]; exact ((ho5.kept hW).toRow).take 100 (by omega)
          clear ho5 hms
          go_wp2_with fail
          refine (implKeyOf_any s _).mono ?_
          rintro e wz ⟨rfl, hwz⟩
          subst hwz
          have hyb := keyOf_bd s
          obtain ⟨y, hy⟩ : ∃ y, y = keyOf s := ⟨_, rfl⟩
          have HY : Hid (y = keyOf s) := hy
          rw [← hy] at hyb ⊢
          clear hy
          go_wp2_with fail
          refine (implChallenge_any R y (some ⟨g5, 0, none⟩) 100 c5 msgL _ (HMS.out _ (Below.refl _ _)) (by omega) HN5.out (by omega) (by omega)).mono ?_
          rintro e w6 ⟨rfl, hb6⟩
          obtain ⟨E, hE⟩ : ∃ E, E = chalN R y msgL := ⟨_, rfl⟩
          have HE : Hid (E = chalN (rN bs' F (N - F)) (keyOf s) msgL) := by show _ = _; rw [hE, HRR.out, HY.out]
          have heb : expP E := by rw [hE]; exact chalN_bd _ _ _
          have hmE := HE
          rw [← hE]
          clear hE hmE
          obtain ⟨S, hjn, hver⟩ := together s ms bs' msgL N F hs HS0.out hN20 (by rw [HML.out]; exact HFM.out) E HE.out
          have HJN : Hid (joinR (prtL s ms bs' N F E (N - F)) E = ((E, S), true)) := hjn
          have HVR : Hid (decide (verP y msgL (E, S)) = true) := by show _ = _; rw [HY.out]; exact decide_eq_true hver
          have HPI : Hid (∀ t, F + t < N → partR (dealt s ms (F + t)) (whoL F q) (kN bs' (F + t)) E = (ptN s ms bs' N F E t, true)) := fun t ht => by
            have := part_is s ms bs' N F E t hN20 ht heb
            rwa [← HQN.out] at this
          clear hjn hver
          obtain ⟨w7, hw7⟩ : ∃ w7, w7 = w6.alloc (.cells #[] 2) := ⟨_, rfl⟩
          obtain ⟨gP, hgP⟩ : ∃ gP, gP = w6.heap.size := ⟨_, rfl⟩
          have hb7 : Below w6.heap.size w6 w7 := by rw [hw7]; exact (Below.refl _ _).alloc (Nat.le_refl _) _
          have HP0 : Hid (OwnI gP w7 (some ⟨gP, 0, none⟩) 0 0 (prtL s ms bs' N F E 0)) := by
            show OwnI _ _ _ _ _ _
            rw [hw7, hgP]
            exact ⟨World.ownsRow_lit w6 #[] 0 (Nat.le_refl _) (Nat.zero_le _) rfl⟩
          have h57 := keepD hb6 hb7
          have hgP7 : gP < w7.heap.size := by rw [hw7, hgP]; simp
          have HWW : Hid (_ = _) := hw7
          have HGP : Hid (gP = w6.heap.size) := hgP
          clear hw7 hgP
          go_upto_region 24 with fail
          rw [← HWW.out, ← HGP.out]
          clear HWW
          have hM7 := keepD hMM h57
          have HL7 : Hid (Shs w7 (some ⟨g, 0, none⟩) N (dealL s ms N)) := HLq.out.kept hM7
          have HWH : Hid (∀ W, Below gP w7 W → Row64 W aq q (whoL F q)) := fun W hW => row64_low (hoq.toRow.kept hM7) (fun b off ha h0 => by have := (hoq.kept (keepD hMM hb6)).toRow.get 0 h0; obtain ⟨b', off', ha', hlt', _⟩ := this; rw [ha] at ha'; cases ha'; have := HGP.out; omega) hW
          have HLL : Hid (∀ W, Below gP w7 W → Shs W (some ⟨g, 0, none⟩) N (dealL s ms N)) := fun W hW => shs_low HL7.out (fun b off e h0 => by cases e; have := h57.size; have := hMM.size; have := hb6.size; have := hgg g 0 rfl h0; have := HGP.out; omega) hW
          have hcap := ownI_cap hoq
          obtain ⟨gQ, haQ⟩ := ownI_shape hoq (by have := HQN.out; omega)
          subst haQ
          have HMP : Hid (∀ W, Below gP w7 W → Row W (some ⟨g5, 0, none⟩) 100 msgL) := fun W hW => row_low (HMS.out _ h57) (fun b off ha h0 => by obtain ⟨b', off', ha', hlt', _⟩ := (HMS.out _ hb6).get 0 h0; rw [ha] at ha'; cases ha'; have := HGP.out; omega) hW
          have hB7 : Below w.heap.size w w7 := keepD hBq hM7
          have hwP : w.heap.size ≤ gP := by have := hBq.size; have := hMM.size; have := hb6.size; have := HGP.out; omega
          clear hoq
          go_wp2
          go_loopw [19, 20] (fun o i wr => ∃ (u cu : Nat) (au : Option Addr), F + u ≤ N ∧ i = .int .i64 ((F + u : Nat) : Int) ∧ o = .slice au u cu ∧ OwnI gP wr au u cu (prtL s ms bs' N F E u) ∧ Below gP w7 wr) (fun _ i _ => N - (intOf i).toNat)
          case atStart => exact ⟨0, 0, _, by omega, rfl, rfl, HP0.out, Below.refl _ _⟩
          case round =>
            obtain ⟨u, cu, au, hu, rfl, rfl, hou, hbu⟩ := hrel
            have hszu := hbu.size
            have hBu : Below w.heap.size w wr := hB7.trans (hbu.mono hwP)
            by_cases hltu : F + u < N
            · have hi1 : (F : Int) + (u : Int) < (N : Int) := by omega
              have hi2 : ((F + u : Nat) : Int) < (N : Int) := by omega
              obtain ⟨pp, hpp⟩ : ∃ pp, pp = dealt s ms (F + u) := ⟨_, rfl⟩
              have HXC : Hid (∀ W, Below gP w7 W → W.cell? ⟨g, (F + u) * 2, none⟩ = some (.int .i64 pp.1) ∧ W.cell? ⟨g, (F + u) * 2 + 1, none⟩ = some (.int .i64 pp.2)) := by
                intro W hW
                obtain ⟨b, off, hbe, _, c0, c1⟩ := (HLL.out W hW).get (F + u) hltu
                simp only [Option.some.injEq, Addr.mk.injEq, and_true] at hbe
                obtain ⟨rfl, rfl⟩ := hbe
                rw [Nat.zero_add, dealL_get s ms N _ hltu, ← hpp] at c0 c1
                exact ⟨c0, c1⟩
              obtain ⟨v, hv⟩ : ∃ v, v = byN bs' (1 + (F + u)) 200 := ⟨_, rfl⟩
              have HKV : Hid (kN bs' (F + u) = 3 + v) := by show _ = _; rw [hv]; rfl
              have HV : Hid (byN bs' (1 + (F + u)) 200 = v) := hv.symm
              have hkb := kN_bd bs' (F + u)
              have hv1 : 0 ≤ v := by have := HKV.out; omega
              have hv2 : v ≤ 199 := by have := HKV.out; omega
              obtain ⟨pt, hpt⟩ : ∃ pt, pt = ptN s ms bs' N F E u := ⟨_, rfl⟩
              have HPT : Hid (pair (partR pp (whoL F q) (3 + v) E) = .tuple #[.int .i64 pt, .bool true]) := by show _ = _; rw [← HKV.out, hpp, hpt, HPI.out u hltu]; rfl
              have hptb : expP pt := by rw [hpt]; exact ptN_bd _ _ _ _ _ _ _
              have HNX : Hid (prtL s ms bs' N F E u ++ [pt] = prtL s ms bs' N F E (u + 1)) := by show _ = _; rw [hpt, prtL_next]
              have e3 : IntKind.i64.wrap (3 + v) = 3 + v := by rw [IntKind.wrap_i64]; omega
              clear hv hpt hpp hkb
              have t0 : 0 ≤ (F : Int) + (u : Int) := by omega
              have e4 : IntKind.i64.wrap (1 + ((F : Int) + (u : Int))) = 1 + ((F : Int) + (u : Int)) := by rw [IntKind.wrap_i64]; omega
              have t1 : ((F : Int) + (u : Int)).toNat = F + u := by omega
              have hdr : Below gP w7 wr.drew := hbu.drew
              have hoe : OwnI wr.heap.size (wr.alloc (.cells #[] 2)).drew (some ⟨wr.heap.size, 0, none⟩) 0 0 [] := ⟨(World.ownsRow_lit wr #[] 0 (Nat.le_refl _) (Nat.zero_le _) rfl).drew⟩
              have hda : Below gP w7 (wr.alloc (.cells #[] 2)).drew := (hbu.alloc (by omega) _).drew
              have hdal : Below wr.heap.size wr (wr.alloc (.cells #[] 2)).drew := ((Below.refl _ _).alloc (Nat.le_refl _) _).drew
              have SS := HXC.out _ hbu
              have SS1 := HXC.out _ hdr
              have SS2 := HXC.out _ hda
              have HCL : Hid (∀ jj uu, ((whoL F q).map (Value.int .i64))[jj]? = some uu → (wr.alloc (.cells #[] 2)).drew.cell? ((⟨gQ, 0, none⟩ : Addr).add jj) = some uu) := row64_cells (HWH.out _ hda)
              clear hgg hnil hn5
              have hwl : ((whoL F q).map (Value.int .i64)).length = q * 1 := by rw [List.length_map, whoL_len, Nat.mul_one]
              have hq20 : q ≤ 20 := by omega
              have hbd : Below w.heap.size w wr.drew := hBu.drew
              have hbda : Below w.heap.size w (wr.alloc (.cells #[] 2)).drew := hB7.trans (hda.mono hwP)
              go_upto_region 27 with fail
              go_region_held_law (fun W => W.cell? ⟨g, (F + u) * 2, none⟩ = some (.int .i64 pp.1) ∧ W.cell? ⟨g, (F + u) * 2 + 1, none⟩ = some (.int .i64 pp.2)) (first | assumption | exact SS | exact SS1 | exact SS2 | exact SS3 | exact SS4)
                (first
                  | (go_at_call 10; rw [show (1 + ((F : Int) + (u : Int))) = ((1 + (F + u) : Nat) : Int) by omega]; refine (byteAt_v a' n' c' bs' (1 + (F + u)) 200 _ (H1.out _ (by first | exact hbA | exact hbda | exact hbd)) (by decide) (by decide)).mono ?_; rintro e wz ⟨rfl, hwz⟩; subst hwz; rw [HV.out])
                  | (go_at_call 15; refine Calls.mono (implSignPart_any pp aA q cA (whoL F q) (3 + v) E wA hoA.toRow hcA.1 hcA.2) ?_; rintro e wS ⟨rfl, hbS⟩; rw [HPT.out]; have hS : Below gP w7 wS := hA.trans (hbS.mono (by have := hA.size; omega)); have SS4 := HXC.out _ hS)
                  | (refine step_append_ownS rfl (.tmp 126) (.tmp 127) 24 rfl wr.heap.size 2 i0 _ 1 8 Try.underlying24 hi hz0 hz1 hz2 rfl (by decide) _ 0 _ (by simp [Act.eval]) hoe.row ⟨gQ, 0, none⟩ q cq ((whoL F q).map (Value.int .i64)) (by simp [Act.eval]) hwl HCL.out (ints_oneCell .i64 (whoL F q)) (by unfold maxLen; omega) (by omega) (by simp) ?_; intro v4 wA hv4 hg4; rw [← List.map_append, List.nil_append, Nat.zero_add] at hv4; have hA0 : Below wr.heap.size wr wA := hdal.grown hg4 (by simp) (fun k hk => (hoe.row.lt k hk).1); have hA : Below gP w7 wA := hbu.trans (hA0.mono (by omega)); have SS3 := HXC.out _ hA; have hbA : Below w.heap.size w wA := hB7.trans (hA.mono hwP); obtain ⟨aA, cA, rfl, hoA⟩ := ownI_appended hv4; have hcA := ownI_cap hoA))
              all_goals
                clear SS SS1 SS2 SS3 SS4
                have hBS : Below w.heap.size w wS := hB7.trans (hS.mono hwP)
                have HOU : Hid (OwnI gP wS au u cu (prtL s ms bs' N F E u)) := ((hou.kept hA0).kept hbS)
                go_wp2_with fail
                refine (in_t pt 0 500000002 _ hptb).mono ?_
                rintro e wz ⟨rfl, hwz⟩
                subst hwz
                have hal : Below wz.heap.size wz (wz.alloc (.cells #[.int .i64 pt] 2)) := (Below.refl _ _).alloc (Nat.le_refl _) _
                have houa := HOU.out.kept hal
                have hcl2 := cell_one64 wz pt
                have hszS := hS.size
                go_wp2_with (first | (at_builtin; refine wpList_append_own _ rfl _ _ 24 rfl gP 2 i0 (.int .i64 0) 1 8 Try.underlying24 hi hz0 hz1 hz2 rfl (by decide) _ u _ rfl houa.row ⟨wz.heap.size, 0, none⟩ 1 1 ([pt].map (Value.int .i64)) rfl rfl hcl2 (ints_oneCell .i64 [pt]) (by unfold maxLen; omega) (by omega) (by simp; omega) ?_; intro v5 wT hv5 hg5 _))
                rw [← List.map_append, HNX.out] at hv5
                have hT : Below gP w7 wT := (hS.trans (hal.mono (by omega))).grown hg5 (by simp; omega) (fun k hk => (houa.row.lt k hk).1)
                obtain ⟨aT, cT, rfl, hoT⟩ := ownI_appended hv5
                clear hv5 hg5 houa hcl2
                go_wp2
                go_roundw
                case rel => exact ⟨u + 1, cT, aT, by omega, by go_num, rfl, hoT, hT⟩
                case measure => simp [intOf]; omega
            · have hi1 : ¬ ((F : Int) + (u : Int) < (N : Int)) := by omega
              have hi2 : ¬ (((F + u : Nat) : Int) < (N : Int)) := by omega
              have hue : u = N - F := by omega
              rw [← hue] at HJN
              clear hue
              have zE : (E == E) = true := by simp
              go_wp2_with fail
              refine (implSignJoin_any au u cu (prtL s ms bs' N F E u) E _ hou.toRow (by omega)).mono ?_
              rintro e w8 ⟨rfl, hb8⟩
              rw [HJN.out, sigv]
              have h8 : Below gP w7 w8 := hbu.trans (hb8.mono (by omega))
              obtain ⟨w9, hw9⟩ : ∃ w9, w9 = w8.alloc (.cells #[.int .i64 E, .int .i64 S] 43) := ⟨_, rfl⟩
              have hb9 : Below w8.heap.size w8 w9 := by rw [hw9]; exact (Below.refl _ _).alloc (Nat.le_refl _) _
              have HB9 : Hid (w9.heap[w8.heap.size]? = some (.cells #[.int .i64 E, .int .i64 S] 43)) := by show _ = _; rw [hw9]; exact heap_alloc_new w8 _
              have HWW : Hid (_ = _) := hw9
              clear hw9
              go_upto_region 32 with fail
              rw [← HWW.out]
              clear HWW
              go_wp2_with fail
              refine (lives_any _).mono ?_
              rintro e wL ⟨rfl, hbL⟩
              have hbx := (hbL.block _ (Array.getElem?_eq_some_iff.1 HB9.out).1).trans HB9.out
              have g0 : wL.cell? ⟨w8.heap.size, 0, none⟩ = some (.int .i64 E) := (cell_of_row _ _ 0 _ 43 (0, 0) hbx).trans rfl
              have g1 : wL.cell? ⟨w8.heap.size, 1, none⟩ = some (.int .i64 S) := (cell_of_row _ _ 1 _ 43 (0, 0) hbx).trans rfl
              have hLL : Below gP w7 wL := h8.trans ((keepD hb9 hbL).mono (by have := h8.size; omega))
              clear hbx
              go_wp2_with fail
              refine (implVerify_any y (some ⟨g5, 0, none⟩) 100 c5 msgL (E, S) _ (HMP.out _ hLL) (by omega) HN5.out).mono ?_
              rintro e wV ⟨rfl, hbV⟩
              rw [HVR.out]
              go_wp2
              go_ret
              exact ⟨rfl, keepD (hB7.trans (hLL.mono hwP)) hbV⟩
        · have hli : ¬ ((100 : Int) < (n' : Int)) := by omega
          obtain ⟨msgL, hms⟩ : ∃ m, m = bs' := ⟨_, rfl⟩
          have HMS : Hid (∀ W, Below w5.heap.size w5 W → Row W a5 n' msgL) := fun W hW => by rw [hms]; exact (ho5.kept hW).toRow
          clear ho5 hms
          go_wp2_with fail
          refine (implKeyOf_any s _).mono ?_
          rintro e wz ⟨rfl, hwz⟩
          subst hwz
          have hyb := keyOf_bd s
          obtain ⟨y, hy⟩ : ∃ y, y = keyOf s := ⟨_, rfl⟩
          have HY : Hid (y = keyOf s) := hy
          rw [← hy] at hyb ⊢
          clear hy
          go_wp2_with fail
          refine (implChallenge_any R y a5 n' c5 msgL _ (HMS.out _ (Below.refl _ _)) (by omega) HN5.out (by omega) (by omega)).mono ?_
          rintro e w6 ⟨rfl, hb6⟩
          obtain ⟨E, hE⟩ : ∃ E, E = chalN R y msgL := ⟨_, rfl⟩
          have HE : Hid (E = chalN (rN bs' F (N - F)) (keyOf s) msgL) := by show _ = _; rw [hE, HRR.out, HY.out]
          have heb : expP E := by rw [hE]; exact chalN_bd _ _ _
          have hmE := HE
          rw [← hE]
          clear hE hmE
          obtain ⟨S, hjn, hver⟩ := together s ms bs' msgL N F hs HS0.out hN20 (by rw [HML.out]; exact HFM.out) E HE.out
          have HJN : Hid (joinR (prtL s ms bs' N F E (N - F)) E = ((E, S), true)) := hjn
          have HVR : Hid (decide (verP y msgL (E, S)) = true) := by show _ = _; rw [HY.out]; exact decide_eq_true hver
          have HPI : Hid (∀ t, F + t < N → partR (dealt s ms (F + t)) (whoL F q) (kN bs' (F + t)) E = (ptN s ms bs' N F E t, true)) := fun t ht => by
            have := part_is s ms bs' N F E t hN20 ht heb
            rwa [← HQN.out] at this
          clear hjn hver
          obtain ⟨w7, hw7⟩ : ∃ w7, w7 = w6.alloc (.cells #[] 2) := ⟨_, rfl⟩
          obtain ⟨gP, hgP⟩ : ∃ gP, gP = w6.heap.size := ⟨_, rfl⟩
          have hb7 : Below w6.heap.size w6 w7 := by rw [hw7]; exact (Below.refl _ _).alloc (Nat.le_refl _) _
          have HP0 : Hid (OwnI gP w7 (some ⟨gP, 0, none⟩) 0 0 (prtL s ms bs' N F E 0)) := by
            show OwnI _ _ _ _ _ _
            rw [hw7, hgP]
            exact ⟨World.ownsRow_lit w6 #[] 0 (Nat.le_refl _) (Nat.zero_le _) rfl⟩
          have h57 := keepD hb6 hb7
          have hgP7 : gP < w7.heap.size := by rw [hw7, hgP]; simp
          have HWW : Hid (_ = _) := hw7
          have HGP : Hid (gP = w6.heap.size) := hgP
          clear hw7 hgP
          go_upto_region 24 with fail
          rw [← HWW.out, ← HGP.out]
          clear HWW
          have hM7 := keepD hMM h57
          have HL7 : Hid (Shs w7 (some ⟨g, 0, none⟩) N (dealL s ms N)) := HLq.out.kept hM7
          have HWH : Hid (∀ W, Below gP w7 W → Row64 W aq q (whoL F q)) := fun W hW => row64_low (hoq.toRow.kept hM7) (fun b off ha h0 => by have := (hoq.kept (keepD hMM hb6)).toRow.get 0 h0; obtain ⟨b', off', ha', hlt', _⟩ := this; rw [ha] at ha'; cases ha'; have := HGP.out; omega) hW
          have HLL : Hid (∀ W, Below gP w7 W → Shs W (some ⟨g, 0, none⟩) N (dealL s ms N)) := fun W hW => shs_low HL7.out (fun b off e h0 => by cases e; have := h57.size; have := hMM.size; have := hb6.size; have := hgg g 0 rfl h0; have := HGP.out; omega) hW
          have hcap := ownI_cap hoq
          obtain ⟨gQ, haQ⟩ := ownI_shape hoq (by have := HQN.out; omega)
          subst haQ
          have HMP : Hid (∀ W, Below gP w7 W → Row W a5 n' msgL) := fun W hW => row_low (HMS.out _ h57) (fun b off ha h0 => by obtain ⟨b', off', ha', hlt', _⟩ := (HMS.out _ hb6).get 0 h0; rw [ha] at ha'; cases ha'; have := HGP.out; omega) hW
          have hB7 : Below w.heap.size w w7 := keepD hBq hM7
          have hwP : w.heap.size ≤ gP := by have := hBq.size; have := hMM.size; have := hb6.size; have := HGP.out; omega
          clear hoq
          go_wp2
          go_loopw [19, 20] (fun o i wr => ∃ (u cu : Nat) (au : Option Addr), F + u ≤ N ∧ i = .int .i64 ((F + u : Nat) : Int) ∧ o = .slice au u cu ∧ OwnI gP wr au u cu (prtL s ms bs' N F E u) ∧ Below gP w7 wr) (fun _ i _ => N - (intOf i).toNat)
          case atStart => exact ⟨0, 0, _, by omega, rfl, rfl, HP0.out, Below.refl _ _⟩
          case round =>
            obtain ⟨u, cu, au, hu, rfl, rfl, hou, hbu⟩ := hrel
            have hszu := hbu.size
            have hBu : Below w.heap.size w wr := hB7.trans (hbu.mono hwP)
            by_cases hltu : F + u < N
            · have hi1 : (F : Int) + (u : Int) < (N : Int) := by omega
              have hi2 : ((F + u : Nat) : Int) < (N : Int) := by omega
              obtain ⟨pp, hpp⟩ : ∃ pp, pp = dealt s ms (F + u) := ⟨_, rfl⟩
              have HXC : Hid (∀ W, Below gP w7 W → W.cell? ⟨g, (F + u) * 2, none⟩ = some (.int .i64 pp.1) ∧ W.cell? ⟨g, (F + u) * 2 + 1, none⟩ = some (.int .i64 pp.2)) := by
                intro W hW
                obtain ⟨b, off, hbe, _, c0, c1⟩ := (HLL.out W hW).get (F + u) hltu
                simp only [Option.some.injEq, Addr.mk.injEq, and_true] at hbe
                obtain ⟨rfl, rfl⟩ := hbe
                rw [Nat.zero_add, dealL_get s ms N _ hltu, ← hpp] at c0 c1
                exact ⟨c0, c1⟩
              obtain ⟨v, hv⟩ : ∃ v, v = byN bs' (1 + (F + u)) 200 := ⟨_, rfl⟩
              have HKV : Hid (kN bs' (F + u) = 3 + v) := by show _ = _; rw [hv]; rfl
              have HV : Hid (byN bs' (1 + (F + u)) 200 = v) := hv.symm
              have hkb := kN_bd bs' (F + u)
              have hv1 : 0 ≤ v := by have := HKV.out; omega
              have hv2 : v ≤ 199 := by have := HKV.out; omega
              obtain ⟨pt, hpt⟩ : ∃ pt, pt = ptN s ms bs' N F E u := ⟨_, rfl⟩
              have HPT : Hid (pair (partR pp (whoL F q) (3 + v) E) = .tuple #[.int .i64 pt, .bool true]) := by show _ = _; rw [← HKV.out, hpp, hpt, HPI.out u hltu]; rfl
              have hptb : expP pt := by rw [hpt]; exact ptN_bd _ _ _ _ _ _ _
              have HNX : Hid (prtL s ms bs' N F E u ++ [pt] = prtL s ms bs' N F E (u + 1)) := by show _ = _; rw [hpt, prtL_next]
              have e3 : IntKind.i64.wrap (3 + v) = 3 + v := by rw [IntKind.wrap_i64]; omega
              clear hv hpt hpp hkb
              have t0 : 0 ≤ (F : Int) + (u : Int) := by omega
              have e4 : IntKind.i64.wrap (1 + ((F : Int) + (u : Int))) = 1 + ((F : Int) + (u : Int)) := by rw [IntKind.wrap_i64]; omega
              have t1 : ((F : Int) + (u : Int)).toNat = F + u := by omega
              have hdr : Below gP w7 wr.drew := hbu.drew
              have hoe : OwnI wr.heap.size (wr.alloc (.cells #[] 2)).drew (some ⟨wr.heap.size, 0, none⟩) 0 0 [] := ⟨(World.ownsRow_lit wr #[] 0 (Nat.le_refl _) (Nat.zero_le _) rfl).drew⟩
              have hda : Below gP w7 (wr.alloc (.cells #[] 2)).drew := (hbu.alloc (by omega) _).drew
              have hdal : Below wr.heap.size wr (wr.alloc (.cells #[] 2)).drew := ((Below.refl _ _).alloc (Nat.le_refl _) _).drew
              have SS := HXC.out _ hbu
              have SS1 := HXC.out _ hdr
              have SS2 := HXC.out _ hda
              have HCL : Hid (∀ jj uu, ((whoL F q).map (Value.int .i64))[jj]? = some uu → (wr.alloc (.cells #[] 2)).drew.cell? ((⟨gQ, 0, none⟩ : Addr).add jj) = some uu) := row64_cells (HWH.out _ hda)
              clear hgg hnil hn5
              have hwl : ((whoL F q).map (Value.int .i64)).length = q * 1 := by rw [List.length_map, whoL_len, Nat.mul_one]
              have hq20 : q ≤ 20 := by omega
              have hbd : Below w.heap.size w wr.drew := hBu.drew
              have hbda : Below w.heap.size w (wr.alloc (.cells #[] 2)).drew := hB7.trans (hda.mono hwP)
              go_upto_region 27 with fail
              go_region_held_law (fun W => W.cell? ⟨g, (F + u) * 2, none⟩ = some (.int .i64 pp.1) ∧ W.cell? ⟨g, (F + u) * 2 + 1, none⟩ = some (.int .i64 pp.2)) (first | assumption | exact SS | exact SS1 | exact SS2 | exact SS3 | exact SS4)
                (first
                  | (go_at_call 10; rw [show (1 + ((F : Int) + (u : Int))) = ((1 + (F + u) : Nat) : Int) by omega]; refine (byteAt_v a' n' c' bs' (1 + (F + u)) 200 _ (H1.out _ (by first | exact hbA | exact hbda | exact hbd)) (by decide) (by decide)).mono ?_; rintro e wz ⟨rfl, hwz⟩; subst hwz; rw [HV.out])
                  | (go_at_call 15; refine Calls.mono (implSignPart_any pp aA q cA (whoL F q) (3 + v) E wA hoA.toRow hcA.1 hcA.2) ?_; rintro e wS ⟨rfl, hbS⟩; rw [HPT.out]; have hS : Below gP w7 wS := hA.trans (hbS.mono (by have := hA.size; omega)); have SS4 := HXC.out _ hS)
                  | (refine step_append_ownS rfl (.tmp 126) (.tmp 127) 24 rfl wr.heap.size 2 i0 _ 1 8 Try.underlying24 hi hz0 hz1 hz2 rfl (by decide) _ 0 _ (by simp [Act.eval]) hoe.row ⟨gQ, 0, none⟩ q cq ((whoL F q).map (Value.int .i64)) (by simp [Act.eval]) hwl HCL.out (ints_oneCell .i64 (whoL F q)) (by unfold maxLen; omega) (by omega) (by simp) ?_; intro v4 wA hv4 hg4; rw [← List.map_append, List.nil_append, Nat.zero_add] at hv4; have hA0 : Below wr.heap.size wr wA := hdal.grown hg4 (by simp) (fun k hk => (hoe.row.lt k hk).1); have hA : Below gP w7 wA := hbu.trans (hA0.mono (by omega)); have SS3 := HXC.out _ hA; have hbA : Below w.heap.size w wA := hB7.trans (hA.mono hwP); obtain ⟨aA, cA, rfl, hoA⟩ := ownI_appended hv4; have hcA := ownI_cap hoA))
              all_goals
                clear SS SS1 SS2 SS3 SS4
                have hBS : Below w.heap.size w wS := hB7.trans (hS.mono hwP)
                have HOU : Hid (OwnI gP wS au u cu (prtL s ms bs' N F E u)) := ((hou.kept hA0).kept hbS)
                go_wp2_with fail
                refine (in_t pt 0 500000002 _ hptb).mono ?_
                rintro e wz ⟨rfl, hwz⟩
                subst hwz
                have hal : Below wz.heap.size wz (wz.alloc (.cells #[.int .i64 pt] 2)) := (Below.refl _ _).alloc (Nat.le_refl _) _
                have houa := HOU.out.kept hal
                have hcl2 := cell_one64 wz pt
                have hszS := hS.size
                go_wp2_with (first | (at_builtin; refine wpList_append_own _ rfl _ _ 24 rfl gP 2 i0 (.int .i64 0) 1 8 Try.underlying24 hi hz0 hz1 hz2 rfl (by decide) _ u _ rfl houa.row ⟨wz.heap.size, 0, none⟩ 1 1 ([pt].map (Value.int .i64)) rfl rfl hcl2 (ints_oneCell .i64 [pt]) (by unfold maxLen; omega) (by omega) (by simp; omega) ?_; intro v5 wT hv5 hg5 _))
                rw [← List.map_append, HNX.out] at hv5
                have hT : Below gP w7 wT := (hS.trans (hal.mono (by omega))).grown hg5 (by simp; omega) (fun k hk => (houa.row.lt k hk).1)
                obtain ⟨aT, cT, rfl, hoT⟩ := ownI_appended hv5
                clear hv5 hg5 houa hcl2
                go_wp2
                go_roundw
                case rel => exact ⟨u + 1, cT, aT, by omega, by go_num, rfl, hoT, hT⟩
                case measure => simp [intOf]; omega
            · have hi1 : ¬ ((F : Int) + (u : Int) < (N : Int)) := by omega
              have hi2 : ¬ (((F + u : Nat) : Int) < (N : Int)) := by omega
              have hue : u = N - F := by omega
              rw [← hue] at HJN
              clear hue
              have zE : (E == E) = true := by simp
              go_wp2_with fail
              refine (implSignJoin_any au u cu (prtL s ms bs' N F E u) E _ hou.toRow (by omega)).mono ?_
              rintro e w8 ⟨rfl, hb8⟩
              rw [HJN.out, sigv]
              have h8 : Below gP w7 w8 := hbu.trans (hb8.mono (by omega))
              obtain ⟨w9, hw9⟩ : ∃ w9, w9 = w8.alloc (.cells #[.int .i64 E, .int .i64 S] 43) := ⟨_, rfl⟩
              have hb9 : Below w8.heap.size w8 w9 := by rw [hw9]; exact (Below.refl _ _).alloc (Nat.le_refl _) _
              have HB9 : Hid (w9.heap[w8.heap.size]? = some (.cells #[.int .i64 E, .int .i64 S] 43)) := by show _ = _; rw [hw9]; exact heap_alloc_new w8 _
              have HWW : Hid (_ = _) := hw9
              clear hw9
              go_upto_region 32 with fail
              rw [← HWW.out]
              clear HWW
              go_wp2_with fail
              refine (lives_any _).mono ?_
              rintro e wL ⟨rfl, hbL⟩
              have hbx := (hbL.block _ (Array.getElem?_eq_some_iff.1 HB9.out).1).trans HB9.out
              have g0 : wL.cell? ⟨w8.heap.size, 0, none⟩ = some (.int .i64 E) := (cell_of_row _ _ 0 _ 43 (0, 0) hbx).trans rfl
              have g1 : wL.cell? ⟨w8.heap.size, 1, none⟩ = some (.int .i64 S) := (cell_of_row _ _ 1 _ 43 (0, 0) hbx).trans rfl
              have hLL : Below gP w7 wL := h8.trans ((keepD hb9 hbL).mono (by have := h8.size; omega))
              clear hbx
              go_wp2_with fail
              refine (implVerify_any y a5 n' c5 msgL (E, S) _ (HMP.out _ hLL) (by omega) HN5.out).mono ?_
              rintro e wV ⟨rfl, hbV⟩
              rw [HVR.out]
              go_wp2
              go_ret
              exact ⟨rfl, keepD (hB7.trans (hLL.mono hwP)) hbV⟩
  · rw [decide_eq_false hd]
    clear hml
    go_wp2_with fail
    refine (lives_any _).mono ?_
    rintro e w4 ⟨rfl, hb4⟩
    go_wp2
    go_ret
    exact ⟨rfl, keepD hB3 hb4⟩

end Go.Proofs.Ytjechndhgkkpeaa
