import Derived.Test.YtochaopoggempaaEM9
import Derived.Laws.AppendOwnNone
namespace Go.Proofs.Ytochaopoggempaa
open Go.RowKit

theorem step_append_ownP {P : Program} {ops : Array Oper} {o : Oper} {a : Act} {w : World} {K : Act → World → Prop} {Q : Exit → Act → World → Prop} {E : Prop}
    (hg : o.guard = none) (s x : Operand) (t : TypeId) (hop : o.op = Op.call { callee := Callee.builtin Builtin.append, args := #[s, x], argTypes := #[t, t] })
    (base : Nat) (e : TypeId) (i : TypeInfo) (z : Value) (size bytes : Nat) (h1 : P.underlying t = some (.slice e)) (h2 : P.info? e = some i) (h3 : i.zero = some z) (h4 : i.size = size) (h5 : i.bytes = bytes) (h6 : z.cells.size = size) (h7 : 0 < size)
    (v : Value) (n : Nat) (xs : List Value) (hs : a.eval s = v) (hown : w.ownsRow base e size v n xs)
    (ad : Addr) (m c : Nat) (news : List Value) (hx : a.eval x = .slice (some ad) m c) (hn : news.length = m * size) (hc : ∀ j u, news[j]? = some u → w.cell? (ad.add j) = some u) (h1c : ∀ u ∈ news, u.oneCell' = true)
    (b1 : n + m ≤ maxLen) (b2 : (n + m) * bytes ≤ 140737488355328) (b3 : base ≤ w.heap.size)
    (hK : ∀ v' w', w'.ownsRow base e size v' (n + m) (xs ++ news) → w.grownBy w' v.ownBlock → K (a.put o.dst v') w') :
    if Region.wanted o (yielded ops a.tmps) = true then Oper.wp P o a w K Q else E := by
  have hw : Region.wanted o (yielded ops a.tmps) = true := by simp [Region.wanted, hg]
  rw [if_pos hw]
  obtain ⟨v', w', hrun, r1, r2, _⟩ := run_append_own (P := P) w base t o.type e i z size bytes h1 h2 h3 h4 h5 h6 h7 v n xs hown ad m c news hn hc h1c b1 b2 b3
  unfold Oper.wp
  simp [execOp, hop, resolve, invoke, builtin, hs, hx, hrun, Result.andThen]
  exact hK v' w' r1 r2
theorem owns_shapeP {w : World} {B e s n : Nat} {v : Value} {xs : List Value} (h : w.ownsRow B e s v n xs) : ∃ a c, v = .slice a n c := by
  rcases h.2 with ⟨rfl, rfl⟩ | ⟨g, cap, cur, rfl, _⟩
  · exact ⟨_, _, rfl⟩
  · exact ⟨_, _, rfl⟩
theorem BlkV.set1 {w : World} {g : Nat} {c0 c1 c2 c3 : Value} (h : BlkV w g c0 c1 c2 c3) (v : Value) : BlkV (w.setCell ⟨g, 1, none⟩ v) g c0 v c2 c3 := heap_setCell_same w g 1 _ 46 v h
theorem BlkV.set2 {w : World} {g : Nat} {c0 c1 c2 c3 : Value} (h : BlkV w g c0 c1 c2 c3) (v : Value) : BlkV (w.setCell ⟨g, 2, none⟩ v) g c0 c1 v c3 := heap_setCell_same w g 2 _ 46 v h
theorem BlkV.set3 {w : World} {g : Nat} {c0 c1 c2 c3 : Value} (h : BlkV w g c0 c1 c2 c3) (v : Value) : BlkV (w.setCell ⟨g, 3, none⟩ v) g c0 c1 c2 v := heap_setCell_same w g 3 _ 46 v h
theorem BlkV.off {w : World} {g g' i : Nat} {c0 c1 c2 c3 : Value} (h : BlkV w g c0 c1 c2 c3) (v : Value) (hg : g ≠ g') : BlkV (w.setCell ⟨g', i, none⟩ v) g c0 c1 c2 c3 := (Below.heap_setCell _ _ _ _ hg).trans h
theorem OwnWr.off {B g : Nat} {w : World} {a : Option Addr} {n cap : Nat} {ps : List (Int × Int)} (h : OwnWr B w a n cap ps) (i : Nat) (v : Value) (hg : g < B) : OwnWr B (w.setCell ⟨g, i, none⟩ v) a n cap ps := by
  refine ⟨⟨h.row.1, ?_⟩, h.rng⟩
  rcases h.row.2 with hn | ⟨k, cap', cur, hv, hbb, hgg, rest⟩
  · exact .inl hn
  · exact .inr ⟨k, cap', cur, hv, hbb, (Below.heap_setCell _ _ _ _ (by show k ≠ g; omega)).trans hgg, rest⟩
theorem Own.offE {B g : Nat} {w : World} {a : Option Addr} {n cap : Nat} {bs : List Int} (h : Own B w a n cap bs) (i : Nat) (v : Value) (hg : g < B) : Own B (w.setCell ⟨g, i, none⟩ v) a n cap bs := by
  refine ⟨⟨h.row.1, ?_⟩, h.byte⟩
  rcases h.row.2 with hn | ⟨k, cap', cur, hv, hbb, hgg, rest⟩
  · exact .inl hn
  · exact .inr ⟨k, cap', cur, hv, hbb, (Below.heap_setCell _ _ _ _ (by show k ≠ g; omega)).trans hgg, rest⟩

set_option maxRecDepth 10000 in
set_option maxHeartbeats 8000000 in
theorem specSealMsg_any (a : Option Addr) (n c : Nat) (bs : List Int) (b : Option Addr) (m d : Nat) (ps : List (Int × Int × Int)) (eph : Int) (w : World) (h1 : Row w a n bs) (hc1 : a = none → c = 0) (hn : n ≤ 9223372036854775807) (h2 : RowPu w b m ps) (hm : m ≤ 9223372036854775807) (hi64 : ∀ j, j < m → (ps.getD j (0, 0, 0)).1 ≤ 9223372036854775807 ∧ (ps.getD j (0, 0, 0)).2.2 ≤ 9223372036854775807) (hem : eph ≤ 9223372036854775807) :
    Calls Try.prog 24 #[.slice a n c, .slice b m d, .int .i64 eph] w (SmA (sealR bs ps eph) w) := by
  obtain ⟨i0, hi, hz0, hz1, hz2⟩ := info_parts Try.infoWr
  have H1 : Hid (Row w a n bs) := h1
  have H2 : Hid (RowPu w b m ps) := h2
  have L1 : Hid (bs.length = n) := h1.len
  have L2 : Hid (ps.length = m) := h2.len
  have HM : Hid (∀ j, j < m → (ps.getD j (0, 0, 0)).1 ≤ 9223372036854775807 ∧ (ps.getD j (0, 0, 0)).2.2 ≤ 9223372036854775807) := hi64
  clear h1 h2 hi64
  obtain ⟨wb, hwb⟩ : ∃ wb, wb = w.alloc (.cells #[.int .i64 0, .slice none 0 0, .slice none 0 0, .int .u64 0] 46) := ⟨_, rfl⟩
  have B0 : Below w.heap.size w wb := by rw [hwb]; exact (Below.refl _ _).alloc (Nat.le_refl _) _
  have HZ : Hid (BlkV wb w.heap.size (.int .i64 0) (.slice none 0 0) (.slice none 0 0) (.int .u64 0)) := by rw [hwb]; exact heap_alloc_new w _
  have hl0 : w.heap.size < wb.heap.size := HZ.out.lt
  have HW : Hid (_ = _) := hwb
  clear hwb
  obtain ⟨⟨u0, u1, u2, u3⟩, v0, v1, v2, v3⟩ := HZ.out.cells
  by_cases h0 : n ≤ 4000
  · have z0 : ¬ (4000 : Int) < (n : Int) := by omega
    by_cases h3 : m < 1
    · have z3 : (m : Int) < 1 := by omega
      have HP : Hid (¬ sealP bs.length ps eph) := fun h => by have := h.2.1.1; rw [L2.out] at this; omega
      have HV : Hid (sealR bs ps eph = ⟨0, [], [], 0, false⟩) := by show _ = _; unfold sealR; rw [if_neg HP.out]
      clear h3
      go_enter Try.func24, Try.ntmps24
      go_upto_region 1 with fail
      rw [← HW.out]
      clear HW
      go_wp2
      try simp only [Exit.inBlock, Exit.then]
      refine bodyPost_ret (results_ev rfl _ w.heap.size rfl _ rfl _ _ _ _ _ (heap_set4 HZ.out _ _ _ _)) rfl ?_
      rw [HV.out]
      exact ⟨none, 0, 0, none, 0, 0, rfl, EvW.zero _ _ _ (by rw [sizeV]; exact B0.size), (fun _ => rfl), (fun _ => rfl), belowV B0 _ (Nat.le_refl _) _ _ _ _⟩
    have z3 : ¬ (m : Int) < 1 := by omega
    by_cases h4 : 20 < m
    · have z4 : (20 : Int) < (m : Int) := by omega
      have HP : Hid (¬ sealP bs.length ps eph) := fun h => by have := h.2.1.2; rw [L2.out] at this; omega
      have HV : Hid (sealR bs ps eph = ⟨0, [], [], 0, false⟩) := by show _ = _; unfold sealR; rw [if_neg HP.out]
      clear h4
      go_enter Try.func24, Try.ntmps24
      go_upto_region 1 with fail
      rw [← HW.out]
      clear HW
      go_wp2
      try simp only [Exit.inBlock, Exit.then]
      refine bodyPost_ret (results_ev rfl _ w.heap.size rfl _ rfl _ _ _ _ _ (heap_set4 HZ.out _ _ _ _)) rfl ?_
      rw [HV.out]
      exact ⟨none, 0, 0, none, 0, 0, rfl, EvW.zero _ _ _ (by rw [sizeV]; exact B0.size), (fun _ => rfl), (fun _ => rfl), belowV B0 _ (Nat.le_refl _) _ _ _ _⟩
    have z4 : ¬ (20 : Int) < (m : Int) := by omega
    by_cases hs : secP eph
    · have HS : Hid (secP eph) := hs
      have heb : 1 ≤ eph ∧ eph ≤ 500000002 := hs
      have hm1 : 1 ≤ m := by omega
      have hm20 : m ≤ 20 := by omega
      obtain ⟨he0, he1⟩ := heb
      go_enter Try.func24, Try.ntmps24
      go_upto_region 1 with fail
      rw [← HW.out]
      clear HW
      go_wp2_with fail
      refine (l7Secret_any eph _).mono ?_
      rintro e w1 ⟨rfl, hw⟩
      have hw2 := hw.symm
      subst hw2
      rw [decide_eq_true hs]
      clear hs
      have HT : Hid (total [ctX, putI eph, bs] ≤ 2097152) := by
        show _ ≤ _
        have h1 := putI_len eph hem
        have h2 := L1.out
        refine tri_total _ _ _ ?_
        simp only [ctX, List.length_cons, List.length_nil]; omega
      have hcv := Lib.run_convert_bytes_const (P := Try.prog) wb 22 5 #[.int .u8 99, .int .u8 111, .int .u8 110, .int .u8 116, .int .u8 101, .int .u8 110, .int .u8 116] 7 7 Try.underlying22 Try.underlying5
      have hrw : Row (wb.alloc (.cells #[.int .u8 99, .int .u8 111, .int .u8 110, .int .u8 116, .int .u8 101, .int .u8 110, .int .u8 116] 5 (7, 8))) (some ⟨wb.heap.size, 0, none⟩) 7 ctX := row_word wb ctX (7, 8) ctX_byte
      have hb0 : Below wb.heap.size wb (wb.alloc (.cells #[.int .u8 99, .int .u8 111, .int .u8 110, .int .u8 116, .int .u8 101, .int .u8 110, .int .u8 116] 5 (7, 8))) := (Below.refl _ _).alloc (Nat.le_refl _) _
      go_wp2_with fail
      clear hcv
      obtain ⟨w0, hw0⟩ : ∃ w0, w0 = wb.alloc (.cells #[.int .u8 99, .int .u8 111, .int .u8 110, .int .u8 116, .int .u8 101, .int .u8 110, .int .u8 116] 5 (7, 8)) := ⟨_, rfl⟩
      rw [← hw0] at hrw hb0 ⊢
      clear hw0
      refine (specPutNum_any eph _ hem).mono ?_
      rintro e w3 ⟨a3, c3, rfl, ho3, hb3⟩
      obtain ⟨m3, hm3⟩ : ∃ m3, m3 = (putI eph).length := ⟨_, rfl⟩
      rw [← hm3] at ho3 ⊢
      clear hm3
      have K3 : Below wb.heap.size wb w3 := keepT hb0 hb3
      have HRS : Hid (Rows2 (w3.alloc (.cells #[.slice (some ⟨wb.heap.size, 0, none⟩) 7 7, .slice a3 m3 c3, .slice a n c] 22)) (some ⟨w3.heap.size, 0, none⟩) 3 [ctX, putI eph, bs]) :=
        tri_rows w3 22 _ _ _ _ _ _ _ _ _ _ _ _ (hrw.kept hb3) (fun h => by cases h) ho3.toRow ho3.nil (H1.out.kept (keepT B0 K3)) hc1
      have K3' : Below wb.heap.size wb (w3.alloc (.cells #[.slice (some ⟨wb.heap.size, 0, none⟩) 7 7, .slice a3 m3 c3, .slice a n c] 22)) := K3.alloc K3.size _
      clear ho3 hrw
      go_wp2_with fail
      refine (specHashAll_any _ 3 3 [ctX, putI eph, bs] _ HRS.out (by decide) HT.out).mono ?_
      rintro e w4 ⟨rfl, hb4⟩
      have K4 := keepT K3' hb4
      obtain ⟨k, hk⟩ : ∃ k, k = hashL (partsL [ctX, putI eph, bs]) := ⟨_, rfl⟩
      have hkb : U64 k := by rw [hk]; exact hashL_bd _
      have HK : Hid (ctN eph bs = k) := by show _ = _; rw [hk]; rfl
      rw [← hk]
      clear hk u0 u1 u2 u3 v0 v1 v2 v3
      obtain ⟨ky, hky⟩ : ∃ ky, ky = keyOf eph := ⟨_, rfl⟩
      have HKY : Hid (keyOf eph = ky) := hky.symm
      clear hky
      go_wp2_with fail
      refine (specKeyOf_any eph _).mono ?_
      rintro e w5 ⟨rfl, hw⟩
      have hw2 := hw.symm
      subst hw2
      rw [HKY.out]
      obtain ⟨w5, hw5⟩ : ∃ w5, w5 = w4.alloc (.cells #[.int .i64 ky, .slice none 0 0, .slice none 0 0, .int .u64 0] 46) := ⟨_, rfl⟩
      have hb5 : Below w4.heap.size w4 w5 := by rw [hw5]; exact (Below.refl _ _).alloc (Nat.le_refl _) _
      have HE5 : Hid (BlkV w5 w4.heap.size (.int .i64 ky) (.slice none 0 0) (.slice none 0 0) (.int .u64 0)) := by rw [hw5]; exact heap_alloc_new w4 _
      have HZ5 : Hid (BlkV w5 w.heap.size (.int .i64 0) (.slice none 0 0) (.slice none 0 0) (.int .u64 0)) := HZ.out.kept (keepT K4 hb5)
      have HW5 : Hid (_ = _) := hw5
      clear hw5
      have s4 := K4.size
      have B5 : Below w.heap.size w w5 := keepT B0 (keepT K4 hb5)
      obtain ⟨ws, hws⟩ : ∃ ws, ws = ps.map (wrapP k eph) := ⟨_, rfl⟩
      have HWS : Hid (ps.map (wrapP k eph) = ws) := hws.symm
      have HWL : Hid (ws.length = m) := by show _ = _; rw [hws, List.length_map]; exact L2.out
      have HWG : Hid (∀ j, j < m → ws.getD j (0, 0) = wrapP k eph (ps.getD j (0, 0, 0))) := fun j hj => by rw [hws]; simp [L2.out, hj]
      clear hws
      have HS5 : Hid (w5.heap.size = w4.heap.size + 1) := by show _ = _; rw [HW5.out]; simp
      go_upto_region 5 with fail
      rw [← HW5.out]
      clear HW5
      go_wp2
      go_loopw [10] (fun i wr => ∃ (j cc : Nat) (ao : Option Addr), j ≤ m ∧ i = .int .i64 j ∧ Hid (AllG ps j) ∧ BlkV wr w4.heap.size (.int .i64 ky) (.slice ao j cc) (.slice none 0 0) (.int .u64 0) ∧ BlkV wr w.heap.size (.int .i64 0) (.slice none 0 0) (.slice none 0 0) (.int .u64 0) ∧ OwnWr (w4.heap.size + 1) wr ao j cc (ws.take j) ∧ Below w.heap.size w wr) (fun i _ => m - (intOf i).toNat)
      case atStart => exact ⟨0, 0, none, Nat.zero_le _, rfl, fun j hj => absurd hj (Nat.not_lt_zero _), HE5.out, HZ5.out, ownWr_none _ _, B5⟩
      case round =>
        obtain ⟨j, cc, ao, hj, rfl, HAG, hE, hZ, hor, hbr⟩ := hrel
        have hwz := hbr.size
        have HEr : Hid (BlkV wr w4.heap.size (.int .i64 ky) (.slice ao j cc) (.slice none 0 0) (.int .u64 0)) := hE
        have HZr : Hid (BlkV wr w.heap.size (.int .i64 0) (.slice none 0 0) (.slice none 0 0) (.int .u64 0)) := hZ
        have HOr : Hid (OwnWr (w4.heap.size + 1) wr ao j cc (ws.take j)) := hor
        have lE := hE.lt
        have lZ := hZ.lt
        clear hE hZ hor
        by_cases hlt : j < m
        · obtain ⟨b1, off, rfl, hb, x0, x1, x2⟩ := (H2.out.kept hbr).get j hlt
          have hyb := H2.out.rng j
          have hmj := HM.out j hlt
          obtain ⟨p, hp⟩ : ∃ p, p = ps.getD j (0, 0, 0) := ⟨_, rfl⟩
          rw [← hp] at x0 x1 x2 hyb hmj
          have HPJ : Hid (ps.getD j (0, 0, 0) = p) := hp.symm
          have HQ : Hid (ws.getD j (0, 0) = wrapP k eph p) := by show _ = _; rw [HWG.out j hlt, hp]
          clear hp
          have hlti : (j : Int) < (m : Int) := by omega
          have PO := fun W => l8PubOk_any p.1 p.2.1 p.2.2 W hyb
          have KI := fun W => specKeyId_any p.1 p.2.1 p.2.2 W hyb hmj.1 hmj.2
          unfold kpv at PO KI
          by_cases h5 : p.1 = 1
          · have z5 : (p.1 != 1) = false := by simpa using h5
            have H5 : Hid (p.1 = 1) := h5
            clear h5
            go_wp2_with fail
            refine (PO _).mono ?_
            rintro e w6 ⟨rfl, hb6⟩
            have B6 := keepT hbr hb6
            have HE6 : Hid (BlkV w6 w4.heap.size (.int .i64 ky) (.slice ao j cc) (.slice none 0 0) (.int .u64 0)) := HEr.out.kept hb6
            have HZ6 : Hid (BlkV w6 w.heap.size (.int .i64 0) (.slice none 0 0) (.slice none 0 0) (.int .u64 0)) := HZr.out.kept hb6
            have HO6 : Hid (OwnWr (w4.heap.size + 1) w6 ao j cc (ws.take j)) := HOr.out.kept hb6
            clear HEr HZr HOr
            by_cases h6 : pubP p.1 p.2.1 p.2.2
            · rw [decide_eq_true h6]
              have HGP : Hid (grpK p) := ⟨H5.out, h6⟩
              have hy2 := grpK_y HGP.out
              clear h6 x0 x1 x2
              obtain ⟨x0, x1, x2⟩ : w6.cell? ⟨b1, off + j * 3, none⟩ = some (.int .i64 p.1) ∧ w6.cell? ⟨b1, off + j * 3 + 1, none⟩ = some (.int .u64 p.2.1) ∧ w6.cell? ⟨b1, off + j * 3 + 2, none⟩ = some (.int .i64 p.2.2) := by
                obtain ⟨b', off', e', _, y0, y1, y2⟩ := (H2.out.kept B6).get j hlt
                simp only [Option.some.injEq, Addr.mk.injEq, and_true] at e'
                obtain ⟨rfl, rfl⟩ := e'
                rw [HPJ.out] at y0 y1 y2
                exact ⟨y0, y1, y2⟩
              have hb6' := Nat.lt_of_lt_of_le hb hb6.size
              go_wp2_with fail
              refine (KI _).mono ?_
              rintro e w7 ⟨rfl, hb7⟩
              have B7 := keepT B6 hb7
              have HE7 : Hid (BlkV w7 w4.heap.size (.int .i64 ky) (.slice ao j cc) (.slice none 0 0) (.int .u64 0)) := HE6.out.kept hb7
              have HZ7 : Hid (BlkV w7 w.heap.size (.int .i64 0) (.slice none 0 0) (.slice none 0 0) (.int .u64 0)) := HZ6.out.kept hb7
              have HO7 : Hid (OwnWr (w4.heap.size + 1) w7 ao j cc (ws.take j)) := HO6.out.kept hb7
              have hb7' := Nat.lt_of_lt_of_le hb6' hb7.size
              have x7 : w7.cell? ⟨b1, off + j * 3 + 1, none⟩ = some (.int .u64 p.2.1) := (hb7.cell (p := ⟨b1, off + j * 3 + 1, none⟩) hb6').trans x1
              clear HE6 HZ6 HO6 x0 x1 x2 hb7 hb6
              obtain ⟨id, hid⟩ : ∃ id, id = kidN p.1 p.2.1 p.2.2 := ⟨_, rfl⟩
              have hidb : U64 id := by rw [hid]; exact kidP_bd p
              have HID : Hid (kidP p = id) := hid.symm
              rw [← hid]
              obtain ⟨y, hy⟩ : ∃ y, y = p.2.1 := ⟨_, rfl⟩
              have HY : Hid (p.2.1 = y) := hy.symm
              rw [← hy] at hy2 x7
              have hsh : 0 ≤ gp y eph ∧ gp y eph < 1000000007 := gp_bd _ _
              obtain ⟨sh, hshv⟩ : ∃ sh, sh = gp y eph := ⟨_, rfl⟩
              have HSH : Hid (gp y eph = sh) := hshv.symm
              rw [← hshv] at hsh
              have HV1 : Hid (wrapP k eph p = (id, bits .xor .u64 k (wrN sh id))) := by show _ = _; unfold wrapP; rw [HID.out, HY.out, HSH.out]
              obtain ⟨hy0, hy1⟩ := hy2
              obtain ⟨hs0, hs1⟩ := hsh
              clear hid hy hshv PO KI hyb hmj
              have q1 : IntKind.i64.wrap y = y := by rw [IntKind.wrap_i64]; omega
              have q2 : wrap64 y = y := by unfold wrap64; omega
              have hd7 : Below w7.heap.size w7 w7.drew := (Below.refl _ _).drew
              have x7d : w7.drew.cell? ⟨b1, off + j * 3 + 1, none⟩ = some (.int .u64 y) := x7
              have e7 := HE7.out.cells.1.2.1
              have e7d : w7.drew.cell? ⟨w4.heap.size, 1, none⟩ = some (.slice ao j cc) := e7
              obtain ⟨x, hx⟩ : ∃ x, x = bits .xor .u64 k (wrN sh id) := ⟨_, rfl⟩
              have hxb : U64 x := by rw [hx]; exact u64_xor_range _ _
              have HXX : Hid (bits .xor .u64 k (wrN sh id) = x) := hx.symm
              have HT2 : Hid (ws.take (j + 1) = ws.take j ++ [(id, x)]) := by
                show _ = _
                have hl : j < ws.length := by rw [HWL.out]; exact hlt
                have e2 : ws.getD j (0, 0) = ws[j] := by simp [hl]
                rw [List.take_succ_eq_append_getElem hl, ← e2, HQ.out, HV1.out, HXX.out]
              have WM := fun W => l17Wrap_any sh id W (by omega) hidb
              clear hx
              go_upto_region 11 with fail
              go_region_law
                (first
                  | (go_simp; go_at_call 57; refine (l7PowP_any y eph _ (by omega) (by omega) (by omega) hem).mono ?_; rintro e wp ⟨rfl, hw⟩; have hw2 := hw.symm; subst hw2; rw [HSH.out])
                  | (go_simp; go_at_call 56; refine (WM _).mono ?_; rintro e w8 ⟨rfl, hb8⟩; have K8 : Below w7.heap.size w7 w8 := keepT hd7 hb8; have E8 : BlkV w8 w4.heap.size (.int .i64 ky) (.slice ao j cc) (.slice none 0 0) (.int .u64 0) := HE7.out.kept K8; have lE8 := E8.lt; have e8 := E8.cells.1.2.1; have XX := HXX.out; have O8 : OwnWr (w4.heap.size + 1) w8 ao j cc (ws.take j) := HO7.out.kept K8; have hor8 := O8.row.alloc (.cells #[.int .u64 id, .int .u64 x] 80); have hcl := cell_oneWr w8 (id, x); have hs8 : w4.heap.size + 1 ≤ (w8.alloc (.cells #[.int .u64 id, .int .u64 x] 80)).heap.size := (by simp; omega))
                  | (refine step_append_ownP rfl (.tmp 68) (.tmp 83) 44 rfl (w4.heap.size + 1) 80 i0 _ 2 16 Try.underlying44 hi hz0 hz1 hz2 rfl (by decide) _ j _ (by simp [Act.eval]) hor8 ⟨w8.heap.size, 0, none⟩ 1 1 (flWr [(id, x)]) (by simp [Act.eval]) rfl hcl (flWr_one _) (by unfold maxLen; omega) (by omega) hs8 ?_; intro v9 w9 hv9 hg9; obtain ⟨a9, c9, rfl⟩ := owns_shapeP hv9; have B9 : Below (w4.heap.size + 1) w8 w9 := ((Below.refl (w4.heap.size + 1) w8).alloc lE8 _).grown hg9 hs8 (fun l hl => (hor8.lt l hl).1); have E9 : BlkV w9 w4.heap.size (.int .i64 ky) (.slice ao j cc) (.slice none 0 0) (.int .u64 0) := (B9.block _ (Nat.lt_succ_self _)).trans E8; have C9 := E9.cells; have t1 := C9.1.2.1; have f1 := C9.2.2.1; have lE9 := E9.lt))
              all_goals
                obtain ⟨a9', c9', ev, ho9⟩ := ownWr_appended O8.rng (UWr.one (u := (id, x)) ⟨hidb, hxb⟩) hv9
                simp only [Value.slice.injEq] at ev
                obtain ⟨rfl, _, rfl⟩ := ev
                rw [← HT2.out] at ho9
                have Z9 : BlkV w9 w.heap.size (.int .i64 0) (.slice none 0 0) (.slice none 0 0) (.int .u64 0) := (B9.block _ (by omega)).trans (HZ7.out.kept K8)
                have FIN : Hid (BlkV (w9.setCell ⟨w4.heap.size, 1, none⟩ (.slice a9 (j + 1) c9)) w4.heap.size (.int .i64 ky) (.slice a9 (j + 1) c9) (.slice none 0 0) (.int .u64 0) ∧ BlkV (w9.setCell ⟨w4.heap.size, 1, none⟩ (.slice a9 (j + 1) c9)) w.heap.size (.int .i64 0) (.slice none 0 0) (.slice none 0 0) (.int .u64 0) ∧ OwnWr (w4.heap.size + 1) (w9.setCell ⟨w4.heap.size, 1, none⟩ (.slice a9 (j + 1) c9)) a9 (j + 1) c9 (ws.take (j + 1)) ∧ Below w.heap.size w (w9.setCell ⟨w4.heap.size, 1, none⟩ (.slice a9 (j + 1) c9))) :=
                  ⟨E9.set1 _, Z9.off _ (by omega), ho9.off 1 _ (Nat.lt_succ_self _), ((keepT B7 K8).trans (B9.mono (by omega))).setCell (by show w.heap.size ≤ w4.heap.size; omega) _⟩
                have HAG2 : Hid (AllG ps (j + 1)) := fun i hi2 => by
                  by_cases e : i < j
                  · exact HAG.out i e
                  · obtain rfl : i = j := by omega
                    rw [HPJ.out]; exact HGP.out
                clear x7 x7d e7 e7d e8 C9 t1 f1 hv9 hg9 hor8 hcl
                go_wp2
                go_roundw
                case rel => exact ⟨j + 1, c9, a9, by omega, by go_num, HAG2, FIN.out.1, FIN.out.2.1, FIN.out.2.2.1, FIN.out.2.2.2⟩
                case measure => simp [intOf]; omega
            · rw [decide_eq_false h6]
              have HP : Hid (¬ sealP bs.length ps eph) := fun h => h6 (by have := (h.2.2.1 j (by rw [L2.out]; exact hlt)).2; rw [HPJ.out] at this; exact this)
              have HV : Hid (sealR bs ps eph = ⟨0, [], [], 0, false⟩) := by show _ = _; unfold sealR; rw [if_neg HP.out]
              clear h6 x0 x1 x2
              obtain ⟨⟨u0, u1, u2, u3⟩, v0, v1, v2, v3⟩ := HZ6.out.cells
              go_wp2
              try simp only [Exit.inBlock, Exit.then]
              refine bodyPost_ret (results_ev rfl _ w.heap.size rfl _ rfl _ _ _ _ _ (heap_set4 HZ6.out _ _ _ _)) rfl ?_
              rw [HV.out]
              exact ⟨none, 0, 0, none, 0, 0, rfl, EvW.zero _ _ _ (by rw [sizeV]; exact B6.size), (fun _ => rfl), (fun _ => rfl), belowV B6 _ (Nat.le_refl _) _ _ _ _⟩
          · have z5 : (p.1 != 1) = true := by simpa using h5
            have HP : Hid (¬ sealP bs.length ps eph) := fun h => h5 (by have := (h.2.2.1 j (by rw [L2.out]; exact hlt)).1; rw [HPJ.out] at this; exact this)
            have HV : Hid (sealR bs ps eph = ⟨0, [], [], 0, false⟩) := by show _ = _; unfold sealR; rw [if_neg HP.out]
            clear h5
            obtain ⟨⟨u0, u1, u2, u3⟩, v0, v1, v2, v3⟩ := HZr.out.cells
            go_wp2
            try simp only [Exit.inBlock, Exit.then]
            refine bodyPost_ret (results_ev rfl _ w.heap.size rfl _ rfl _ _ _ _ _ (heap_set4 HZr.out _ _ _ _)) rfl ?_
            rw [HV.out]
            exact ⟨none, 0, 0, none, 0, 0, rfl, EvW.zero _ _ _ (by rw [sizeV]; exact hbr.size), (fun _ => rfl), (fun _ => rfl), belowV hbr _ (Nat.le_refl _) _ _ _ _⟩
        · obtain rfl : j = m := by omega
          have HGA : Hid (AllG ps j) := HAG.out
          have HO : Hid (OwnWr (w4.heap.size + 1) wr ao j cc ws) := by
            have h := HOr.out
            rwa [List.take_of_length_le (by rw [HWL.out]; exact Nat.le_refl _)] at h
          have HV : Hid (sealR bs ps eph = sealT bs ps eph) := by show _ = _; unfold sealR; rw [if_pos (show sealP bs.length ps eph from ⟨by rw [L1.out]; exact h0, by rw [L2.out]; exact ⟨hm1, hm20⟩, by rw [L2.out]; exact HGA.out, HS.out⟩)]
          clear HOr
          go_wp2_with fail
          refine (l17Stream_any k a n c bs _ hkb (H1.out.kept hbr) (by omega) hc1).mono ?_
          rintro e w6 ⟨a6, c6, rfl, ho6, hb6⟩
          have s6 := hb6.size
          have B6 := keepT hbr hb6
          have E6 := HEr.out.kept hb6
          have Z6 := HZr.out.kept hb6
          obtain ⟨⟨_, _, p2, _⟩, _, _, q2, _⟩ := E6.cells
          obtain ⟨w7, hw7⟩ : ∃ w7, w7 = w6.setCell ⟨w4.heap.size, 2, none⟩ (.slice a6 n c6) := ⟨_, rfl⟩
          have HE7 : Hid (BlkV w7 w4.heap.size (.int .i64 ky) (.slice ao j cc) (.slice a6 n c6) (.int .u64 0)) := by rw [hw7]; exact E6.set2 _
          have HZ7 : Hid (BlkV w7 w.heap.size (.int .i64 0) (.slice none 0 0) (.slice none 0 0) (.int .u64 0)) := by rw [hw7]; exact Z6.off _ (by omega)
          have HO7 : Hid (OwnWr (w4.heap.size + 1) w7 ao j cc ws) := by rw [hw7]; exact (HO.out.kept hb6).off 2 _ (Nat.lt_succ_self _)
          have HB7 : Hid (Own wr.heap.size w7 a6 n c6 (maskL k bs)) := by rw [hw7]; exact ho6.offE 2 _ lE
          have B7 : Below w.heap.size w w7 := by rw [hw7]; exact B6.setCell (by show w.heap.size ≤ w4.heap.size; omega) _
          have q7 : w7.heap.size = w6.heap.size := by rw [hw7]; simp
          have HW7 : Hid (_ = _) := hw7
          have lE6 := E6.lt
          clear hw7 E6 Z6
          go_upto_region 13 with fail
          rw [← HW7.out]
          clear HW7 p2 q2
          obtain ⟨⟨_, _, p2, _⟩, _⟩ := HE7.out.cells
          go_wp2_with fail
          refine (l17Tag_any k a6 n c6 (maskL k bs) _ hkb HB7.out.toRow (by omega) HB7.out.nil).mono ?_
          rintro e w8 ⟨rfl, hb8⟩
          obtain ⟨tg, htg⟩ : ∃ tg, tg = tagN k (maskL k bs) := ⟨_, rfl⟩
          have HTG : Hid (tagN k (maskL k bs) = tg) := htg.symm
          rw [← htg]
          clear htg p2
          have B8 := keepT B7 hb8
          have s8 := hb8.size
          have E8 := HE7.out.kept hb8
          have Z8 := HZ7.out.kept hb8
          obtain ⟨⟨_, _, _, p3⟩, _, _, _, q3⟩ := E8.cells
          obtain ⟨w9, hw9⟩ : ∃ w9, w9 = w8.setCell ⟨w4.heap.size, 3, none⟩ (.int .u64 tg) := ⟨_, rfl⟩
          have HE9 : Hid (BlkV w9 w4.heap.size (.int .i64 ky) (.slice ao j cc) (.slice a6 n c6) (.int .u64 tg)) := by rw [hw9]; exact E8.set3 _
          have HZ9 : Hid (BlkV w9 w.heap.size (.int .i64 0) (.slice none 0 0) (.slice none 0 0) (.int .u64 0)) := by rw [hw9]; exact Z8.off _ (by omega)
          have HO9 : Hid (OwnWr (w4.heap.size + 1) w9 ao j cc ws) := by rw [hw9]; exact (HO7.out.kept hb8).off 3 _ (Nat.lt_succ_self _)
          have HB9 : Hid (Own wr.heap.size w9 a6 n c6 (maskL k bs)) := by rw [hw9]; exact (HB7.out.kept hb8).offE 3 _ lE
          have B9 : Below w.heap.size w w9 := by rw [hw9]; exact B8.setCell (by show w.heap.size ≤ w4.heap.size; omega) _
          have q9 : w9.heap.size = w8.heap.size := by rw [hw9]; simp
          have HW9 : Hid (_ = _) := hw9
          have lE8 := E8.lt
          clear hw9 E8 Z8
          go_upto_region 14 with fail
          rw [← HW9.out]
          clear HW9 p3 q3
          obtain ⟨⟨p0, p1, p2, p3⟩, _⟩ := HE9.out.cells
          obtain ⟨⟨u0, u1, u2, u3⟩, v0, v1, v2, v3⟩ := HZ9.out.cells
          have lE9 := HE9.out.lt
          have lZ9 := HZ9.out.lt
          have HVV : Hid (sealR bs ps eph = ⟨ky, ws, maskL k bs, tg, true⟩) := by show _ = _; rw [HV.out]; unfold sealT; rw [HK.out, HTG.out, ← HKY.out, secP_key HS.out, HWS.out]
          go_wp2
          try simp only [Exit.inBlock, Exit.then]
          refine bodyPost_ret (results_ev rfl _ w.heap.size rfl _ rfl _ _ _ _ _ (heap_set4 HZ9.out _ _ _ _)) rfl ?_
          rw [HVV.out]
          have T := touch4 w9 w.heap.size (.int .i64 ky) (.slice ao j cc) (.slice a6 n c6) (.int .u64 tg)
          have I6 : In ao j (w4.heap.size + 1) wr.heap.size := HO.out.in_
          have I7 : In a6 n wr.heap.size w6.heap.size := ho6.in_
          have R6 := HO9.out.toRow.touch I6 (.inr (by omega)) T
          have R7 := HB9.out.toRow.touch I7 (.inr (by omega)) T
          exact ⟨ao, j, cc, a6, n, c6, rfl, ⟨R6, R7, fun hp => (HO9.out.touch I6 (.inr (by omega)) T hp).mono (by omega), fun hp => (HB9.out.touch I7 (.inr (by omega)) T hp).mono (by omega), wr.heap.size, by omega, by rw [sizeV]; omega, .inl ⟨I6.mono (by omega) (Nat.le_refl _), I7.mono (Nat.le_refl _) (by rw [sizeV]; omega)⟩⟩, HO9.out.nil, HB9.out.nil, belowV B9 _ (Nat.le_refl _) _ _ _ _⟩
    · have HP : Hid (¬ sealP bs.length ps eph) := fun h => hs h.2.2.2
      have HV : Hid (sealR bs ps eph = ⟨0, [], [], 0, false⟩) := by show _ = _; unfold sealR; rw [if_neg HP.out]
      go_enter Try.func24, Try.ntmps24
      go_upto_region 1 with fail
      rw [← HW.out]
      clear HW
      go_wp2_with fail
      refine (l7Secret_any eph _).mono ?_
      rintro e w1 ⟨rfl, hw⟩
      have hw2 := hw.symm
      subst hw2
      rw [decide_eq_false hs]
      clear hs
      go_wp2
      try simp only [Exit.inBlock, Exit.then]
      refine bodyPost_ret (results_ev rfl _ w.heap.size rfl _ rfl _ _ _ _ _ (heap_set4 HZ.out _ _ _ _)) rfl ?_
      rw [HV.out]
      exact ⟨none, 0, 0, none, 0, 0, rfl, EvW.zero _ _ _ (by rw [sizeV]; exact B0.size), (fun _ => rfl), (fun _ => rfl), belowV B0 _ (Nat.le_refl _) _ _ _ _⟩
  · have z0 : (4000 : Int) < (n : Int) := by omega
    have HP : Hid (¬ sealP bs.length ps eph) := fun h => h0 (by rw [← L1.out]; exact h.1)
    have HV : Hid (sealR bs ps eph = ⟨0, [], [], 0, false⟩) := by show _ = _; unfold sealR; rw [if_neg HP.out]
    clear h0
    go_enter Try.func24, Try.ntmps24
    go_upto_region 1 with fail
    rw [← HW.out]
    clear HW
    go_wp2
    try simp only [Exit.inBlock, Exit.then]
    refine bodyPost_ret (results_ev rfl _ w.heap.size rfl _ rfl _ _ _ _ _ (heap_set4 HZ.out _ _ _ _)) rfl ?_
    rw [HV.out]
    exact ⟨none, 0, 0, none, 0, 0, rfl, EvW.zero _ _ _ (by rw [sizeV]; exact B0.size), (fun _ => rfl), (fun _ => rfl), belowV B0 _ (Nat.le_refl _) _ _ _ _⟩

end Go.Proofs.Ytochaopoggempaa
