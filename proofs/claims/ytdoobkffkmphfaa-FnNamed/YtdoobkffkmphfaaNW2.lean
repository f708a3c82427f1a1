import Derived.Test.YtdoobkffkmphfaaNW1
import Derived.Deep.CutBlock
import Derived.Deep.DeepCutAuto
import Derived.Deep.RegionHeldLaw
import Derived.Lib.QuietBelow
import Derived.BigQuiet
namespace Go.Proofs.Ytdoobkffkmphfaa
open Go.RowKit Go.Sort

set_option maxRecDepth 10000 in
set_option maxHeartbeats 32000000 in
theorem lawNamed_walk (a : Option Addr) (n c : Nat) (bs : List Int) (a' : Option Addr) (n' c' : Nat) (bs' : List Int) (w : World) (hr : Row w a n bs) (hmax : n ≤ 9223372036854775807) (hr' : Row w a' n' bs') (hmax' : n' ≤ 9223372036854775807) :
    Calls Try.prog 3 #[.slice a n c, .slice a' n' c'] w fun e w' => e = .returned (.bool true) ∧ Below w.heap.size w w' := by
  obtain ⟨i0, hi0, hz0, hz1, hz2⟩ := info_parts Try.infoPart
  have H0 : Hid (Row w a n bs) := hr
  have H1 : Hid (∀ W, Below w.heap.size w W → Row W a' n' bs') := fun W hW => hr'.kept hW
  clear hr hr'
  go_enter Try.func3, Try.ntmps3
  go_wp2_with fail
  refine (big_any6 a n c _ hmax).mono ?_
  rintro e w1 ⟨rfl, hw1⟩
  have hw2 := hw1.symm
  subst hw2
  clear hw1
  by_cases hbig : 1048576 < n
  · rw [decide_eq_true hbig]
    go_wp2
    go_ret
    exact ⟨rfl, Below.refl _ _⟩
  rw [decide_eq_false hbig]
  have hn : n ≤ 1048576 := by omega
  clear hmax hbig
  go_wp2_with fail
  refine (big_any6 a' n' c' _ hmax').mono ?_
  rintro e w1 ⟨rfl, hw1⟩
  have hw2 := hw1.symm
  subst hw2
  clear hw1
  by_cases hbig : 1048576 < n'
  · rw [decide_eq_true hbig]
    go_wp2
    go_ret
    exact ⟨rfl, Below.refl _ _⟩
  rw [decide_eq_false hbig]
  have hn' : n' ≤ 1048576 := by omega
  clear hmax' hbig
  go_wp2_with fail
  refine (drawSameName_any a n c bs _ H0.out (by omega)).mono ?_
  rintro e w1 ⟨m, d, ao, xs, m2, d2, a2, ys, rfl, hm, hm2, ho1, ho2, hb1⟩
  unfold nmv
  obtain ⟨w2, hw2⟩ : ∃ w2, w2 = (w1.alloc (.cells #[.slice ao m d] 26)).alloc (.cells #[.slice a2 m2 d2] 26) := ⟨_, rfl⟩
  have e2 : Below w1.heap.size w1 w2 := by rw [hw2]; exact ((Below.refl _ _).alloc (Nat.le_refl _) _).alloc (by simp) _
  have hs2 : w2.heap.size = w1.heap.size + 2 := by rw [hw2]; simp
  have x5 : w2.cell? ⟨w1.heap.size, 0, none⟩ = some (.slice ao m d) := by rw [hw2]; exact (cell_of_row _ _ 0 _ 26 (0, 0) ((((Below.refl _ _).alloc (Nat.le_refl _) _).block w1.heap.size (by simp)).trans (heap_alloc_new w1 _))).trans rfl
  have x6 : w2.cell? ⟨w1.heap.size + 1, 0, none⟩ = some (.slice a2 m2 d2) := by rw [hw2]; have := heap_alloc_new (w1.alloc (.cells #[.slice ao m d] 26)) (.cells #[.slice a2 m2 d2] 26 (0, 0)); exact (cell_of_row _ _ 0 _ 26 (0, 0) (by simpa using this)).trans rfl
  have hc1 := ho1.cap
  have hc2 := ho2.cap
  have N1 : Hid (Nm w2 ao m xs) := (ho1.nm hm).kept e2
  have N2 : Hid (Nm w2 a2 m2 ys) := (ho2.nm hm2).kept e2
  have HB2 : Hid (Below w.heap.size w w2) := hb1.trans (e2.mono hb1.size)
  have HW2 : Hid (_ = _) := hw2
  clear hw2 ho1 ho2 hb1 e2 H0
  go_upto_region 4 with fail
  rw [← HW2.out]
  clear HW2
  go_wp2_with fail
  refine (drawUnder_any a' n' c' bs' _ (H1.out _ HB2.out) (by omega)).mono ?_
  rintro e w3 ⟨m3, d3, a3, us, m4, d4, a4, vs, rfl, hm3, hm4, ho3, ho4, hb3⟩
  unfold nmv
  have hs3 := hb3.size
  have x5' : w3.cell? ⟨w1.heap.size, 0, none⟩ = some (.slice ao m d) := (hb3.cell (p := ⟨w1.heap.size, 0, none⟩) (by show w1.heap.size < w2.heap.size; omega)).trans x5
  have x6' : w3.cell? ⟨w1.heap.size + 1, 0, none⟩ = some (.slice a2 m2 d2) := (hb3.cell (p := ⟨w1.heap.size + 1, 0, none⟩) (by show w1.heap.size + 1 < w2.heap.size; omega)).trans x6
  obtain ⟨w4, hw4⟩ : ∃ w4, w4 = ((w3.alloc (.cells #[.slice a3 m3 d3] 26)).alloc (.cells #[.slice a4 m4 d4] 26)).alloc (.cells #[.slice ao m d, .slice a2 m2 d2, .slice a3 m3 d3, .slice a4 m4 d4] 26) := ⟨_, rfl⟩
  obtain ⟨A, N, C, X, HNL⟩ : ∃ (A : Nat → Option Addr) (N C : Nat → Nat) (X : Nat → List PT), Hid (NL w (w3.heap.size + 2) w1.heap.size (w1.heap.size + 1) w3.heap.size (w3.heap.size + 1) A N C X w4) := by
    have e4 : Below w3.heap.size w3 w4 := by rw [hw4]; exact (((Below.refl _ _).alloc (Nat.le_refl _) _).alloc (by simp) _).alloc (by simp; omega) _
    have hs4 : w4.heap.size = w3.heap.size + 3 := by rw [hw4]; simp
    have hL : w4.heap[w3.heap.size + 2]? = some (.cells #[.slice ao m d, .slice a2 m2 d2, .slice a3 m3 d3, .slice a4 m4 d4] 26 (0, 0)) := by rw [hw4]; have := heap_alloc_new ((w3.alloc (.cells #[.slice a3 m3 d3] 26)).alloc (.cells #[.slice a4 m4 d4] 26)) (.cells #[.slice ao m d, .slice a2 m2 d2, .slice a3 m3 d3, .slice a4 m4 d4] 26 (0, 0)); simpa using this
    have h7 : w4.heap[w3.heap.size]? = some (.cells #[.slice a3 m3 d3] 26 (0, 0)) := by
      rw [hw4]
      refine (((Below.refl (w3.heap.size + 1) _).alloc (by simp) _).block w3.heap.size (by omega)).trans ?_
      exact (((Below.refl _ _).alloc (Nat.le_refl _) _).block w3.heap.size (by simp)).trans (heap_alloc_new w3 _)
    have h8 : w4.heap[w3.heap.size + 1]? = some (.cells #[.slice a4 m4 d4] 26 (0, 0)) := by
      rw [hw4]
      refine (((Below.refl _ _).alloc (Nat.le_refl _) _).block (w3.heap.size + 1) (by simp)).trans ?_
      have := heap_alloc_new (w3.alloc (.cells #[.slice a3 m3 d3] 26)) (.cells #[.slice a4 m4 d4] 26 (0, 0))
      simpa using this
    have n1 := (N1.out.kept hb3).kept e4
    have n2 := (N2.out.kept hb3).kept e4
    have n3 := (ho3.nm hm3).kept e4
    have n4 := (ho4.nm hm4).kept e4
    refine ⟨fun i => match i with | 0 => ao | 1 => a2 | 2 => a3 | _ => a4, fun i => match i with | 0 => m | 1 => m2 | 2 => m3 | _ => m4, fun i => match i with | 0 => d | 1 => d2 | 2 => d3 | _ => d4, fun i => match i with | 0 => xs | 1 => ys | 2 => us | _ => vs, ⟨fun i hi => ?_, fun i hi => ?_, fun i hi => ?_, ?_, ?_, ?_, ?_, by omega, ?_⟩⟩
    · match i, hi with
      | 0, _ => exact n1
      | 1, _ => exact n2
      | 2, _ => exact n3
      | 3, _ => exact n4
    · match i, hi with
      | 0, _ => exact hc1
      | 1, _ => exact hc2
      | 2, _ => exact ho3.cap
      | 3, _ => exact ho4.cap
    · rw [cell_of_row _ _ i _ 26 (0, 0) hL]
      match i, hi with
      | 0, _ | 1, _ | 2, _ | 3, _ => rfl
    · exact (e4.cell (p := ⟨w1.heap.size, 0, none⟩) (by show w1.heap.size < w3.heap.size; omega)).trans x5'
    · exact (e4.cell (p := ⟨w1.heap.size + 1, 0, none⟩) (by show w1.heap.size + 1 < w3.heap.size; omega)).trans x6'
    · exact (cell_of_row _ _ 0 _ 26 (0, 0) h7).trans rfl
    · exact (cell_of_row _ _ 0 _ 26 (0, 0) h8).trans rfl
    · exact HB2.out.trans ((hb3.mono HB2.out.size).trans (e4.mono (by have := HB2.out.size; omega)))
  have HW4 : Hid (_ = _) := hw4
  have hl5 : w1.heap.size < w3.heap.size := by omega
  have hl6 : w1.heap.size + 1 < w3.heap.size := by omega
  clear hw4 ho3 ho4 hb3 N1 N2 HB2 H1 x5 x6
  go_upto_region 6 with fail
  rw [← HW4.out]
  clear HW4 hc1 hc2 x5' x6' hl5 hl6 hs2 hs3 hm hm2 hm3 hm4
  go_wp2
  go_loopw [10] (fun iv wr => ∃ i : Nat, i ≤ 4 ∧ iv = .int .i64 i ∧ Hid (NL w (w3.heap.size + 2) w1.heap.size (w1.heap.size + 1) w3.heap.size (w3.heap.size + 1) A N C X wr)) (fun iv _ => 4 - (intOf iv).toNat)
  case atStart => exact ⟨0, by decide, rfl, HNL⟩
  case round =>
    obtain ⟨i, hi4, rfl, HL⟩ := hrel
    clear HNL
    by_cases hi : i < 4
    · have hii : (i : Int) < 4 := by omega
      have hri := HL.out.row i hi
      have hlL := HL.out.lt.1
      obtain ⟨xb, hxb⟩ : ∃ xb, xb = wr.heap.size := ⟨_, rfl⟩
      obtain ⟨w5, hw5⟩ : ∃ w5, w5 = wr.alloc (.cells #[.slice (A i) (N i) (C i)] 26) := ⟨_, rfl⟩
      have HL5 : Hid (NL w (w3.heap.size + 2) w1.heap.size (w1.heap.size + 1) w3.heap.size (w3.heap.size + 1) A N C X w5) := by rw [hw5]; exact HL.out.on ((Below.refl _ _).alloc (Nat.le_refl _) _)
      have HX5 : Hid (Bxn A N C xb i w5) := by rw [hw5, hxb]; exact bxn_new A N C i wr
      have HW5 : Hid (_ = _) := hw5
      have HXB : Hid (_ = _) := hxb
      clear hw5 hxb
      go_upto_region 10 with fail
      rw [← HW5.out, ← HXB.out]
      clear HW5 HXB HL hri hlL
      obtain ⟨ok, hok⟩ := bool_of (nameP (X i))
      have HOK : Hid (_) := hok
      have hoo : (ok != ok) = false := by simp
      clear hok
      have cx5 := HX5.out.cell
      go_wp2_with fail
      refine (kNameI (A i) (N i) (C i) (X i) _ (HL5.out.nm i hi) ok HOK.out).mono ?_
      rintro e w6 ⟨rfl, hb6⟩
      have HL6 : Hid (NL w (w3.heap.size + 2) w1.heap.size (w1.heap.size + 1) w3.heap.size (w3.heap.size + 1) A N C X w6) := HL5.out.on hb6
      have HX6 : Hid (Bxn A N C xb i w6) := HX5.out.on hb6
      clear HL5 HX5 cx5 hb6
      have cx6 := HX6.out.cell
      go_wp2_with fail
      refine (kNameS (A i) (N i) (C i) (X i) _ (HL6.out.nm i hi) ok HOK.out).mono ?_
      rintro e w7 ⟨rfl, hb7⟩
      have HL7 : Hid (NL w (w3.heap.size + 2) w1.heap.size (w1.heap.size + 1) w3.heap.size (w3.heap.size + 1) A N C X w7) := HL6.out.on hb7
      have HX7 : Hid (Bxn A N C xb i w7) := HX6.out.on hb7
      clear HL6 HX6 cx6 hb7
      have cx7 := HX7.out.cell
      go_wp2_with fail
      refine (kSameI (A i) (N i) (C i) (X i) (A i) (N i) (C i) (X i) _ (HL7.out.nm i hi) (HL7.out.nm i hi) ok (HOK.out.trans (same_refl _).symm)).mono ?_
      rintro e w8 ⟨rfl, hb8⟩
      have HL8 : Hid (NL w (w3.heap.size + 2) w1.heap.size (w1.heap.size + 1) w3.heap.size (w3.heap.size + 1) A N C X w8) := HL7.out.on hb8
      have HX8 : Hid (Bxn A N C xb i w8) := HX7.out.on hb8
      clear HL7 HX7 cx7 hb8
      have cx8 := HX8.out.cell
      go_wp2_with fail
      refine (kUnderI (A i) (N i) (C i) (X i) (A i) (N i) (C i) (X i) _ (HL8.out.nm i hi) (HL8.out.nm i hi) ok (HOK.out.trans (under_refl _).symm)).mono ?_
      rintro e w9 ⟨rfl, hb9⟩
      have HL9 : Hid (NL w (w3.heap.size + 2) w1.heap.size (w1.heap.size + 1) w3.heap.size (w3.heap.size + 1) A N C X w9) := HL8.out.on hb9
      have HX9 : Hid (Bxn A N C xb i w9) := HX8.out.on hb9
      clear HL8 HX8 cx8 hb9
      have cx9 := HX9.out.cell
      go_wp2_with fail
      refine (kUnderI (A i) (N i) (C i) (X i) none 0 0 [] _ (HL9.out.nm i hi) (nm_nil _) ok (HOK.out.trans (under_nil _).symm)).mono ?_
      rintro e w10 ⟨rfl, hb10⟩
      have HL10 : Hid (NL w (w3.heap.size + 2) w1.heap.size (w1.heap.size + 1) w3.heap.size (w3.heap.size + 1) A N C X w10) := HL9.out.on hb10
      have HX10 : Hid (Bxn A N C xb i w10) := HX9.out.on hb10
      clear HL9 HX9 cx9 hb10
      have cx10 := HX10.out.cell
      go_upto_region 13 with fail
      go_upto_block 2 with fail
      go_cut [13] (fun _ wx => Hid (NL w (w3.heap.size + 2) w1.heap.size (w1.heap.size + 1) w3.heap.size (w3.heap.size + 1) A N C X wx) ∧ Hid (Bxn A N C xb i wx))
      case first =>
        go_wp2_with fail
        go_loopw [13] (fun kv wq => ∃ k : Nat, k ≤ N i ∧ kv = .int .i64 k ∧ Hid (NL w (w3.heap.size + 2) w1.heap.size (w1.heap.size + 1) w3.heap.size (w3.heap.size + 1) A N C X wq) ∧ Hid (Bxn A N C xb i wq)) (fun kv _ => N i - (intOf kv).toNat)
        case atStart => exact ⟨0, Nat.zero_le _, rfl, HL10, HX10⟩
        case round =>
          obtain ⟨k, hk, rfl, HLk, HXk⟩ := hrel
          clear HL10 HX10 cx10
          have cx := HXk.out.cell
          have lx := HXk.out.lt
          by_cases hlt : k < N i
          · have hlti : (k : Int) < (N i : Int) := by omega
            rcases ok with _ | _
            · go_wp2_with fail
              go_meet
              exact ⟨HLk, HXk⟩
            · have HNM : Hid (nameP (X i)) := HOK.out.1 rfl
              obtain ⟨b, off, hA, hlb, _, _⟩ := (HLk.out.nm i hi).pts.get k hlt
              have HA : Hid (A i = some ⟨b, off, none⟩) := hA
              clear hA
              have hle := (HLk.out.nm i hi).le
              have hcap := HLk.out.cap i hi
              have hkc : (k : Int) ≤ (C i : Int) := by omega
              have hkc2 : k ≤ C i := by omega
              have HPX : Hid (Pts wr (some ⟨b, off, none⟩) (N i) (X i)) := by show Pts _ _ _ _; rw [← HA.out]; exact (HLk.out.nm i hi).pts
              rw [HA.out] at cx
              have hlen : (X i).length = N i := HPX.out.len
              have HLEN : Hid ((ptc ((X i).take k)).length = k * 2) := by show _ = _; rw [ptc_len, List.length_take]; omega
              have HNEWS : Hid (∀ j u, (ptc ((X i).take k))[j]? = some u → (wr.alloc (.cells #[] 39)).cell? ((⟨b, off, none⟩ : Addr).add j) = some u) := pts_news (HPX.out.kept ((Below.refl _ _).alloc (Nat.le_refl _) _)) k (by omega)
              have HOWN : Hid ((wr.alloc (.cells #[] 39)).ownsRow wr.heap.size 39 2 (.slice (some ⟨wr.heap.size, 0, none⟩) 0 0) 0 []) := World.ownsRow_lit wr #[] 0 (Nat.le_refl _) (Nat.zero_le _) rfl
              have HBA : Hid (wr.heap.size ≤ (wr.alloc (.cells #[] 39)).heap.size) := by show _ ≤ _; simp
              go_upto_region 17 with (at_builtin; refine wpList_append_own _ rfl _ _ 24 rfl wr.heap.size 39 i0 _ 2 24 Try.underlying24 hi0 hz0 hz1 hz2 rfl (by decide) (.slice (some ⟨wr.heap.size, 0, none⟩) 0 0) 0 [] rfl HOWN.out ⟨b, off, none⟩ k (C i) (ptc ((X i).take k)) rfl HLEN.out HNEWS.out (ptc_one _) (by unfold maxLen; omega) (by omega) HBA.out ?_; intro v8 w8 hown8 hgrow8 _; rw [Nat.zero_add, List.nil_append] at hown8; obtain ⟨a8, c8, rfl⟩ := owns_shapeN hown8; have hb8 : Below wr.heap.size wr w8 := ((Below.refl wr.heap.size wr).alloc (Nat.le_refl _) _).grown hgrow8 HBA.out (fun l hl => (HOWN.out.lt l hl).1); have HP8 : Hid (Nm w8 a8 k ((X i).take k)) := row_nm hown8 (by rw [List.length_take]; omega) (by omega) (fun q hq => by rw [take_getD _ _ _ hq]; exact (HLk.out.nm i hi).sz q (by omega)); have HB8 : Hid (Below wr.heap.size wr w8) := hb8; clear hown8 hgrow8 hb8)
              obtain ⟨w9, hw9⟩ : ∃ w9, w9 = w8.alloc (.cells #[.slice a8 k c8] 26) := ⟨_, rfl⟩
              have h89 : Below w8.heap.size w8 w9 := by rw [hw9]; exact (Below.refl _ _).alloc (Nat.le_refl _) _
              have h9 : Below wr.heap.size wr w9 := HB8.out.trans (h89.mono HB8.out.size)
              have cp9 : w9.cell? ⟨w8.heap.size, 0, none⟩ = some (.slice a8 k c8) := by rw [hw9]; exact (cell_of_row _ _ 0 _ 26 (0, 0) (heap_alloc_new w8 _)).trans rfl
              have lp9 : w8.heap.size < w9.heap.size := by rw [hw9]; simp
              have HP9 : Hid (Nm w9 a8 k ((X i).take k)) := HP8.out.kept h89
              have HL9 : Hid (NL w (w3.heap.size + 2) w1.heap.size (w1.heap.size + 1) w3.heap.size (w3.heap.size + 1) A N C X w9) := HLk.out.on h9
              have HX9 : Hid (Bxn A N C xb i w9) := HXk.out.on h9
              have NX9 : Hid (Nm w9 (some ⟨b, off, none⟩) (N i) (X i)) := by show Nm _ _ _ _; rw [← HA.out]; exact HL9.out.nm i hi
              have cx9 := HX9.out.cell
              rw [HA.out] at cx9
              rw [← hw9]
              clear hw9 h89 h9 HP8 HB8 HLk HXk cx lx HPX HLEN HNEWS HOWN HBA
              go_wp2_with fail
              refine (kUnderI (some ⟨b, off, none⟩) (N i) (C i) (X i) a8 k c8 ((X i).take k) _ NX9.out HP9.out true ⟨fun _ => under_take HNM.out k, fun _ => rfl⟩).mono ?_
              rintro e w10 ⟨rfl, hb10⟩
              have cp10 : w10.cell? ⟨w8.heap.size, 0, none⟩ = some (.slice a8 k c8) := (hb10.cell (p := ⟨w8.heap.size, 0, none⟩) lp9).trans cp9
              have HL10 : Hid (NL w (w3.heap.size + 2) w1.heap.size (w1.heap.size + 1) w3.heap.size (w3.heap.size + 1) A N C X w10) := HL9.out.on hb10
              have HX10 : Hid (Bxn A N C xb i w10) := HX9.out.on hb10
              have HP10 : Hid (Nm w10 a8 k ((X i).take k)) := HP9.out.kept hb10
              have NX10 : Hid (Nm w10 (some ⟨b, off, none⟩) (N i) (X i)) := NX9.out.kept hb10
              have cx10 := HX10.out.cell
              rw [HA.out] at cx10
              clear hb10 HL9 HX9 HP9 NX9 cx9 cp9 lp9
              go_wp2_with fail
              refine (kUnderI a8 k c8 ((X i).take k) (some ⟨b, off, none⟩) (N i) (C i) (X i) _ HP10.out NX10.out false ⟨fun e => Bool.noConfusion e, fun h => absurd h (not_under_take (by omega))⟩).mono ?_
              rintro e w11 ⟨rfl, hb11⟩
              have HL11 : Hid (NL w (w3.heap.size + 2) w1.heap.size (w1.heap.size + 1) w3.heap.size (w3.heap.size + 1) A N C X w11) := HL10.out.on hb11
              have HX11 : Hid (Bxn A N C xb i w11) := HX10.out.on hb11
              clear hb11 HL10 HX10 HP10 NX10 cx10 cp10
              go_wp2
              go_roundw
              case rel => exact ⟨k + 1, by omega, by go_num, HL11, HX11⟩
              case measure => simp [intOf]; omega
          · have hge : ¬ ((k : Int) < (N i : Int)) := by omega
            go_wp2_with fail
            go_meet
            exact ⟨HLk, HXk⟩
      case rest =>
        obtain ⟨HLc, HXc⟩ := hcut
        clear HL10 HX10 cx10 HOK hoo
        go_wp2_with fail
        go_loopw [15] (fun jv wq => ∃ j : Nat, j ≤ 4 ∧ jv = .int .i64 j ∧ Hid (NL w (w3.heap.size + 2) w1.heap.size (w1.heap.size + 1) w3.heap.size (w3.heap.size + 1) A N C X wq) ∧ Hid (Bxn A N C xb i wq)) (fun jv _ => 4 - (intOf jv).toNat)
        case atStart => exact ⟨0, by decide, rfl, HLc, HXc⟩
        case round =>
          obtain ⟨j, hj4, rfl, HLj, HXj⟩ := hrel
          clear HLc HXc
          by_cases hj : j < 4
          · have hji : (j : Int) < 4 := by omega
            have hri := HLj.out.row j hj
            have hlL := HLj.out.lt.1
            obtain ⟨yb, hyb⟩ : ∃ yb, yb = wr.heap.size := ⟨_, rfl⟩
            obtain ⟨wy, hwy⟩ : ∃ wy, wy = wr.alloc (.cells #[.slice (A j) (N j) (C j)] 26) := ⟨_, rfl⟩
            have HLn := HLj.out.on ((Below.refl wr.heap.size wr).alloc (Nat.le_refl _) (.cells #[.slice (A j) (N j) (C j)] 26))
            have HXn := HXj.out.on ((Below.refl wr.heap.size wr).alloc (Nat.le_refl _) (.cells #[.slice (A j) (N j) (C j)] 26))
            have HBn := bxn_new A N C j wr
            rw [← hwy] at HLn HXn HBn
            rw [← hyb] at HBn
            have HW5 : Hid (_ = _) := hwy
            have HXB : Hid (_ = _) := hyb
            have HLy : Hid (NL w (w3.heap.size + 2) w1.heap.size (w1.heap.size + 1) w3.heap.size (w3.heap.size + 1) A N C X wy) := HLn
            have HXy : Hid (Bxn A N C xb i wy) := HXn
            have HYy : Hid (Bxn A N C yb j wy) := HBn
            clear hwy hyb HLn HXn HBn
            go_upto_region 23 with fail
            rw [← HW5.out, ← HXB.out]
            clear HW5 HXB hri hlL HLj HXj
            go_cut [133] (fun v wx => v = .bool false ∧ Hid (NL w (w3.heap.size + 2) w1.heap.size (w1.heap.size + 1) w3.heap.size (w3.heap.size + 1) A N C X wx) ∧ Hid (Bxn A N C xb i wx) ∧ Hid (Bxn A N C yb j wx))
            case first =>
              rcases Classical.em (underP (X i) (X j)) with hu | hu
              · have HU : Hid (underP (X i) (X j)) := hu
                rcases Classical.em (underP (X j) (X i)) with hv | hv
                · have HV : Hid (underP (X j) (X i)) := hv
                  have HS1 : Hid (sameP (X i) (X j)) := (same_under _ _).2 ⟨hu, hv⟩
                  have HS2 : Hid (sameP (X j) (X i)) := (same_under _ _).2 ⟨hv, hu⟩
                  clear hu hv
                  have qc0 := cell_regrown HXy.out.cell
                  have qc1 := cell_regrown HYy.out.cell
                  have ca0 : Hid (∀ d os, Calls Try.prog 9 #[.agg #[.slice (A i) (N i) (C i)], .agg #[.slice (A j) (N j) (C j)]] (grow (redrawn wy d) os) fun e w'' => e = .returned (.bool true) ∧ ∃ p : Regrown, w'' = grow (redrawn wy p.d) p.os) := fun d os => Calls.regrown_of (kSameI (A i) (N i) (C i) (X i) (A j) (N j) (C j) (X j) _ ((HLy.out.nm i hi).kept (below_regrown wy d os)) ((HLy.out.nm j hj).kept (below_regrown wy d os)) true (bt HS1.out))
                  have ca1 : Hid (∀ d os, Calls Try.prog 9 #[.agg #[.slice (A j) (N j) (C j)], .agg #[.slice (A i) (N i) (C i)]] (grow (redrawn wy d) os) fun e w'' => e = .returned (.bool true) ∧ ∃ p : Regrown, w'' = grow (redrawn wy p.d) p.os) := fun d os => Calls.regrown_of (kSameI (A j) (N j) (C j) (X j) (A i) (N i) (C i) (X i) _ ((HLy.out.nm j hj).kept (below_regrown wy d os)) ((HLy.out.nm i hi).kept (below_regrown wy d os)) true (bt HS2.out))
                  have ca2 : Hid (∀ d os, Calls Try.prog 10 #[.agg #[.slice (A i) (N i) (C i)], .agg #[.slice (A j) (N j) (C j)]] (grow (redrawn wy d) os) fun e w'' => e = .returned (.bool true) ∧ ∃ p : Regrown, w'' = grow (redrawn wy p.d) p.os) := fun d os => Calls.regrown_of (kUnderI (A i) (N i) (C i) (X i) (A j) (N j) (C j) (X j) _ ((HLy.out.nm i hi).kept (below_regrown wy d os)) ((HLy.out.nm j hj).kept (below_regrown wy d os)) true (bt HU.out))
                  have ca3 : Hid (∀ d os, Calls Try.prog 10 #[.agg #[.slice (A j) (N j) (C j)], .agg #[.slice (A i) (N i) (C i)]] (grow (redrawn wy d) os) fun e w'' => e = .returned (.bool true) ∧ ∃ p : Regrown, w'' = grow (redrawn wy p.d) p.os) := fun d os => Calls.regrown_of (kUnderI (A j) (N j) (C j) (X j) (A i) (N i) (C i) (X i) _ ((HLy.out.nm j hj).kept (below_regrown wy d os)) ((HLy.out.nm i hi).kept (below_regrown wy d os)) true (bt HV.out))
                  refine wp_region_quiet_below (by kernel_rfl) (by kernel_rfl) ?_
                  go_big_quiet_step (fail)
                  go_big_quiet_step (fail)
                  go_big_quiet_step (exact ca0.out _ _)
                  go_big_quiet_step (fail)
                  go_big_quiet_step (fail)
                  go_big_quiet_step (exact ca1.out _ _)
                  go_big_quiet_step (fail)
                  go_big_quiet_step (fail)
                  go_big_quiet_step (fail)
                  go_big_quiet_step (fail)
                  go_big_quiet_step (exact ca0.out _ _)
                  go_big_quiet_step (fail)
                  go_big_quiet_step (fail)
                  go_big_quiet_step (exact ca2.out _ _)
                  go_big_quiet_step (fail)
                  go_big_quiet_step (fail)
                  go_big_quiet_step (fail)
                  go_big_quiet_step (exact ca3.out _ _)
                  go_big_quiet_step (fail)
                  go_big_quiet_step (fail)
                  go_big_quiet_step (fail)
                  refine wpQuiet_nil ?_
                  intro _ hw'
                  obtain ⟨⟨dq, osq⟩, hw''⟩ := hw'
                  subst hw''
                  go_wp2_with fail
                  go_meet
                  exact ⟨rfl, (HLy.out.on (below_regrown wy dq osq)), (HXy.out.on (below_regrown wy dq osq)), (HYy.out.on (below_regrown wy dq osq))⟩
                · have HV : Hid (¬ underP (X j) (X i)) := hv
                  have HS1 : Hid (¬ sameP (X i) (X j)) := fun h => hv ((same_under _ _).1 h).2
                  have HS2 : Hid (¬ sameP (X j) (X i)) := fun h => hv ((same_under _ _).1 h).1
                  clear hu hv
                  have qc0 := cell_regrown HXy.out.cell
                  have qc1 := cell_regrown HYy.out.cell
                  have ca0 : Hid (∀ d os, Calls Try.prog 9 #[.agg #[.slice (A i) (N i) (C i)], .agg #[.slice (A j) (N j) (C j)]] (grow (redrawn wy d) os) fun e w'' => e = .returned (.bool false) ∧ ∃ p : Regrown, w'' = grow (redrawn wy p.d) p.os) := fun d os => Calls.regrown_of (kSameI (A i) (N i) (C i) (X i) (A j) (N j) (C j) (X j) _ ((HLy.out.nm i hi).kept (below_regrown wy d os)) ((HLy.out.nm j hj).kept (below_regrown wy d os)) false (bf HS1.out))
                  have ca1 : Hid (∀ d os, Calls Try.prog 9 #[.agg #[.slice (A j) (N j) (C j)], .agg #[.slice (A i) (N i) (C i)]] (grow (redrawn wy d) os) fun e w'' => e = .returned (.bool false) ∧ ∃ p : Regrown, w'' = grow (redrawn wy p.d) p.os) := fun d os => Calls.regrown_of (kSameI (A j) (N j) (C j) (X j) (A i) (N i) (C i) (X i) _ ((HLy.out.nm j hj).kept (below_regrown wy d os)) ((HLy.out.nm i hi).kept (below_regrown wy d os)) false (bf HS2.out))
                  have ca2 : Hid (∀ d os, Calls Try.prog 10 #[.agg #[.slice (A i) (N i) (C i)], .agg #[.slice (A j) (N j) (C j)]] (grow (redrawn wy d) os) fun e w'' => e = .returned (.bool true) ∧ ∃ p : Regrown, w'' = grow (redrawn wy p.d) p.os) := fun d os => Calls.regrown_of (kUnderI (A i) (N i) (C i) (X i) (A j) (N j) (C j) (X j) _ ((HLy.out.nm i hi).kept (below_regrown wy d os)) ((HLy.out.nm j hj).kept (below_regrown wy d os)) true (bt HU.out))
                  have ca3 : Hid (∀ d os, Calls Try.prog 10 #[.agg #[.slice (A j) (N j) (C j)], .agg #[.slice (A i) (N i) (C i)]] (grow (redrawn wy d) os) fun e w'' => e = .returned (.bool false) ∧ ∃ p : Regrown, w'' = grow (redrawn wy p.d) p.os) := fun d os => Calls.regrown_of (kUnderI (A j) (N j) (C j) (X j) (A i) (N i) (C i) (X i) _ ((HLy.out.nm j hj).kept (below_regrown wy d os)) ((HLy.out.nm i hi).kept (below_regrown wy d os)) false (bf HV.out))
                  refine wp_region_quiet_below (by kernel_rfl) (by kernel_rfl) ?_
                  go_big_quiet_step (fail)
                  go_big_quiet_step (fail)
                  go_big_quiet_step (exact ca0.out _ _)
                  go_big_quiet_step (fail)
                  go_big_quiet_step (fail)
                  go_big_quiet_step (exact ca1.out _ _)
                  go_big_quiet_step (fail)
                  go_big_quiet_step (fail)
                  go_big_quiet_step (fail)
                  go_big_quiet_step (fail)
                  go_big_quiet_step (exact ca0.out _ _)
                  go_big_quiet_step (fail)
                  go_big_quiet_step (fail)
                  go_big_quiet_step (exact ca2.out _ _)
                  go_big_quiet_step (fail)
                  go_big_quiet_step (fail)
                  go_big_quiet_step (fail)
                  go_big_quiet_step (exact ca3.out _ _)
                  go_big_quiet_step (fail)
                  go_big_quiet_step (fail)
                  go_big_quiet_step (fail)
                  refine wpQuiet_nil ?_
                  intro _ hw'
                  obtain ⟨⟨dq, osq⟩, hw''⟩ := hw'
                  subst hw''
                  go_wp2_with fail
                  go_meet
                  exact ⟨rfl, (HLy.out.on (below_regrown wy dq osq)), (HXy.out.on (below_regrown wy dq osq)), (HYy.out.on (below_regrown wy dq osq))⟩
              · have HU : Hid (¬ underP (X i) (X j)) := hu
                have HS1 : Hid (¬ sameP (X i) (X j)) := fun h => hu ((same_under _ _).1 h).1
                have HS2 : Hid (¬ sameP (X j) (X i)) := fun h => hu ((same_under _ _).1 h).2
                clear hu
                have qc0 := cell_regrown HXy.out.cell
                have qc1 := cell_regrown HYy.out.cell
                have ca0 : Hid (∀ d os, Calls Try.prog 9 #[.agg #[.slice (A i) (N i) (C i)], .agg #[.slice (A j) (N j) (C j)]] (grow (redrawn wy d) os) fun e w'' => e = .returned (.bool false) ∧ ∃ p : Regrown, w'' = grow (redrawn wy p.d) p.os) := fun d os => Calls.regrown_of (kSameI (A i) (N i) (C i) (X i) (A j) (N j) (C j) (X j) _ ((HLy.out.nm i hi).kept (below_regrown wy d os)) ((HLy.out.nm j hj).kept (below_regrown wy d os)) false (bf HS1.out))
                have ca1 : Hid (∀ d os, Calls Try.prog 9 #[.agg #[.slice (A j) (N j) (C j)], .agg #[.slice (A i) (N i) (C i)]] (grow (redrawn wy d) os) fun e w'' => e = .returned (.bool false) ∧ ∃ p : Regrown, w'' = grow (redrawn wy p.d) p.os) := fun d os => Calls.regrown_of (kSameI (A j) (N j) (C j) (X j) (A i) (N i) (C i) (X i) _ ((HLy.out.nm j hj).kept (below_regrown wy d os)) ((HLy.out.nm i hi).kept (below_regrown wy d os)) false (bf HS2.out))
                have ca2 : Hid (∀ d os, Calls Try.prog 10 #[.agg #[.slice (A i) (N i) (C i)], .agg #[.slice (A j) (N j) (C j)]] (grow (redrawn wy d) os) fun e w'' => e = .returned (.bool false) ∧ ∃ p : Regrown, w'' = grow (redrawn wy p.d) p.os) := fun d os => Calls.regrown_of (kUnderI (A i) (N i) (C i) (X i) (A j) (N j) (C j) (X j) _ ((HLy.out.nm i hi).kept (below_regrown wy d os)) ((HLy.out.nm j hj).kept (below_regrown wy d os)) false (bf HU.out))
                refine wp_region_quiet_below (by kernel_rfl) (by kernel_rfl) ?_
                go_big_quiet_step (fail)
                go_big_quiet_step (fail)
                go_big_quiet_step (exact ca0.out _ _)
                go_big_quiet_step (fail)
                go_big_quiet_step (fail)
                go_big_quiet_step (exact ca1.out _ _)
                go_big_quiet_step (fail)
                go_big_quiet_step (fail)
                go_big_quiet_step (fail)
                go_big_quiet_step (fail)
                go_big_quiet_step (exact ca0.out _ _)
                go_big_quiet_step (fail)
                go_big_quiet_step (fail)
                go_big_quiet_step (exact ca2.out _ _)
                go_big_quiet_step (fail)
                go_big_quiet_step (fail)
                go_big_quiet_step (fail)
                go_big_quiet_step (fail)
                go_big_quiet_step (fail)
                go_big_quiet_step (fail)
                go_big_quiet_step (fail)
                refine wpQuiet_nil ?_
                intro _ hw'
                obtain ⟨⟨dq, osq⟩, hw''⟩ := hw'
                subst hw''
                go_wp2_with fail
                go_meet
                exact ⟨rfl, (HLy.out.on (below_regrown wy dq osq)), (HXy.out.on (below_regrown wy dq osq)), (HYy.out.on (below_regrown wy dq osq))⟩
            case rest =>
              obtain ⟨rfl, HLc, HXc, HYc⟩ := hcut
              clear HLy HXy HYy
              go_wp2_with fail
              go_loopw [17] (fun kv wq => ∃ k : Nat, k ≤ 4 ∧ kv = .int .i64 k ∧ Hid (NL w (w3.heap.size + 2) w1.heap.size (w1.heap.size + 1) w3.heap.size (w3.heap.size + 1) A N C X wq) ∧ Hid (Bxn A N C xb i wq) ∧ Hid (Bxn A N C yb j wq)) (fun kv _ => 4 - (intOf kv).toNat)
              case atStart => exact ⟨0, by decide, rfl, HLc, HXc, HYc⟩
              case round =>
                obtain ⟨k, hk, rfl, HLk, HXk, HYk⟩ := hrel
                clear HLc HXc HYc
                by_cases hk4 : k < 4
                · have hki : (k : Int) < 4 := by omega
                  have hri := HLk.out.row k hk4
                  have hlL := HLk.out.lt.1
                  obtain ⟨zb, hzb⟩ : ∃ zb, zb = wr.heap.size := ⟨_, rfl⟩
                  obtain ⟨wz, hwz⟩ : ∃ wz, wz = wr.alloc (.cells #[.slice (A k) (N k) (C k)] 26) := ⟨_, rfl⟩
                  have HLn := HLk.out.on ((Below.refl wr.heap.size wr).alloc (Nat.le_refl _) (.cells #[.slice (A k) (N k) (C k)] 26))
                  have HXn := HXk.out.on ((Below.refl wr.heap.size wr).alloc (Nat.le_refl _) (.cells #[.slice (A k) (N k) (C k)] 26))
                  have HYn := HYk.out.on ((Below.refl wr.heap.size wr).alloc (Nat.le_refl _) (.cells #[.slice (A k) (N k) (C k)] 26))
                  have HBn := bxn_new A N C k wr
                  rw [← hwz] at HLn HXn HYn HBn
                  rw [← hzb] at HBn
                  have HW5 : Hid (_ = _) := hwz
                  have HXB : Hid (_ = _) := hzb
                  have HLz : Hid (NL w (w3.heap.size + 2) w1.heap.size (w1.heap.size + 1) w3.heap.size (w3.heap.size + 1) A N C X wz) := HLn
                  have HXz : Hid (Bxn A N C xb i wz) := HXn
                  have HYz : Hid (Bxn A N C yb j wz) := HYn
                  have HZz : Hid (Bxn A N C zb k wz) := HBn
                  clear hwz hzb HLn HXn HYn HBn
                  go_upto_region 29 with fail
                  rw [← HW5.out, ← HXB.out]
                  clear HW5 HXB hri hlL HLk HXk HYk
                  go_cut [173] (fun v wx => v = .bool false ∧ Hid (NL w (w3.heap.size + 2) w1.heap.size (w1.heap.size + 1) w3.heap.size (w3.heap.size + 1) A N C X wx) ∧ Hid (Bxn A N C xb i wx) ∧ Hid (Bxn A N C yb j wx) ∧ Hid (Bxn A N C zb k wx))
                  case first =>
                    rcases Classical.em (sameP (X i) (X j)) with h | h
                    · have S1 : Hid (sameP (X i) (X j)) := h
                      clear h
                      have cx := HXz.out.cell
                      have cy := HYz.out.cell
                      have cz := HZz.out.cell
                      go_wp2_with fail
                      refine (kSameI (A i) (N i) (C i) (X i) (A j) (N j) (C j) (X j) _ (HLz.out.nm i hi) (HLz.out.nm j hj) true (bt S1.out)).mono ?_
                      rintro e wt1 ⟨rfl, hb⟩
                      have HLt1 : Hid (NL w (w3.heap.size + 2) w1.heap.size (w1.heap.size + 1) w3.heap.size (w3.heap.size + 1) A N C X wt1) := HLz.out.on hb
                      have HXt1 : Hid (Bxn A N C xb i wt1) := HXz.out.on hb
                      have HYt1 : Hid (Bxn A N C yb j wt1) := HYz.out.on hb
                      have HZt1 : Hid (Bxn A N C zb k wt1) := HZz.out.on hb
                      clear hb cx cy cz HLz HXz HYz HZz
                      rcases Classical.em (sameP (X j) (X k)) with h | h
                      · have S2 : Hid (sameP (X j) (X k)) := h
                        clear h
                        have S3 : Hid (sameP (X i) (X k)) := same_trans S1.out S2.out
                        have cx := HXt1.out.cell
                        have cy := HYt1.out.cell
                        have cz := HZt1.out.cell
                        go_wp2_with fail
                        refine (kSameI (A j) (N j) (C j) (X j) (A k) (N k) (C k) (X k) _ (HLt1.out.nm j hj) (HLt1.out.nm k hk4) true (bt S2.out)).mono ?_
                        rintro e wt2 ⟨rfl, hb⟩
                        have HLt2 : Hid (NL w (w3.heap.size + 2) w1.heap.size (w1.heap.size + 1) w3.heap.size (w3.heap.size + 1) A N C X wt2) := HLt1.out.on hb
                        have HXt2 : Hid (Bxn A N C xb i wt2) := HXt1.out.on hb
                        have HYt2 : Hid (Bxn A N C yb j wt2) := HYt1.out.on hb
                        have HZt2 : Hid (Bxn A N C zb k wt2) := HZt1.out.on hb
                        clear hb cx cy cz HLt1 HXt1 HYt1 HZt1
                        have cx := HXt2.out.cell
                        have cy := HYt2.out.cell
                        have cz := HZt2.out.cell
                        go_wp2_with fail
                        refine (kSameI (A i) (N i) (C i) (X i) (A k) (N k) (C k) (X k) _ (HLt2.out.nm i hi) (HLt2.out.nm k hk4) true (bt S3.out)).mono ?_
                        rintro e wt3 ⟨rfl, hb⟩
                        have HLt3 : Hid (NL w (w3.heap.size + 2) w1.heap.size (w1.heap.size + 1) w3.heap.size (w3.heap.size + 1) A N C X wt3) := HLt2.out.on hb
                        have HXt3 : Hid (Bxn A N C xb i wt3) := HXt2.out.on hb
                        have HYt3 : Hid (Bxn A N C yb j wt3) := HYt2.out.on hb
                        have HZt3 : Hid (Bxn A N C zb k wt3) := HZt2.out.on hb
                        clear hb cx cy cz HLt2 HXt2 HYt2 HZt2
                        rcases Classical.em (underP (X i) (X j)) with h | h
                        · have U1 : Hid (underP (X i) (X j)) := h
                          clear h
                          have cx := HXt3.out.cell
                          have cy := HYt3.out.cell
                          have cz := HZt3.out.cell
                          go_wp2_with fail
                          refine (kUnderI (A i) (N i) (C i) (X i) (A j) (N j) (C j) (X j) _ (HLt3.out.nm i hi) (HLt3.out.nm j hj) true (bt U1.out)).mono ?_
                          rintro e wt4 ⟨rfl, hb⟩
                          have HLt4 : Hid (NL w (w3.heap.size + 2) w1.heap.size (w1.heap.size + 1) w3.heap.size (w3.heap.size + 1) A N C X wt4) := HLt3.out.on hb
                          have HXt4 : Hid (Bxn A N C xb i wt4) := HXt3.out.on hb
                          have HYt4 : Hid (Bxn A N C yb j wt4) := HYt3.out.on hb
                          have HZt4 : Hid (Bxn A N C zb k wt4) := HZt3.out.on hb
                          clear hb cx cy cz HLt3 HXt3 HYt3 HZt3
                          rcases Classical.em (underP (X j) (X k)) with h | h
                          · have U2 : Hid (underP (X j) (X k)) := h
                            clear h
                            have U3 : Hid (underP (X i) (X k)) := under_trans U1.out U2.out
                            have cx := HXt4.out.cell
                            have cy := HYt4.out.cell
                            have cz := HZt4.out.cell
                            go_wp2_with fail
                            refine (kUnderI (A j) (N j) (C j) (X j) (A k) (N k) (C k) (X k) _ (HLt4.out.nm j hj) (HLt4.out.nm k hk4) true (bt U2.out)).mono ?_
                            rintro e wt5 ⟨rfl, hb⟩
                            have HLt5 : Hid (NL w (w3.heap.size + 2) w1.heap.size (w1.heap.size + 1) w3.heap.size (w3.heap.size + 1) A N C X wt5) := HLt4.out.on hb
                            have HXt5 : Hid (Bxn A N C xb i wt5) := HXt4.out.on hb
                            have HYt5 : Hid (Bxn A N C yb j wt5) := HYt4.out.on hb
                            have HZt5 : Hid (Bxn A N C zb k wt5) := HZt4.out.on hb
                            clear hb cx cy cz HLt4 HXt4 HYt4 HZt4
                            have cx := HXt5.out.cell
                            have cy := HYt5.out.cell
                            have cz := HZt5.out.cell
                            go_wp2_with fail
                            refine (kUnderI (A i) (N i) (C i) (X i) (A k) (N k) (C k) (X k) _ (HLt5.out.nm i hi) (HLt5.out.nm k hk4) true (bt U3.out)).mono ?_
                            rintro e wt6 ⟨rfl, hb⟩
                            have HLt6 : Hid (NL w (w3.heap.size + 2) w1.heap.size (w1.heap.size + 1) w3.heap.size (w3.heap.size + 1) A N C X wt6) := HLt5.out.on hb
                            have HXt6 : Hid (Bxn A N C xb i wt6) := HXt5.out.on hb
                            have HYt6 : Hid (Bxn A N C yb j wt6) := HYt5.out.on hb
                            have HZt6 : Hid (Bxn A N C zb k wt6) := HZt5.out.on hb
                            clear hb cx cy cz HLt5 HXt5 HYt5 HZt5
                            go_wp2_with fail
                            go_meet
                            exact ⟨rfl, HLt6, HXt6, HYt6, HZt6⟩
                          · have U2 : Hid (¬ underP (X j) (X k)) := h
                            clear h
                            have cx := HXt4.out.cell
                            have cy := HYt4.out.cell
                            have cz := HZt4.out.cell
                            go_wp2_with fail
                            refine (kUnderI (A j) (N j) (C j) (X j) (A k) (N k) (C k) (X k) _ (HLt4.out.nm j hj) (HLt4.out.nm k hk4) false (bf U2.out)).mono ?_
                            rintro e wt7 ⟨rfl, hb⟩
                            have HLt7 : Hid (NL w (w3.heap.size + 2) w1.heap.size (w1.heap.size + 1) w3.heap.size (w3.heap.size + 1) A N C X wt7) := HLt4.out.on hb
                            have HXt7 : Hid (Bxn A N C xb i wt7) := HXt4.out.on hb
                            have HYt7 : Hid (Bxn A N C yb j wt7) := HYt4.out.on hb
                            have HZt7 : Hid (Bxn A N C zb k wt7) := HZt4.out.on hb
                            clear hb cx cy cz HLt4 HXt4 HYt4 HZt4
                            go_wp2_with fail
                            go_meet
                            exact ⟨rfl, HLt7, HXt7, HYt7, HZt7⟩
                        · have U1 : Hid (¬ underP (X i) (X j)) := h
                          clear h
                          have cx := HXt3.out.cell
                          have cy := HYt3.out.cell
                          have cz := HZt3.out.cell
                          go_wp2_with fail
                          refine (kUnderI (A i) (N i) (C i) (X i) (A j) (N j) (C j) (X j) _ (HLt3.out.nm i hi) (HLt3.out.nm j hj) false (bf U1.out)).mono ?_
                          rintro e wt8 ⟨rfl, hb⟩
                          have HLt8 : Hid (NL w (w3.heap.size + 2) w1.heap.size (w1.heap.size + 1) w3.heap.size (w3.heap.size + 1) A N C X wt8) := HLt3.out.on hb
                          have HXt8 : Hid (Bxn A N C xb i wt8) := HXt3.out.on hb
                          have HYt8 : Hid (Bxn A N C yb j wt8) := HYt3.out.on hb
                          have HZt8 : Hid (Bxn A N C zb k wt8) := HZt3.out.on hb
                          clear hb cx cy cz HLt3 HXt3 HYt3 HZt3
                          go_wp2_with fail
                          go_meet
                          exact ⟨rfl, HLt8, HXt8, HYt8, HZt8⟩
                      · have S2 : Hid (¬ sameP (X j) (X k)) := h
                        clear h
                        have cx := HXt1.out.cell
                        have cy := HYt1.out.cell
                        have cz := HZt1.out.cell
                        go_wp2_with fail
                        refine (kSameI (A j) (N j) (C j) (X j) (A k) (N k) (C k) (X k) _ (HLt1.out.nm j hj) (HLt1.out.nm k hk4) false (bf S2.out)).mono ?_
                        rintro e wt9 ⟨rfl, hb⟩
                        have HLt9 : Hid (NL w (w3.heap.size + 2) w1.heap.size (w1.heap.size + 1) w3.heap.size (w3.heap.size + 1) A N C X wt9) := HLt1.out.on hb
                        have HXt9 : Hid (Bxn A N C xb i wt9) := HXt1.out.on hb
                        have HYt9 : Hid (Bxn A N C yb j wt9) := HYt1.out.on hb
                        have HZt9 : Hid (Bxn A N C zb k wt9) := HZt1.out.on hb
                        clear hb cx cy cz HLt1 HXt1 HYt1 HZt1
                        rcases Classical.em (underP (X i) (X j)) with h | h
                        · have U1 : Hid (underP (X i) (X j)) := h
                          clear h
                          have cx := HXt9.out.cell
                          have cy := HYt9.out.cell
                          have cz := HZt9.out.cell
                          go_wp2_with fail
                          refine (kUnderI (A i) (N i) (C i) (X i) (A j) (N j) (C j) (X j) _ (HLt9.out.nm i hi) (HLt9.out.nm j hj) true (bt U1.out)).mono ?_
                          rintro e wt10 ⟨rfl, hb⟩
                          have HLt10 : Hid (NL w (w3.heap.size + 2) w1.heap.size (w1.heap.size + 1) w3.heap.size (w3.heap.size + 1) A N C X wt10) := HLt9.out.on hb
                          have HXt10 : Hid (Bxn A N C xb i wt10) := HXt9.out.on hb
                          have HYt10 : Hid (Bxn A N C yb j wt10) := HYt9.out.on hb
                          have HZt10 : Hid (Bxn A N C zb k wt10) := HZt9.out.on hb
                          clear hb cx cy cz HLt9 HXt9 HYt9 HZt9
                          rcases Classical.em (underP (X j) (X k)) with h | h
                          · have U2 : Hid (underP (X j) (X k)) := h
                            clear h
                            have U3 : Hid (underP (X i) (X k)) := under_trans U1.out U2.out
                            have cx := HXt10.out.cell
                            have cy := HYt10.out.cell
                            have cz := HZt10.out.cell
                            go_wp2_with fail
                            refine (kUnderI (A j) (N j) (C j) (X j) (A k) (N k) (C k) (X k) _ (HLt10.out.nm j hj) (HLt10.out.nm k hk4) true (bt U2.out)).mono ?_
                            rintro e wt11 ⟨rfl, hb⟩
                            have HLt11 : Hid (NL w (w3.heap.size + 2) w1.heap.size (w1.heap.size + 1) w3.heap.size (w3.heap.size + 1) A N C X wt11) := HLt10.out.on hb
                            have HXt11 : Hid (Bxn A N C xb i wt11) := HXt10.out.on hb
                            have HYt11 : Hid (Bxn A N C yb j wt11) := HYt10.out.on hb
                            have HZt11 : Hid (Bxn A N C zb k wt11) := HZt10.out.on hb
                            clear hb cx cy cz HLt10 HXt10 HYt10 HZt10
                            have cx := HXt11.out.cell
                            have cy := HYt11.out.cell
                            have cz := HZt11.out.cell
                            go_wp2_with fail
                            refine (kUnderI (A i) (N i) (C i) (X i) (A k) (N k) (C k) (X k) _ (HLt11.out.nm i hi) (HLt11.out.nm k hk4) true (bt U3.out)).mono ?_
                            rintro e wt12 ⟨rfl, hb⟩
                            have HLt12 : Hid (NL w (w3.heap.size + 2) w1.heap.size (w1.heap.size + 1) w3.heap.size (w3.heap.size + 1) A N C X wt12) := HLt11.out.on hb
                            have HXt12 : Hid (Bxn A N C xb i wt12) := HXt11.out.on hb
                            have HYt12 : Hid (Bxn A N C yb j wt12) := HYt11.out.on hb
                            have HZt12 : Hid (Bxn A N C zb k wt12) := HZt11.out.on hb
                            clear hb cx cy cz HLt11 HXt11 HYt11 HZt11
                            go_wp2_with fail
                            go_meet
                            exact ⟨rfl, HLt12, HXt12, HYt12, HZt12⟩
                          · have U2 : Hid (¬ underP (X j) (X k)) := h
                            clear h
                            have cx := HXt10.out.cell
                            have cy := HYt10.out.cell
                            have cz := HZt10.out.cell
                            go_wp2_with fail
                            refine (kUnderI (A j) (N j) (C j) (X j) (A k) (N k) (C k) (X k) _ (HLt10.out.nm j hj) (HLt10.out.nm k hk4) false (bf U2.out)).mono ?_
                            rintro e wt13 ⟨rfl, hb⟩
                            have HLt13 : Hid (NL w (w3.heap.size + 2) w1.heap.size (w1.heap.size + 1) w3.heap.size (w3.heap.size + 1) A N C X wt13) := HLt10.out.on hb
                            have HXt13 : Hid (Bxn A N C xb i wt13) := HXt10.out.on hb
                            have HYt13 : Hid (Bxn A N C yb j wt13) := HYt10.out.on hb
                            have HZt13 : Hid (Bxn A N C zb k wt13) := HZt10.out.on hb
                            clear hb cx cy cz HLt10 HXt10 HYt10 HZt10
                            go_wp2_with fail
                            go_meet
                            exact ⟨rfl, HLt13, HXt13, HYt13, HZt13⟩
                        · have U1 : Hid (¬ underP (X i) (X j)) := h
                          clear h
                          have cx := HXt9.out.cell
                          have cy := HYt9.out.cell
                          have cz := HZt9.out.cell
                          go_wp2_with fail
                          refine (kUnderI (A i) (N i) (C i) (X i) (A j) (N j) (C j) (X j) _ (HLt9.out.nm i hi) (HLt9.out.nm j hj) false (bf U1.out)).mono ?_
                          rintro e wt14 ⟨rfl, hb⟩
                          have HLt14 : Hid (NL w (w3.heap.size + 2) w1.heap.size (w1.heap.size + 1) w3.heap.size (w3.heap.size + 1) A N C X wt14) := HLt9.out.on hb
                          have HXt14 : Hid (Bxn A N C xb i wt14) := HXt9.out.on hb
                          have HYt14 : Hid (Bxn A N C yb j wt14) := HYt9.out.on hb
                          have HZt14 : Hid (Bxn A N C zb k wt14) := HZt9.out.on hb
                          clear hb cx cy cz HLt9 HXt9 HYt9 HZt9
                          go_wp2_with fail
                          go_meet
                          exact ⟨rfl, HLt14, HXt14, HYt14, HZt14⟩
                    · have S1 : Hid (¬ sameP (X i) (X j)) := h
                      clear h
                      have cx := HXz.out.cell
                      have cy := HYz.out.cell
                      have cz := HZz.out.cell
                      go_wp2_with fail
                      refine (kSameI (A i) (N i) (C i) (X i) (A j) (N j) (C j) (X j) _ (HLz.out.nm i hi) (HLz.out.nm j hj) false (bf S1.out)).mono ?_
                      rintro e wt15 ⟨rfl, hb⟩
                      have HLt15 : Hid (NL w (w3.heap.size + 2) w1.heap.size (w1.heap.size + 1) w3.heap.size (w3.heap.size + 1) A N C X wt15) := HLz.out.on hb
                      have HXt15 : Hid (Bxn A N C xb i wt15) := HXz.out.on hb
                      have HYt15 : Hid (Bxn A N C yb j wt15) := HYz.out.on hb
                      have HZt15 : Hid (Bxn A N C zb k wt15) := HZz.out.on hb
                      clear hb cx cy cz HLz HXz HYz HZz
                      rcases Classical.em (underP (X i) (X j)) with h | h
                      · have U1 : Hid (underP (X i) (X j)) := h
                        clear h
                        have cx := HXt15.out.cell
                        have cy := HYt15.out.cell
                        have cz := HZt15.out.cell
                        go_wp2_with fail
                        refine (kUnderI (A i) (N i) (C i) (X i) (A j) (N j) (C j) (X j) _ (HLt15.out.nm i hi) (HLt15.out.nm j hj) true (bt U1.out)).mono ?_
                        rintro e wt16 ⟨rfl, hb⟩
                        have HLt16 : Hid (NL w (w3.heap.size + 2) w1.heap.size (w1.heap.size + 1) w3.heap.size (w3.heap.size + 1) A N C X wt16) := HLt15.out.on hb
                        have HXt16 : Hid (Bxn A N C xb i wt16) := HXt15.out.on hb
                        have HYt16 : Hid (Bxn A N C yb j wt16) := HYt15.out.on hb
                        have HZt16 : Hid (Bxn A N C zb k wt16) := HZt15.out.on hb
                        clear hb cx cy cz HLt15 HXt15 HYt15 HZt15
                        rcases Classical.em (underP (X j) (X k)) with h | h
                        · have U2 : Hid (underP (X j) (X k)) := h
                          clear h
                          have U3 : Hid (underP (X i) (X k)) := under_trans U1.out U2.out
                          have cx := HXt16.out.cell
                          have cy := HYt16.out.cell
                          have cz := HZt16.out.cell
                          go_wp2_with fail
                          refine (kUnderI (A j) (N j) (C j) (X j) (A k) (N k) (C k) (X k) _ (HLt16.out.nm j hj) (HLt16.out.nm k hk4) true (bt U2.out)).mono ?_
                          rintro e wt17 ⟨rfl, hb⟩
                          have HLt17 : Hid (NL w (w3.heap.size + 2) w1.heap.size (w1.heap.size + 1) w3.heap.size (w3.heap.size + 1) A N C X wt17) := HLt16.out.on hb
                          have HXt17 : Hid (Bxn A N C xb i wt17) := HXt16.out.on hb
                          have HYt17 : Hid (Bxn A N C yb j wt17) := HYt16.out.on hb
                          have HZt17 : Hid (Bxn A N C zb k wt17) := HZt16.out.on hb
                          clear hb cx cy cz HLt16 HXt16 HYt16 HZt16
                          have cx := HXt17.out.cell
                          have cy := HYt17.out.cell
                          have cz := HZt17.out.cell
                          go_wp2_with fail
                          refine (kUnderI (A i) (N i) (C i) (X i) (A k) (N k) (C k) (X k) _ (HLt17.out.nm i hi) (HLt17.out.nm k hk4) true (bt U3.out)).mono ?_
                          rintro e wt18 ⟨rfl, hb⟩
                          have HLt18 : Hid (NL w (w3.heap.size + 2) w1.heap.size (w1.heap.size + 1) w3.heap.size (w3.heap.size + 1) A N C X wt18) := HLt17.out.on hb
                          have HXt18 : Hid (Bxn A N C xb i wt18) := HXt17.out.on hb
                          have HYt18 : Hid (Bxn A N C yb j wt18) := HYt17.out.on hb
                          have HZt18 : Hid (Bxn A N C zb k wt18) := HZt17.out.on hb
                          clear hb cx cy cz HLt17 HXt17 HYt17 HZt17
                          go_wp2_with fail
                          go_meet
                          exact ⟨rfl, HLt18, HXt18, HYt18, HZt18⟩
                        · have U2 : Hid (¬ underP (X j) (X k)) := h
                          clear h
                          have cx := HXt16.out.cell
                          have cy := HYt16.out.cell
                          have cz := HZt16.out.cell
                          go_wp2_with fail
                          refine (kUnderI (A j) (N j) (C j) (X j) (A k) (N k) (C k) (X k) _ (HLt16.out.nm j hj) (HLt16.out.nm k hk4) false (bf U2.out)).mono ?_
                          rintro e wt19 ⟨rfl, hb⟩
                          have HLt19 : Hid (NL w (w3.heap.size + 2) w1.heap.size (w1.heap.size + 1) w3.heap.size (w3.heap.size + 1) A N C X wt19) := HLt16.out.on hb
                          have HXt19 : Hid (Bxn A N C xb i wt19) := HXt16.out.on hb
                          have HYt19 : Hid (Bxn A N C yb j wt19) := HYt16.out.on hb
                          have HZt19 : Hid (Bxn A N C zb k wt19) := HZt16.out.on hb
                          clear hb cx cy cz HLt16 HXt16 HYt16 HZt16
                          go_wp2_with fail
                          go_meet
                          exact ⟨rfl, HLt19, HXt19, HYt19, HZt19⟩
                      · have U1 : Hid (¬ underP (X i) (X j)) := h
                        clear h
                        have cx := HXt15.out.cell
                        have cy := HYt15.out.cell
                        have cz := HZt15.out.cell
                        go_wp2_with fail
                        refine (kUnderI (A i) (N i) (C i) (X i) (A j) (N j) (C j) (X j) _ (HLt15.out.nm i hi) (HLt15.out.nm j hj) false (bf U1.out)).mono ?_
                        rintro e wt20 ⟨rfl, hb⟩
                        have HLt20 : Hid (NL w (w3.heap.size + 2) w1.heap.size (w1.heap.size + 1) w3.heap.size (w3.heap.size + 1) A N C X wt20) := HLt15.out.on hb
                        have HXt20 : Hid (Bxn A N C xb i wt20) := HXt15.out.on hb
                        have HYt20 : Hid (Bxn A N C yb j wt20) := HYt15.out.on hb
                        have HZt20 : Hid (Bxn A N C zb k wt20) := HZt15.out.on hb
                        clear hb cx cy cz HLt15 HXt15 HYt15 HZt15
                        go_wp2_with fail
                        go_meet
                        exact ⟨rfl, HLt20, HXt20, HYt20, HZt20⟩
                  case rest =>
                    obtain ⟨rfl, HLd, HXd, HYd, HZd⟩ := hcut
                    clear HLz HXz HYz HZz
                    go_upto_region 31 with fail
                    go_cut [185] (fun v wx => v = .bool false ∧ Hid (NL w (w3.heap.size + 2) w1.heap.size (w1.heap.size + 1) w3.heap.size (w3.heap.size + 1) A N C X wx) ∧ Hid (Bxn A N C xb i wx) ∧ Hid (Bxn A N C yb j wx) ∧ Hid (Bxn A N C zb k wx))
                    case first =>
                      rcases Classical.em (sameP (X i) (X j)) with h | h
                      · have S1 : Hid (sameP (X i) (X j)) := h
                        clear h
                        rcases Classical.em (underP (X i) (X k)) with h | h
                        · have U1 : Hid (underP (X i) (X k)) := h
                          clear h
                          have U2 : Hid (underP (X j) (X k)) := (same_under_iff S1.out _).1 U1.out
                          have qc0 := cell_regrown HXd.out.cell
                          have qc1 := cell_regrown HYd.out.cell
                          have qc2 := cell_regrown HZd.out.cell
                          have ca0 : Hid (∀ d os, Calls Try.prog 9 #[.agg #[.slice (A i) (N i) (C i)], .agg #[.slice (A j) (N j) (C j)]] (grow (redrawn wc d) os) fun e w'' => e = .returned (.bool true) ∧ ∃ p : Regrown, w'' = grow (redrawn wc p.d) p.os) := fun d os => Calls.regrown_of (kSameI (A i) (N i) (C i) (X i) (A j) (N j) (C j) (X j) _ ((HLd.out.nm i hi).kept (below_regrown wc d os)) ((HLd.out.nm j hj).kept (below_regrown wc d os)) true (bt S1.out))
                          have ca1 : Hid (∀ d os, Calls Try.prog 10 #[.agg #[.slice (A i) (N i) (C i)], .agg #[.slice (A k) (N k) (C k)]] (grow (redrawn wc d) os) fun e w'' => e = .returned (.bool true) ∧ ∃ p : Regrown, w'' = grow (redrawn wc p.d) p.os) := fun d os => Calls.regrown_of (kUnderI (A i) (N i) (C i) (X i) (A k) (N k) (C k) (X k) _ ((HLd.out.nm i hi).kept (below_regrown wc d os)) ((HLd.out.nm k hk4).kept (below_regrown wc d os)) true (bt U1.out))
                          have ca2 : Hid (∀ d os, Calls Try.prog 10 #[.agg #[.slice (A j) (N j) (C j)], .agg #[.slice (A k) (N k) (C k)]] (grow (redrawn wc d) os) fun e w'' => e = .returned (.bool true) ∧ ∃ p : Regrown, w'' = grow (redrawn wc p.d) p.os) := fun d os => Calls.regrown_of (kUnderI (A j) (N j) (C j) (X j) (A k) (N k) (C k) (X k) _ ((HLd.out.nm j hj).kept (below_regrown wc d os)) ((HLd.out.nm k hk4).kept (below_regrown wc d os)) true (bt U2.out))
                          refine wp_region_quiet_below (by kernel_rfl) (by kernel_rfl) ?_
                          go_big_quiet_step (fail)
                          go_big_quiet_step (fail)
                          go_big_quiet_step (exact ca0.out _ _)
                          go_big_quiet_step (fail)
                          go_big_quiet_step (fail)
                          go_big_quiet_step (fail)
                          go_big_quiet_step (exact ca1.out _ _)
                          go_big_quiet_step (fail)
                          go_big_quiet_step (fail)
                          go_big_quiet_step (exact ca2.out _ _)
                          go_big_quiet_step (fail)
                          go_big_quiet_step (fail)
                          refine wpQuiet_nil ?_
                          intro _ hw'
                          obtain ⟨⟨dq, osq⟩, hw''⟩ := hw'
                          subst hw''
                          go_wp2_with fail
                          go_meet
                          exact ⟨rfl, (HLd.out.on (below_regrown wc dq osq)), (HXd.out.on (below_regrown wc dq osq)), (HYd.out.on (below_regrown wc dq osq)), (HZd.out.on (below_regrown wc dq osq))⟩
                        · have U1 : Hid (¬ underP (X i) (X k)) := h
                          clear h
                          have U2 : Hid (¬ underP (X j) (X k)) := fun h => U1.out ((same_under_iff S1.out _).2 h)
                          have qc0 := cell_regrown HXd.out.cell
                          have qc1 := cell_regrown HYd.out.cell
                          have qc2 := cell_regrown HZd.out.cell
                          have ca0 : Hid (∀ d os, Calls Try.prog 9 #[.agg #[.slice (A i) (N i) (C i)], .agg #[.slice (A j) (N j) (C j)]] (grow (redrawn wc d) os) fun e w'' => e = .returned (.bool true) ∧ ∃ p : Regrown, w'' = grow (redrawn wc p.d) p.os) := fun d os => Calls.regrown_of (kSameI (A i) (N i) (C i) (X i) (A j) (N j) (C j) (X j) _ ((HLd.out.nm i hi).kept (below_regrown wc d os)) ((HLd.out.nm j hj).kept (below_regrown wc d os)) true (bt S1.out))
                          have ca1 : Hid (∀ d os, Calls Try.prog 10 #[.agg #[.slice (A i) (N i) (C i)], .agg #[.slice (A k) (N k) (C k)]] (grow (redrawn wc d) os) fun e w'' => e = .returned (.bool false) ∧ ∃ p : Regrown, w'' = grow (redrawn wc p.d) p.os) := fun d os => Calls.regrown_of (kUnderI (A i) (N i) (C i) (X i) (A k) (N k) (C k) (X k) _ ((HLd.out.nm i hi).kept (below_regrown wc d os)) ((HLd.out.nm k hk4).kept (below_regrown wc d os)) false (bf U1.out))
                          have ca2 : Hid (∀ d os, Calls Try.prog 10 #[.agg #[.slice (A j) (N j) (C j)], .agg #[.slice (A k) (N k) (C k)]] (grow (redrawn wc d) os) fun e w'' => e = .returned (.bool false) ∧ ∃ p : Regrown, w'' = grow (redrawn wc p.d) p.os) := fun d os => Calls.regrown_of (kUnderI (A j) (N j) (C j) (X j) (A k) (N k) (C k) (X k) _ ((HLd.out.nm j hj).kept (below_regrown wc d os)) ((HLd.out.nm k hk4).kept (below_regrown wc d os)) false (bf U2.out))
                          refine wp_region_quiet_below (by kernel_rfl) (by kernel_rfl) ?_
                          go_big_quiet_step (fail)
                          go_big_quiet_step (fail)
                          go_big_quiet_step (exact ca0.out _ _)
                          go_big_quiet_step (fail)
                          go_big_quiet_step (fail)
                          go_big_quiet_step (fail)
                          go_big_quiet_step (exact ca1.out _ _)
                          go_big_quiet_step (fail)
                          go_big_quiet_step (fail)
                          go_big_quiet_step (exact ca2.out _ _)
                          go_big_quiet_step (fail)
                          go_big_quiet_step (fail)
                          refine wpQuiet_nil ?_
                          intro _ hw'
                          obtain ⟨⟨dq, osq⟩, hw''⟩ := hw'
                          subst hw''
                          go_wp2_with fail
                          go_meet
                          exact ⟨rfl, (HLd.out.on (below_regrown wc dq osq)), (HXd.out.on (below_regrown wc dq osq)), (HYd.out.on (below_regrown wc dq osq)), (HZd.out.on (below_regrown wc dq osq))⟩
                      · have S1 : Hid (¬ sameP (X i) (X j)) := h
                        clear h
                        have qc0 := cell_regrown HXd.out.cell
                        have qc1 := cell_regrown HYd.out.cell
                        have qc2 := cell_regrown HZd.out.cell
                        have ca0 : Hid (∀ d os, Calls Try.prog 9 #[.agg #[.slice (A i) (N i) (C i)], .agg #[.slice (A j) (N j) (C j)]] (grow (redrawn wc d) os) fun e w'' => e = .returned (.bool false) ∧ ∃ p : Regrown, w'' = grow (redrawn wc p.d) p.os) := fun d os => Calls.regrown_of (kSameI (A i) (N i) (C i) (X i) (A j) (N j) (C j) (X j) _ ((HLd.out.nm i hi).kept (below_regrown wc d os)) ((HLd.out.nm j hj).kept (below_regrown wc d os)) false (bf S1.out))
                        refine wp_region_quiet_below (by kernel_rfl) (by kernel_rfl) ?_
                        go_big_quiet_step (fail)
                        go_big_quiet_step (fail)
                        go_big_quiet_step (exact ca0.out _ _)
                        go_big_quiet_step (fail)
                        go_big_quiet_step (fail)
                        go_big_quiet_step (fail)
                        go_big_quiet_step (fail)
                        go_big_quiet_step (fail)
                        go_big_quiet_step (fail)
                        go_big_quiet_step (fail)
                        go_big_quiet_step (fail)
                        go_big_quiet_step (fail)
                        refine wpQuiet_nil ?_
                        intro _ hw'
                        obtain ⟨⟨dq, osq⟩, hw''⟩ := hw'
                        subst hw''
                        go_wp2_with fail
                        go_meet
                        exact ⟨rfl, (HLd.out.on (below_regrown wc dq osq)), (HXd.out.on (below_regrown wc dq osq)), (HYd.out.on (below_regrown wc dq osq)), (HZd.out.on (below_regrown wc dq osq))⟩
                    case rest =>
                      obtain ⟨rfl, HLe, HXe, HYe, HZe⟩ := hcut
                      clear HLd HXd HYd HZd
                      go_wp2
                      go_roundw
                      case rel => exact ⟨k + 1, by omega, by go_num, HLe, HXe, HYe⟩
                      case measure => simp [intOf]; omega
                · have hke : ¬ ((k : Int) < 4) := by omega
                  go_wp2
                  go_roundw
                  case rel => exact ⟨j + 1, by omega, by go_num, HLk, HXk⟩
                  case measure => simp [intOf]; omega
          · have hje : ¬ ((j : Int) < 4) := by omega
            go_wp2
            go_roundw
            case rel => exact ⟨i + 1, by omega, by go_num, HLj⟩
            case measure => simp [intOf]; omega
    · have hie : ¬ ((i : Int) < 4) := by omega
      obtain ⟨s, hs⟩ := bool_of (sameP (X 0) (X 1))
      obtain ⟨u, hu⟩ := bool_of (underP (X 2) (X 3))
      have HS : Hid (s = true ↔ sameP (X 0) (X 1)) := hs
      have HU : Hid (u = true ↔ underP (X 2) (X 3)) := hu
      have hss : (s == s) = true := by simp
      have huu : (u == u) = true := by simp
      clear hs hu
      have qc0 := cell_regrown HL.out.c5
      have qc1 := cell_regrown HL.out.c6
      have qc2 := cell_regrown HL.out.c7
      have qc3 := cell_regrown HL.out.c8
      have ca0 : Hid (∀ d os, Calls Try.prog 11 #[] (grow (redrawn wr d) os) fun e w'' => e = .returned (.bool true) ∧ ∃ p : Regrown, w'' = grow (redrawn wr p.d) p.os) := fun d os => Calls.regrown_of (lives_any _)
      have ca1 : Hid (∀ d os, Calls Try.prog 9 #[.agg #[.slice (A 0) (N 0) (C 0)], .agg #[.slice (A 1) (N 1) (C 1)]] (grow (redrawn wr d) os) fun e w'' => e = .returned (.bool s) ∧ ∃ p : Regrown, w'' = grow (redrawn wr p.d) p.os) := fun d os => Calls.regrown_of (kSameI (A 0) (N 0) (C 0) (X 0) (A 1) (N 1) (C 1) (X 1) _ ((HL.out.nm 0 (by decide)).kept (below_regrown wr d os)) ((HL.out.nm 1 (by decide)).kept (below_regrown wr d os)) s HS.out)
      have ca2 : Hid (∀ d os, Calls Try.prog 12 #[.agg #[.slice (A 0) (N 0) (C 0)], .agg #[.slice (A 1) (N 1) (C 1)]] (grow (redrawn wr d) os) fun e w'' => e = .returned (.bool s) ∧ ∃ p : Regrown, w'' = grow (redrawn wr p.d) p.os) := fun d os => Calls.regrown_of (kSameS (A 0) (N 0) (C 0) (X 0) (A 1) (N 1) (C 1) (X 1) _ ((HL.out.nm 0 (by decide)).kept (below_regrown wr d os)) ((HL.out.nm 1 (by decide)).kept (below_regrown wr d os)) s HS.out)
      have ca3 : Hid (∀ d os, Calls Try.prog 10 #[.agg #[.slice (A 2) (N 2) (C 2)], .agg #[.slice (A 3) (N 3) (C 3)]] (grow (redrawn wr d) os) fun e w'' => e = .returned (.bool u) ∧ ∃ p : Regrown, w'' = grow (redrawn wr p.d) p.os) := fun d os => Calls.regrown_of (kUnderI (A 2) (N 2) (C 2) (X 2) (A 3) (N 3) (C 3) (X 3) _ ((HL.out.nm 2 (by decide)).kept (below_regrown wr d os)) ((HL.out.nm 3 (by decide)).kept (below_regrown wr d os)) u HU.out)
      have ca4 : Hid (∀ d os, Calls Try.prog 13 #[.agg #[.slice (A 2) (N 2) (C 2)], .agg #[.slice (A 3) (N 3) (C 3)]] (grow (redrawn wr d) os) fun e w'' => e = .returned (.bool u) ∧ ∃ p : Regrown, w'' = grow (redrawn wr p.d) p.os) := fun d os => Calls.regrown_of (kUnderS (A 2) (N 2) (C 2) (X 2) (A 3) (N 3) (C 3) (X 3) _ ((HL.out.nm 2 (by decide)).kept (below_regrown wr d os)) ((HL.out.nm 3 (by decide)).kept (below_regrown wr d os)) u HU.out)
      go_upto_region 33 with fail
      refine wp_region_quiet_below (by kernel_rfl) (by kernel_rfl) ?_
      repeat (go_big_quiet_step (first | exact ca0.out _ _ | exact ca1.out _ _ | exact ca2.out _ _ | exact ca3.out _ _ | exact ca4.out _ _))
      refine wpQuiet_nil ?_
      intro _ hw'
      obtain ⟨⟨dq, osq⟩, hw''⟩ := hw'
      subst hw''
      go_wp2
      go_ret
      exact ⟨rfl, HL.out.below.trans ((below_regrown wr dq osq).mono HL.out.below.size)⟩

end Go.Proofs.Ytdoobkffkmphfaa
