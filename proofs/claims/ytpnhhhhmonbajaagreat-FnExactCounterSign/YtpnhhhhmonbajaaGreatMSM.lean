import Derived.Test.YtpnhhhhmonbajaaGreatQWT1
import Derived.Test.YtpnhhhhmonbajaaGreatMHs
import Derived.Test.YtpnhhhhmonbajaaGreatMRJ
import Derived.Deep.DeepCutAuto
import Derived.Test.YtpnhhhhmonbajaaGreatMSC
set_option linter.unusedVariables false
namespace Go.Proofs.YtpnhhhhmonbajaaGreat
open Go.RowKit Go.Sort

theorem kids_leaf (W : World) (x : It) (h : x.kids = []) : Kids 1 W none 0 x.kids := by
  rw [h]
  exact ⟨rfl, by decide, fun k hk => absurd hk (Nat.not_lt_zero _)⟩
theorem enc_leaf (r : Nat) (t : Int) (bs : List Int) (h0 : 1 ≤ t) (h1 : t ≤ 30) (hb : bs.length ≤ 100) : ∃ l, enc (r + 1) (.mk 0 t false bs []) = some l ∧ l.length ≤ 120 := by
  have hs : It.shape (.mk 0 t false bs []) = true := by
    unfold It.shape
    simp [It.cls, It.tag, It.cons, It.kids]
    omega
  have hi : innerBy (enc r) (.mk 0 t false bs []) = some bs := by
    unfold innerBy
    rw [if_neg (by simp [It.cons]), if_pos (by simp [It.body]; omega)]
    rfl
  have hh := headL_len (.mk 0 t false bs []) bs.length ⟨by simp [It.tag]; omega, by simp [It.tag]; omega⟩
  exact ⟨_, enc_some r _ bs hs hi (by rw [List.length_append]; omega), by rw [List.length_append]; omega⟩

theorem numberItem_agg (n : Int) (w : World) (h0 : -9223372036854775808 ≤ n) (h1 : n ≤ 9223372036854775807) :
    Calls Tryz.prog 69 #[.int .i64 n] w fun e w' => ∃ g k, e = .returned (.agg #[.int .i64 0, .int .i64 2, .bool false, .slice (some ⟨g, k, none⟩) (wsz n) (wsz n), .slice none 0 0]) ∧ w.heap.size ≤ g ∧ Row w' (some ⟨g, k, none⟩) (wsz n) (wbL n) ∧ Below w.heap.size w w' := numberItem_any n w h0 h1

theorem ownItem_agg (tag : Int) (a : Option Addr) (n c : Nat) (w : World) :
    Calls Tryz.prog 67 #[.int .i64 tag, .slice a n c] w fun e w' => e = .returned (.agg #[.int .i64 1, .int .i64 tag, .bool true, .slice none 0 0, .slice a n c]) ∧ Below w.heap.size w w' := ownItem_any tag a n c [] w

theorem itemBytes_agg (tag : Int) (a : Option Addr) (n c : Nat) (ks : List It) (l : List Int) (w : World) (hk : Kids 2 w a n ks) (hl : enc 12 (boxI tag ks) = some l) :
    Calls Tryz.prog 66 #[.agg #[.int .i64 1, .int .i64 tag, .bool true, .slice none 0 0, .slice a n c]] w fun e w' => ∃ a' c', e = .returned (.tuple #[.slice a' l.length c', .bool true]) ∧ Own w.heap.size w' a' l.length c' l ∧ Below w.heap.size w w' := by
  refine Calls.mono (implItemBytes_any 2 (boxI tag ks) none 0 0 a n c w ⟨rfl, fun k hk => absurd hk (Nat.not_lt_zero _), by simp [boxI, It.body]⟩ (fun _ => rfl) (by decide) hk) ?_
  rintro e w1 ⟨hans, hb1⟩
  rcases hans with ⟨a2, n2, c2, bs2, rfl, he2, ho2⟩ | ⟨rfl, he2⟩
  · have e3 := he2.out
    rw [hl] at e3
    simp at e3
    subst e3
    have hn := ho2.toRow.len
    subst hn
    exact ⟨a2, c2, rfl, ho2, hb1⟩
  · have e3 := he2.out
    rw [hl] at e3
    cases e3

theorem kids_two (X : World) (T : Nat) (x1 x2 : It) (a1 a2 : Option Addr) (n1 c1 n2 c2 : Nat)
    (h1 : Row X a1 n1 x1.body) (h2 : Row X a2 n2 x2.body) (e1 : a1 = none → c1 = 0) (e2 : a2 = none → c2 = 0)
    (m1 : n1 ≤ 5000) (m2 : n2 ≤ 1000) (k1 : x1.kids = []) (k2 : x2.kids = []) :
    Kids 2 (X.alloc (.cells #[.int .i64 x1.cls, .int .i64 x1.tag, .bool x1.cons, .slice a1 n1 c1, .slice none 0 0, .int .i64 x2.cls, .int .i64 x2.tag, .bool x2.cons, .slice a2 n2 c2, .slice none 0 0] T)) (some ⟨X.heap.size, 0, none⟩) 2 [x1, x2] := by
  have hb : Below X.heap.size X (X.alloc (.cells #[.int .i64 x1.cls, .int .i64 x1.tag, .bool x1.cons, .slice a1 n1 c1, .slice none 0 0, .int .i64 x2.cls, .int .i64 x2.tag, .bool x2.cons, .slice a2 n2 c2, .slice none 0 0] T)) := (Below.refl _ _).alloc (Nat.le_refl _) _
  have hc := fun j => cell_of_row _ X.heap.size j _ T (0, 0) (heap_alloc_new X (.cells #[.int .i64 x1.cls, .int .i64 x1.tag, .bool x1.cons, .slice a1 n1 c1, .slice none 0 0, .int .i64 x2.cls, .int .i64 x2.tag, .bool x2.cons, .slice a2 n2 c2, .slice none 0 0] T))
  refine ⟨rfl, by decide, fun k hk => ⟨X.heap.size, 0, rfl, by simp, ?_⟩⟩
  rcases (show k = 0 ∨ k = 1 by omega) with rfl | rfl
  · exact ⟨a1, n1, c1, none, 0, 0, (hc 0).trans rfl, (hc 1).trans rfl, (hc 2).trans rfl, (hc 3).trans rfl, (hc 4).trans rfl, h1.kept hb, e1, by omega, kids_leaf _ x1 k1⟩
  · exact ⟨a2, n2, c2, none, 0, 0, (hc 5).trans rfl, (hc 6).trans rfl, (hc 7).trans rfl, (hc 8).trans rfl, (hc 9).trans rfl, h2.kept hb, e2, by omega, kids_leaf _ x2 k2⟩
theorem enc_leafB (r : Nat) (t : Int) (bs : List Int) (h0 : 1 ≤ t) (h1 : t ≤ 30) (hb : bs.length ≤ 4000) : ∃ l, enc (r + 1) (.mk 0 t false bs []) = some l ∧ l.length ≤ 4020 := by
  have hs : It.shape (.mk 0 t false bs []) = true := by
    unfold It.shape
    simp [It.cls, It.tag, It.cons, It.kids]
    omega
  have hi : innerBy (enc r) (.mk 0 t false bs []) = some bs := by
    unfold innerBy
    rw [if_neg (by simp [It.cons]), if_pos (by simp [It.body]; omega)]
    rfl
  have hh := headL_len (.mk 0 t false bs []) bs.length ⟨by simp [It.tag]; omega, by simp [It.tag]; omega⟩
  exact ⟨_, enc_some r _ bs hs hi (by rw [List.length_append]; omega), by rw [List.length_append]; omega⟩
theorem enc_box2 (r : Nat) (tag : Int) (x1 x2 : It) (p1 p2 : List Int) (h0 : 1 ≤ tag) (h1 : tag ≤ 30) (e1 : enc r x1 = some p1) (e2 : enc r x2 = some p2) (l1 : p1.length ≤ 4020) (l2 : p2.length ≤ 120) :
    ∃ l, enc (r + 1) (boxI tag [x1, x2]) = some l ∧ l.length ≤ 4200 := by
  have hs : It.shape (boxI tag [x1, x2]) = true := by
    unfold It.shape boxI
    simp [It.cls, It.tag, It.cons, It.body]
    omega
  have hi : innerBy (enc r) (boxI tag [x1, x2]) = some (p1 ++ p2) := by
    unfold innerBy boxI
    simp only [It.cons, It.kids, encK, e1, e2]
    simp
    exact ⟨by omega, by omega⟩
  have hh := headL_len (boxI tag [x1, x2]) (p1 ++ p2).length ⟨by simp [boxI, It.tag]; omega, by simp [boxI, It.tag]; omega⟩
  have hlen : (p1 ++ p2).length ≤ 4140 := by simp; omega
  exact ⟨_, enc_some r _ _ hs hi (by rw [List.length_append]; omega), by rw [List.length_append]; omega⟩
/-- What a signer signs. -/
def sgI (tag : Int) (ws : List Int) (at2 : Int) : It := boxI tag [bytI ws, numI at2]
theorem sgI_enc (tag : Int) (ws : List Int) (at2 : Int) (h0 : 1 ≤ tag) (h1 : tag ≤ 30) (hw : ws.length ≤ 4000) : ∃ l, enc 12 (sgI tag ws at2) = some l ∧ l.length ≤ 4200 := by
  obtain ⟨p1, e1, l1⟩ := enc_leafB 10 4 ws (by decide) (by decide) hw
  obtain ⟨p2, e2, l2⟩ := enc_leaf 10 2 (wbL at2) (by decide) (by decide) (by rw [wbL_len]; have := (wsz_bd at2).2; omega)
  exact enc_box2 11 tag _ _ p1 p2 h0 h1 e1 e2 l1 l2
def sgB (tag : Int) (ws : List Int) (at2 : Int) : List Int := (enc 12 (sgI tag ws at2)).getD []
theorem sgB_enc (tag : Int) (ws : List Int) (at2 : Int) (h0 : 1 ≤ tag) (h1 : tag ≤ 30) (hw : ws.length ≤ 4000) : enc 12 (sgI tag ws at2) = some (sgB tag ws at2) ∧ (sgB tag ws at2).length ≤ 4200 := by
  obtain ⟨l, hl, hll⟩ := sgI_enc tag ws at2 h0 h1 hw
  unfold sgB
  rw [hl]
  exact ⟨rfl, hll⟩

set_option maxRecDepth 10000 in
set_option maxHeartbeats 1000000 in
theorem l2LeafB_any (tag : Int) (a : Option Addr) (n c : Nat) (bs : List Int) (w : World) (h : Row w a n bs) (hc : a = none → c = 0) (hn : n ≤ 5000) :
    Calls Tryz.prog 80 #[.int .i64 0, .int .i64 tag, .slice a n c] w fun e w' => ∃ a' c', e = .returned (itv (.mk 0 tag false bs []) a' n c' none 0 0) ∧ Own (w.heap.size + 1) w' a' n c' bs ∧ Below w.heap.size w w' := by
  obtain ⟨i0, hi, hz0, hz1, hz2⟩ := info_parts Tryz.info5
  have hbx := box5_below w
  have hnx := box5_new w
  have hsx := box5_size w
  have hal : Below (box5 w).heap.size (box5 w) ((box5 w).alloc (.cells #[] 5)) := (Below.refl _ _).alloc (Nat.le_refl _) _
  have hor0 : Own (w.heap.size + 1) ((box5 w).alloc (.cells #[] 5)) (some ⟨w.heap.size + 1, 0, none⟩) 0 0 [] := own_zero _ _ _ (by rw [hsx]) (by rw [hsx]; exact Nat.le_refl _)
  have hB1 : Below w.heap.size w ((box5 w).alloc (.cells #[] 5)) := hbx.trans (hal.mono hbx.size)
  have hn1 := (hal.block _ (by omega)).trans hnx
  have HR : Hid (Row ((box5 w).alloc (.cells #[] 5)) a n bs) := h.kept (hB1.mono (Nat.le_refl _))
  have HN : Hid (_) := hn1
  have hsz1 : ((box5 w).alloc (.cells #[] 5)).heap.size = w.heap.size + 2 := by simp [hsx]
  have HO : Hid (_) := hor0
  have HB1 : Hid (_) := hB1
  clear h hal hbx hnx hn1 hor0 hB1
  unfold box5 at HR HN HO HB1 hsz1 hsx
  go_enter Tryz.func80, Tryz.ntmps80
  go_wp2_with (at_builtin; refine wpList_append_row _ rfl (.tmp 9) (.tmp 10) 22 rfl (w.heap.size + 1) i0 Tryz.underlying22 hi hz0 hz1 hz2 _ _ _ rfl HO.out.row a n c bs rfl HR.out hc (by omega) (by rw [hsz1]; omega) ?_; intro v1 w1 hv1 hg1; obtain ⟨a1, c1, rfl, ho1⟩ := own_appended (xs := []) (ys := bs) hv1 HO.out.byte HR.out.byte; have hb1 : Below w.heap.size w w1 := below_appended HB1.out HB1.out.size (HO.out.mono (by omega)).row hg1; have ho1' : Own (w.heap.size + 1) w1 a1 n c1 bs := (by simpa using ho1); have hn2 : w1.heap[w.heap.size]? = some (.cells #[.int .i64 0, .int .i64 0, .bool false, .slice none 0 0, .slice none 0 0] 96 (0, 0)) := (hg1.block w.heap.size (by rw [hsz1]; omega) (by show some w.heap.size ≠ some (w.heap.size + 1); simp)).trans HN.out; obtain ⟨_, x0, x1, x2, x3, x4, y0, y1, y2, y3, y4⟩ := Box5.of hn2; have HN2 : Hid (_) := hn2; have HB2 : Hid (Below w.heap.size w w1) := hb1; have HO2 : Hid (Own (w.heap.size + 1) w1 a1 n c1 bs) := ho1'; have hs1 := hg1.size; clear hn2 hb1 ho1 ho1' hv1 hg1)
  try simp only [Exit.inBlock, Exit.then]
  refine bodyPost_ret (results_it rfl _ w.heap.size rfl _ _ _ _ _ _ (put5_heap HN2.out _ _ _ _ _)) rfl ⟨a1, c1, by first | rfl | simp [itv, It.cls, It.tag, It.cons], ?_, ?_⟩
  · exact HO2.out.touch5 (put5_touch w1 w.heap.size _ _ _ _ _) (by omega)
  · exact HB2.out.trans ((put5_touch w1 w.heap.size _ _ _ _ _).below (Nat.le_refl _) HB2.out.size)

set_option maxRecDepth 10000 in
set_option maxHeartbeats 1000000 in
theorem l9BytesB_any (a : Option Addr) (n c : Nat) (bs : List Int) (w : World) (h : Row w a n bs) (hc : a = none → c = 0) (hn : n ≤ 5000) :
    Calls Tryz.prog 55 #[.slice a n c] w fun e w' => ∃ a c, e = .returned (itv (bytI bs) a n c none 0 0) ∧ Own (w.heap.size + 1) w' a n c bs ∧ Below w.heap.size w w' := by
  have hbx := box5_below w
  have hnx := box5_new w
  have hsx := box5_size w
  obtain ⟨wb, hwb⟩ : ∃ wb, wb = box5 w := ⟨_, rfl⟩
  rw [← hwb] at hbx hnx hsx
  unfold box5 at hwb
  go_enter Tryz.func55, Tryz.ntmps55
  go_wp2_with fail
  rw [← hwb]
  clear hwb
  have hnx1 := hnx
  have B1 := hbx
  refine (l2LeafB_any 4 a n c bs _ (h.kept hbx) hc hn).mono ?_
  rintro e w2 ⟨a2, c2, rfl, ho2, hb2⟩
  have hs2 := hb2.size
  have hn1 := (hb2.block _ (by omega)).trans (hnx1)
  have B2 : Below w.heap.size w w2 := B1.trans (hb2.mono (by omega))
  obtain ⟨_, x0, x1, x2, x3, x4, y0, y1, y2, y3, y4⟩ := Box5.of hn1
  have HO : Hid (Own (w.heap.size + 1) w2 a2 n c2 bs) := ho2.mono (by omega)
  have HN : Hid (_) := hn1
  have HB : Hid (Below w.heap.size w w2) := B2
  clear ho2 hn1 B2 B1 hb2 hnx hbx hnx1
  unfold itv
  simp only [It.cls, It.tag, It.cons]
  go_wp2_with fail
  try simp only [Exit.inBlock, Exit.then]
  refine bodyPost_ret (results_it rfl _ w.heap.size rfl _ _ _ _ _ _ (put5_heap HN.out _ _ _ _ _)) rfl ⟨a2, c2, rfl, ?_, ?_⟩
  · exact HO.out.touch5 (put5_touch w2 w.heap.size _ _ _ _ _) (by omega)
  · exact HB.out.trans ((put5_touch w2 w.heap.size _ _ _ _ _).below (Nat.le_refl _) HB.out.size)

theorem bytesItem_agg (a : Option Addr) (n c : Nat) (w : World) : Calls Tryz.prog 68 #[.slice a n c] w fun e w' => e = .returned (.agg #[.int .i64 0, .int .i64 4, .bool false, .slice a n c, .slice none 0 0]) ∧ Below w.heap.size w w' := bytesItem_any a n c [] w

theorem l9BytesB_agg (a : Option Addr) (n c : Nat) (bs : List Int) (w : World) (h : Row w a n bs) (hc : a = none → c = 0) (hn : n ≤ 5000) : Calls Tryz.prog 55 #[.slice a n c] w fun e w' => ∃ a c, e = .returned (.agg #[.int .i64 0, .int .i64 4, .bool false, .slice a n c, .slice none 0 0]) ∧ Own (w.heap.size + 1) w' a n c bs ∧ Below w.heap.size w w' := l9BytesB_any a n c bs w h hc hn

set_option maxRecDepth 10000 in
set_option maxHeartbeats 4000000 in
theorem signedAt_any (tag : Int) (am : Option Addr) (nn c : Nat) (ws : List Int) (at2 : Int) (l : List Int) (w : World) (hr : Row w am nn ws) (hc : am = none → c = 0) (hn : nn ≤ 4000) (h4 : -9223372036854775808 ≤ at2 ∧ at2 ≤ 9223372036854775807) (hl : enc 12 (sgI tag ws at2) = some l) :
    Calls Tryz.prog 45 #[.int .i64 tag, .slice am nn c, .int .i64 at2] w fun e w' => ∃ a' c', e = .returned (.slice a' l.length c') ∧ Own w.heap.size w' a' l.length c' l ∧ Below w.heap.size w w' := by
  have HL : Hid (enc 12 (boxI tag [bytI ws, numI at2]) = some l) := hl
  have z1 := wsz_bd at2
  clear hl
  go_enter Tryz.func45, Tryz.ntmps45
  go_wp2_with fail
  refine (bytesItem_agg am nn c _).mono ?_
  rintro e w1 ⟨rfl, hb1⟩
  go_wp2_with fail
  refine (numberItem_agg at2 _ h4.1 h4.2).mono ?_
  rintro e w2 ⟨g2, k2, rfl, _, hr2, hb2⟩
  have B2 := keepT hb1 hb2
  have KS : Hid (Kids 2 (w2.alloc (.cells #[.int .i64 0, .int .i64 4, .bool false, .slice am nn c, .slice none 0 0, .int .i64 0, .int .i64 2, .bool false, .slice (some ⟨g2, k2, none⟩) (wsz at2) (wsz at2), .slice none 0 0] 96)) (some ⟨w2.heap.size, 0, none⟩) 2 [bytI ws, numI at2]) :=
    kids_two w2 96 (bytI ws) (numI at2) _ _ _ _ _ _ (hr.kept B2) hr2 hc (fun h => by cases h) (by omega) (by omega) rfl rfl
  have B3 : Below w.heap.size w (w2.alloc (.cells #[.int .i64 0, .int .i64 4, .bool false, .slice am nn c, .slice none 0 0, .int .i64 0, .int .i64 2, .bool false, .slice (some ⟨g2, k2, none⟩) (wsz at2) (wsz at2), .slice none 0 0] 96)) := B2.alloc B2.size _
  clear hb1 hb2 hr2
  go_wp2_with fail
  refine (ownItem_agg tag (some ⟨w2.heap.size, 0, none⟩) 2 2 _).mono ?_
  rintro e w4 ⟨rfl, hb4⟩
  have B4 := keepT B3 hb4
  have KS4 : Hid (Kids 2 w4 (some ⟨w2.heap.size, 0, none⟩) 2 [bytI ws, numI at2]) := KS.out.kept hb4
  clear KS
  go_wp2_with fail
  refine (itemBytes_agg tag (some ⟨w2.heap.size, 0, none⟩) 2 2 [bytI ws, numI at2] l _ KS4.out HL.out).mono ?_
  rintro e w5 ⟨a5, c5, rfl, ho5, hb5⟩
  have HO5 : Hid (Own w.heap.size w5 a5 l.length c5 l) := ho5.mono B4.size
  have B5 := keepT B4 hb5
  clear ho5
  go_wp2_with fail
  go_ret
  exact ⟨a5, c5, rfl, HO5.out, B5⟩

set_option maxRecDepth 10000 in
set_option maxHeartbeats 4000000 in
theorem l17Body_any (tag : Int) (am : Option Addr) (nn c : Nat) (ws : List Int) (at2 : Int) (l : List Int) (w : World) (hr : Row w am nn ws) (hc : am = none → c = 0) (hn : nn ≤ 4000) (hl : enc 12 (sgI tag ws at2) = some l) :
    Calls Tryz.prog 38 #[.int .i64 tag, .slice am nn c, .int .i64 at2] w fun e w' => ∃ a' c', e = .returned (.slice a' l.length c') ∧ Own w.heap.size w' a' l.length c' l ∧ Below w.heap.size w w' := by
  have HL : Hid (enc 12 (boxI tag [bytI ws, numI at2]) = some l) := hl
  have z1 := wsz_bd at2
  clear hl
  go_enter Tryz.func38, Tryz.ntmps38
  go_wp2_with fail
  refine (l9BytesB_agg am nn c ws _ hr hc (by omega)).mono ?_
  rintro e w1 ⟨a1, c1, rfl, ho1, hb1⟩
  go_wp2_with fail
  refine (l9Num_agg at2 _).mono ?_
  rintro e w2 ⟨a2, c2, rfl, ho2, hb2⟩
  have B2 := keepT hb1 hb2
  have KS : Hid (Kids 2 (w2.alloc (.cells #[.int .i64 0, .int .i64 4, .bool false, .slice a1 nn c1, .slice none 0 0, .int .i64 0, .int .i64 2, .bool false, .slice a2 (wsz at2) c2, .slice none 0 0] 96)) (some ⟨w2.heap.size, 0, none⟩) 2 [bytI ws, numI at2]) :=
    kids_two w2 96 (bytI ws) (numI at2) _ _ _ _ _ _ (ho1.toRow.kept hb2) ho2.toRow ho1.nil ho2.nil (by omega) (by omega) rfl rfl
  have B3 : Below w.heap.size w (w2.alloc (.cells #[.int .i64 0, .int .i64 4, .bool false, .slice a1 nn c1, .slice none 0 0, .int .i64 0, .int .i64 2, .bool false, .slice a2 (wsz at2) c2, .slice none 0 0] 96)) := B2.alloc B2.size _
  clear hb1 hb2 ho1 ho2
  go_wp2_with fail
  refine (l2Box_agg tag (some ⟨w2.heap.size, 0, none⟩) 2 2 _).mono ?_
  rintro e w4 ⟨rfl, hb4⟩
  have B4 := keepT B3 hb4
  have KS4 : Hid (Kids 2 w4 (some ⟨w2.heap.size, 0, none⟩) 2 [bytI ws, numI at2]) := KS.out.kept hb4
  clear KS
  go_wp2_with fail
  refine (l2Bytes_agg tag (some ⟨w2.heap.size, 0, none⟩) 2 2 [bytI ws, numI at2] l _ KS4.out HL.out).mono ?_
  rintro e w5 ⟨a5, c5, rfl, ho5, hb5⟩
  have HO5 : Hid (Own w.heap.size w5 a5 l.length c5 l) := ho5.mono B4.size
  have B5 := keepT B4 hb5
  clear ho5
  go_wp2_with fail
  go_ret
  exact ⟨a5, c5, rfl, HO5.out, B5⟩

end Go.Proofs.YtpnhhhhmonbajaaGreat

set_option linter.unusedVariables false
namespace Go.Proofs.YtpnhhhhmonbajaaGreat
open Go.RowKit Go.Sort

/-- What newSigner answers. -/
structure NsV where
  k : Int
  at2 : Int
  sg : List Int
  t : Sc4
  cd : Int
def nsBad (cd : Int) : NsV := ⟨0, 0, [], (0, 0, 0, 0), cd⟩
def nsV (tag : Int) (ws : List Int) (at2 sc x h n : Int) : NsV :=
  if (asV sc x h n (sgB tag ws at2)).cd = 0 then ⟨(asV sc x h n (sgB tag ws at2)).k, at2, (asV sc x h n (sgB tag ws at2)).sg, (asV sc x h n (sgB tag ws at2)).t, 0⟩ else nsBad (asV sc x h n (sgB tag ws at2)).cd
def nsOut (v : NsV) (a : Option Addr) (c : Nat) : Value := .tuple #[.agg #[.int .u64 v.k, .int .i64 v.at2, .slice a v.sg.length c, .slice none 0 0], .agg #[.int .i64 v.t.1, .int .u64 v.t.2.1, .int .i64 v.t.2.2.1, .int .i64 v.t.2.2.2], .int .i64 v.cd]
theorem touch_kept {W W' : World} {lo hi g : Nat} {o : Obj} (ht : Touch lo hi W W') (h : W.heap[g]? = some o) (ho : g < lo ∨ hi ≤ g) : W'.heap[g]? = some o := (ht.block g (Array.getElem?_eq_some_iff.1 h).1 ho).trans h
theorem three_new (w : World) (o0 o1 o2 : Obj) : (((((w.alloc o0).alloc o1).alloc o2).heap[w.heap.size]? = some o0) ∧ ((((w.alloc o0).alloc o1).alloc o2).heap[w.heap.size + 1]? = some o1) ∧ ((((w.alloc o0).alloc o1).alloc o2).heap[w.heap.size + 1 + 1]? = some o2)) ∧ Below w.heap.size w (((w.alloc o0).alloc o1).alloc o2) := by
  have hB : ∀ (W : World) (o : Obj), Below W.heap.size W (W.alloc o) := fun W o => (Below.refl _ _).alloc (Nat.le_refl _) _
  have h2 := two_blocks w o0 o1
  have s2 : ((w.alloc o0).alloc o1).heap.size = w.heap.size + 1 + 1 := by simp
  have h3 := heap_alloc_new ((w.alloc o0).alloc o1) o2
  rw [s2] at h3
  exact ⟨⟨below_kept h2.1 (hB _ _), below_kept h2.2 (hB _ _), h3⟩, keepT (two_below w o0 o1) (hB _ _)⟩
theorem results_ns {fn : Func} {t u z : Tmp} (h : fn.results = #[.cell t 47, .cell u 33, .tmp z]) (tmps : Array Value) (g1 g2 : Nat) (ht : tmps.getD t undef = .pointer (some ⟨g1, 0, none⟩)) (hu : tmps.getD u undef = .pointer (some ⟨g2, 0, none⟩)) (q : Value) (hz : tmps.getD z undef = q) (w : World) (c1 c2 : Array Value)
    (b1 : w.heap[g1]? = some (.cells c1 47 (0, 0))) (b2 : w.heap[g2]? = some (.cells c2 33 (0, 0))) (s1 : c1.size = 4) (s2 : c2.size = 4) : (results fn tmps).run Tryz.prog w = .ok (.tuple #[.agg c1, .agg c2, q]) w := by
  have i1 : (Tryz.prog.info? 47).map (·.size) = some c1.size := by rw [s1]; kernel_rfl
  have i2 : (Tryz.prog.info? 33).map (·.size) = some c2.size := by rw [s2]; kernel_rfl
  have ht' : tmps[t]?.getD undef = .pointer (some ⟨g1, 0, none⟩) := by rw [← ht]; simp
  have hu' : tmps[u]?.getD undef = .pointer (some ⟨g2, 0, none⟩) := by rw [← hu]; simp
  have hz' : tmps[z]?.getD undef = q := by rw [← hz]; simp
  simp [results, h, ht', hu', hz', asAddr, run_loadVar_row w g1 _ _ c1 (0, 0) _ b1 Tryz.underlying47 rfl i1, run_loadVar_row w g2 _ _ c2 (0, 0) _ b2 Tryz.underlying33 rfl i2]

/-- What is known of a region (RJ). -/
def gzA (cd : Int) (G B : Nat) : RSpec where
  m := 6
  n := 8
  slots := [28, 29, 30, 100003, 100004, 10, 100006, 100007]
  kills := [[], [], [], [], [], [], [3], [4]]
  pres := [[], [], [], [], [], [], [], []]
  fact := fun k v w => match k with
    | 0 => v = .agg #[.int .u64 0, .int .i64 0, .slice none 0 0, .slice none 0 0]
    | 1 => v = .agg #[.int .i64 0, .int .u64 0, .int .i64 0, .int .i64 0]
    | 2 => v = .int .i64 cd
    | 3 => w.heap[(G + 1)]? = some (.cells #[.int .u64 0, .int .i64 0, .slice none 0 0, .slice none 0 0] 47 (0, 0))
    | 4 => w.heap[(G + 1 + 1)]? = some (.cells #[.int .i64 0, .int .u64 0, .int .i64 0, .int .i64 0] 33 (0, 0))
    | 5 => v = .int .i64 cd
    | 6 => w.heap[(G + 1)]? = some (.cells #[.int .u64 0, .int .i64 0, .slice none 0 0, .slice none 0 0] 47 (0, 0))
    | _ => w.heap[(G + 1 + 1)]? = some (.cells #[.int .i64 0, .int .u64 0, .int .i64 0, .int .i64 0] 33 (0, 0))
set_option linter.unusedVariables false in
theorem gzA_stb (cd : Int) (G B : Nat) (k : Nat) (hk : k < 8) : StB ((gzA cd G (B)).fact k) := by
  match k, hk with
  | 0, _ => exact fun _ _ _ h _ => h
  | 1, _ => exact fun _ _ _ h _ => h
  | 2, _ => exact fun _ _ _ h _ => h
  | 3, _ => exact fun _ _ _ q_0 hb => below_kept q_0 hb
  | 4, _ => exact fun _ _ _ q_0 hb => below_kept q_0 hb
  | 5, _ => exact fun _ _ _ h _ => h
  | 6, _ => exact fun _ _ _ q_0 hb => below_kept q_0 hb
  | 7, _ => exact fun _ _ _ q_0 hb => below_kept q_0 hb
  | k + 8, hk => omega
set_option linter.unusedVariables false in
theorem gzA_st3 (cd : Int) (G B : Nat) {W W2 : World} {cs : Array Value} {fr : Nat × Nat} (hg : W.heap[(G + 1)]? = some (.cells cs 47 fr)) (ht : Touch ((G + 1)) ((G + 1) + 1) W W2) (k : Nat) (hk : k < 8) (hne : k ≠ 3) (hkill : 3 ∉ (gzA cd G (B)).kill k) (v : Value) (hfact : (gzA cd G (B)).fact k v W) : (gzA cd G (B)).fact k v W2 := by
  match k, hk, hne, hkill, hfact with
  | 0, _, _, _, hq => exact hq
  | 1, _, _, _, hq => exact hq
  | 2, _, _, _, hq => exact hq
  | 3, _, hne, _, _ => exact absurd rfl hne
  | 4, _, _, _, q_0 => exact box_box q_0 hg (by decide) ht
  | 5, _, _, _, hq => exact hq
  | 6, _, _, hkill, _ => exact absurd (List.Mem.head _) hkill
  | 7, _, _, _, q_0 => exact box_box q_0 hg (by decide) ht
  | k + 8, hk, _, _, _ => omega
set_option linter.unusedVariables false in
theorem gzA_st4 (cd : Int) (G B : Nat) {W W2 : World} {cs : Array Value} {fr : Nat × Nat} (hg : W.heap[(G + 1 + 1)]? = some (.cells cs 33 fr)) (ht : Touch ((G + 1 + 1)) ((G + 1 + 1) + 1) W W2) (k : Nat) (hk : k < 8) (hne : k ≠ 4) (hkill : 4 ∉ (gzA cd G (B)).kill k) (v : Value) (hfact : (gzA cd G (B)).fact k v W) : (gzA cd G (B)).fact k v W2 := by
  match k, hk, hne, hkill, hfact with
  | 0, _, _, _, hq => exact hq
  | 1, _, _, _, hq => exact hq
  | 2, _, _, _, hq => exact hq
  | 3, _, _, _, q_0 => exact box_box q_0 hg (by decide) ht
  | 4, _, hne, _, _ => exact absurd rfl hne
  | 5, _, _, _, hq => exact hq
  | 6, _, _, _, q_0 => exact box_box q_0 hg (by decide) ht
  | 7, _, _, hkill, _ => exact absurd (List.Mem.head _) hkill
  | k + 8, hk, _, _, _ => omega
/-- What is known of a region (RJ). -/
def g1Sp (tag : Int) (am : Option Addr) (nn c : Nat) (at2 sc x h n : Int) (bd : List Int) (V1 : AsV) (G B : Nat) : RSpec where
  m := 16
  n := 17
  slots := [16, 17, 18, 19, 20, 21, 15, 22, 23, 24, 25, 13, 11, 12, 13, 14, 100016]
  kills := [[], [], [], [], [], [], [], [], [], [], [], [14], [], [], [], [], []]
  pres := [[], [], [], [], [], [], [], [], [], [], [], [], [], [], [11], [], []]
  fact := fun k v w => match k with
    | 0 => v = .agg #[.int .i64 sc, .int .u64 x, .int .i64 h, .int .i64 n]
    | 1 => v = .int .i64 tag
    | 2 => v = .slice am nn c
    | 3 => v = .int .i64 at2
    | 4 => ∃ a1 c1, v = .slice a1 bd.length c1 ∧ Own B w a1 bd.length c1 bd
    | 5 => ∃ a2 c2, v = .tuple #[.int .u64 V1.k, .slice a2 V1.sg.length c2, .agg #[.int .i64 V1.t.1, .int .u64 V1.t.2.1, .int .i64 V1.t.2.2.1, .int .i64 V1.t.2.2.2], .int .i64 V1.cd] ∧ Own B w a2 V1.sg.length c2 V1.sg
    | 6 => ∃ a2 c2, v = .tuple #[.int .u64 V1.k, .slice a2 V1.sg.length c2, .agg #[.int .i64 V1.t.1, .int .u64 V1.t.2.1, .int .i64 V1.t.2.2.1, .int .i64 V1.t.2.2.2], .int .i64 V1.cd] ∧ Own B w a2 V1.sg.length c2 V1.sg
    | 7 => v = .int .u64 V1.k
    | 8 => ∃ a2 c2, v = .slice a2 V1.sg.length c2 ∧ Own B w a2 V1.sg.length c2 V1.sg
    | 9 => v = .agg #[.int .i64 V1.t.1, .int .u64 V1.t.2.1, .int .i64 V1.t.2.2.1, .int .i64 V1.t.2.2.2]
    | 10 => v = .int .i64 V1.cd
    | 11 => ∃ gb11, v = .pointer (some ⟨gb11, 0, none⟩) ∧ w.heap[gb11]? = some (.cells #[.int .i64 0, .int .u64 0, .int .i64 0, .int .i64 0] 33 (0, 0)) ∧ B ≤ gb11
    | 12 => v = .int .u64 V1.k
    | 13 => ∃ a2 c2, v = .slice a2 V1.sg.length c2 ∧ Own B w a2 V1.sg.length c2 V1.sg
    | 14 => ∃ gs14, v = .pointer (some ⟨gs14, 0, none⟩) ∧ w.heap[gs14]? = some (.cells #[.int .i64 V1.t.1, .int .u64 V1.t.2.1, .int .i64 V1.t.2.2.1, .int .i64 V1.t.2.2.2] 33 (0, 0)) ∧ B ≤ gs14
    | 15 => v = .int .i64 V1.cd
    | _ => w.heap[G]? = some (.cells #[.int .i64 sc, .int .u64 x, .int .i64 h, .int .i64 n] 33 (0, 0)) ∧ G < B
set_option linter.unusedVariables false in
theorem g1Sp_stb (tag : Int) (am : Option Addr) (nn c : Nat) (at2 sc x h n : Int) (bd : List Int) (V1 : AsV) (G B : Nat) (k : Nat) (hk : k < 17) : StB ((g1Sp tag am nn c at2 sc x h n bd V1 G (B)).fact k) := by
  match k, hk with
  | 0, _ => exact fun _ _ _ h _ => h
  | 1, _ => exact fun _ _ _ h _ => h
  | 2, _ => exact fun _ _ _ h _ => h
  | 3, _ => exact fun _ _ _ h _ => h
  | 4, _ => exact fun _ _ _ ⟨a1, c1, hv, q_0⟩ hb => ⟨a1, c1, hv, q_0.kept hb⟩
  | 5, _ => exact fun _ _ _ ⟨a2, c2, hv, q_0⟩ hb => ⟨a2, c2, hv, q_0.kept hb⟩
  | 6, _ => exact fun _ _ _ ⟨a2, c2, hv, q_0⟩ hb => ⟨a2, c2, hv, q_0.kept hb⟩
  | 7, _ => exact fun _ _ _ h _ => h
  | 8, _ => exact fun _ _ _ ⟨a2, c2, hv, q_0⟩ hb => ⟨a2, c2, hv, q_0.kept hb⟩
  | 9, _ => exact fun _ _ _ h _ => h
  | 10, _ => exact fun _ _ _ h _ => h
  | 11, _ => exact fun _ _ _ ⟨gb11, hv, q_0, q_1⟩ hb => ⟨gb11, hv, below_kept q_0 hb, q_1⟩
  | 12, _ => exact fun _ _ _ h _ => h
  | 13, _ => exact fun _ _ _ ⟨a2, c2, hv, q_0⟩ hb => ⟨a2, c2, hv, q_0.kept hb⟩
  | 14, _ => exact fun _ _ _ ⟨gs14, hv, q_0, q_1⟩ hb => ⟨gs14, hv, below_kept q_0 hb, q_1⟩
  | 15, _ => exact fun _ _ _ h _ => h
  | 16, _ => exact fun _ _ _ ⟨q_0, q_1⟩ hb => ⟨below_kept q_0 hb, q_1⟩
  | k + 17, hk => omega
set_option linter.unusedVariables false in
theorem g1Sp_st14 (tag : Int) (am : Option Addr) (nn c : Nat) (at2 sc x h n : Int) (bd : List Int) (V1 : AsV) (G B : Nat) {W W2 : World} {g : Nat} {cs : Array Value} {fr : Nat × Nat} (hg : W.heap[g]? = some (.cells cs 33 fr)) (ht : Touch (g) (g + 1) W W2) (hge : B ≤ g) (k : Nat) (hk : k < 17) (hne : k ≠ 14) (hkill : 14 ∉ (g1Sp tag am nn c at2 sc x h n bd V1 G (B)).kill k) (v : Value) (hfact : (g1Sp tag am nn c at2 sc x h n bd V1 G (B)).fact k v W) : (g1Sp tag am nn c at2 sc x h n bd V1 G (B)).fact k v W2 := by
  match k, hk, hne, hkill, hfact with
  | 0, _, _, _, hq => exact hq
  | 1, _, _, _, hq => exact hq
  | 2, _, _, _, hq => exact hq
  | 3, _, _, _, hq => exact hq
  | 4, _, _, _, ⟨a1, c1, hv, q_0⟩ => exact ⟨a1, c1, hv, ⟨ownsRow_box q_0.row hg (by decide) ht, q_0.byte⟩⟩
  | 5, _, _, _, ⟨a2, c2, hv, q_0⟩ => exact ⟨a2, c2, hv, ⟨ownsRow_box q_0.row hg (by decide) ht, q_0.byte⟩⟩
  | 6, _, _, _, ⟨a2, c2, hv, q_0⟩ => exact ⟨a2, c2, hv, ⟨ownsRow_box q_0.row hg (by decide) ht, q_0.byte⟩⟩
  | 7, _, _, _, hq => exact hq
  | 8, _, _, _, ⟨a2, c2, hv, q_0⟩ => exact ⟨a2, c2, hv, ⟨ownsRow_box q_0.row hg (by decide) ht, q_0.byte⟩⟩
  | 9, _, _, _, hq => exact hq
  | 10, _, _, _, hq => exact hq
  | 11, _, _, hkill, _ => exact absurd (List.Mem.head _) hkill
  | 12, _, _, _, hq => exact hq
  | 13, _, _, _, ⟨a2, c2, hv, q_0⟩ => exact ⟨a2, c2, hv, ⟨ownsRow_box q_0.row hg (by decide) ht, q_0.byte⟩⟩
  | 14, _, hne, _, _ => exact absurd rfl hne
  | 15, _, _, _, hq => exact hq
  | 16, _, _, _, ⟨q_0, q_1⟩ => exact ⟨(ht.block _ (Array.getElem?_eq_some_iff.1 q_0).1 (by omega)).trans q_0, q_1⟩
  | k + 17, hk, _, _, _ => omega
/-- What is known of a region (RJ). -/
def g4Sp (at2 : Int) (V1 : AsV) (a2 : Option Addr) (c2 gs G B : Nat) : RSpec where
  m := 8
  n := 12
  slots := [31, 32, 33, 34, 35, 100005, 100006, 10, 100008, 100009, 100010, 100011]
  kills := [[], [], [], [], [], [], [], [], [5], [6], [], []]
  pres := [[], [], [], [], [], [], [], [], [], [], [], []]
  fact := fun k v w => match k with
    | 0 => v = .int .u64 V1.k
    | 1 => v = .int .i64 at2
    | 2 => v = .slice a2 V1.sg.length c2
    | 3 => v = .agg #[.int .u64 V1.k, .int .i64 at2, .slice a2 V1.sg.length c2, .slice none 0 0]
    | 4 => v = .agg #[.int .i64 V1.t.1, .int .u64 V1.t.2.1, .int .i64 V1.t.2.2.1, .int .i64 V1.t.2.2.2]
    | 5 => w.heap[(G + 1)]? = some (.cells #[.int .u64 V1.k, .int .i64 at2, .slice a2 V1.sg.length c2, .slice none 0 0] 47 (0, 0))
    | 6 => w.heap[(G + 1 + 1)]? = some (.cells #[.int .i64 V1.t.1, .int .u64 V1.t.2.1, .int .i64 V1.t.2.2.1, .int .i64 V1.t.2.2.2] 33 (0, 0))
    | 7 => v = .int .i64 0
    | 8 => w.heap[(G + 1)]? = some (.cells #[.int .u64 0, .int .i64 0, .slice none 0 0, .slice none 0 0] 47 (0, 0))
    | 9 => w.heap[(G + 1 + 1)]? = some (.cells #[.int .i64 0, .int .u64 0, .int .i64 0, .int .i64 0] 33 (0, 0))
    | 10 => w.heap[gs]? = some (.cells #[.int .i64 V1.t.1, .int .u64 V1.t.2.1, .int .i64 V1.t.2.2.1, .int .i64 V1.t.2.2.2] 33 (0, 0)) ∧ gs ≠ G + 1 + 1
    | _ => Own B w a2 V1.sg.length c2 V1.sg
set_option linter.unusedVariables false in
theorem g4Sp_stb (at2 : Int) (V1 : AsV) (a2 : Option Addr) (c2 gs G B : Nat) (k : Nat) (hk : k < 12) : StB ((g4Sp at2 V1 a2 c2 gs G (B)).fact k) := by
  match k, hk with
  | 0, _ => exact fun _ _ _ h _ => h
  | 1, _ => exact fun _ _ _ h _ => h
  | 2, _ => exact fun _ _ _ h _ => h
  | 3, _ => exact fun _ _ _ h _ => h
  | 4, _ => exact fun _ _ _ h _ => h
  | 5, _ => exact fun _ _ _ q_0 hb => below_kept q_0 hb
  | 6, _ => exact fun _ _ _ q_0 hb => below_kept q_0 hb
  | 7, _ => exact fun _ _ _ h _ => h
  | 8, _ => exact fun _ _ _ q_0 hb => below_kept q_0 hb
  | 9, _ => exact fun _ _ _ q_0 hb => below_kept q_0 hb
  | 10, _ => exact fun _ _ _ ⟨q_0, q_1⟩ hb => ⟨below_kept q_0 hb, q_1⟩
  | 11, _ => exact fun _ _ _ q_0 hb => q_0.kept hb
  | k + 12, hk => omega
set_option linter.unusedVariables false in
theorem g4Sp_st5 (at2 : Int) (V1 : AsV) (a2 : Option Addr) (c2 gs G B : Nat) {W W2 : World} {cs : Array Value} {fr : Nat × Nat} (hg : W.heap[(G + 1)]? = some (.cells cs 47 fr)) (ht : Touch ((G + 1)) ((G + 1) + 1) W W2) (k : Nat) (hk : k < 12) (hne : k ≠ 5) (hkill : 5 ∉ (g4Sp at2 V1 a2 c2 gs G (B)).kill k) (v : Value) (hfact : (g4Sp at2 V1 a2 c2 gs G (B)).fact k v W) : (g4Sp at2 V1 a2 c2 gs G (B)).fact k v W2 := by
  match k, hk, hne, hkill, hfact with
  | 0, _, _, _, hq => exact hq
  | 1, _, _, _, hq => exact hq
  | 2, _, _, _, hq => exact hq
  | 3, _, _, _, hq => exact hq
  | 4, _, _, _, hq => exact hq
  | 5, _, hne, _, _ => exact absurd rfl hne
  | 6, _, _, _, q_0 => exact box_box q_0 hg (by decide) ht
  | 7, _, _, _, hq => exact hq
  | 8, _, _, hkill, _ => exact absurd (List.Mem.head _) hkill
  | 9, _, _, _, q_0 => exact box_box q_0 hg (by decide) ht
  | 10, _, _, _, ⟨q_0, q_1⟩ => exact ⟨box_box q_0 hg (by decide) ht, q_1⟩
  | 11, _, _, _, q_0 => exact ⟨ownsRow_box q_0.row hg (by decide) ht, q_0.byte⟩
  | k + 12, hk, _, _, _ => omega
set_option linter.unusedVariables false in
theorem g4Sp_st6 (at2 : Int) (V1 : AsV) (a2 : Option Addr) (c2 gs G B : Nat) {W W2 : World} {cs : Array Value} {fr : Nat × Nat} (hg : W.heap[(G + 1 + 1)]? = some (.cells cs 33 fr)) (ht : Touch ((G + 1 + 1)) ((G + 1 + 1) + 1) W W2) (k : Nat) (hk : k < 12) (hne : k ≠ 6) (hkill : 6 ∉ (g4Sp at2 V1 a2 c2 gs G (B)).kill k) (v : Value) (hfact : (g4Sp at2 V1 a2 c2 gs G (B)).fact k v W) : (g4Sp at2 V1 a2 c2 gs G (B)).fact k v W2 := by
  match k, hk, hne, hkill, hfact with
  | 0, _, _, _, hq => exact hq
  | 1, _, _, _, hq => exact hq
  | 2, _, _, _, hq => exact hq
  | 3, _, _, _, hq => exact hq
  | 4, _, _, _, hq => exact hq
  | 5, _, _, _, q_0 => exact box_box q_0 hg (by decide) ht
  | 6, _, hne, _, _ => exact absurd rfl hne
  | 7, _, _, _, hq => exact hq
  | 8, _, _, _, q_0 => exact box_box q_0 hg (by decide) ht
  | 9, _, _, hkill, _ => exact absurd (List.Mem.head _) hkill
  | 10, _, _, _, ⟨q_0, q_1⟩ => exact ⟨(ht.block _ (Array.getElem?_eq_some_iff.1 q_0).1 (by omega)).trans q_0, q_1⟩
  | 11, _, _, _, q_0 => exact ⟨ownsRow_box q_0.row hg (by decide) ht, q_0.byte⟩
  | k + 12, hk, _, _, _ => omega

set_option maxRecDepth 10000 in
set_option maxHeartbeats 4000000 in
theorem newSigner_any (tag : Int) (am : Option Addr) (nn c : Nat) (ws : List Int) (at2 sc x h n : Int) (w : World) (hr : Row w am nn ws) (hc : am = none → c = 0) (hn : nn ≤ 4000) (ht0 : 1 ≤ tag) (ht1 : tag ≤ 30) (hat : -9223372036854775808 ≤ at2 ∧ at2 ≤ 9223372036854775807) (hx : U64 x) :
    Calls Tryz.prog 24 #[.int .i64 tag, .slice am nn c, .int .i64 at2, .agg #[.int .i64 sc, .int .u64 x, .int .i64 h, .int .i64 n]] w fun e w' => ∃ a c', e = .returned (nsOut (nsV tag ws at2 sc x h n) a c') ∧ Own w.heap.size w' a (nsV tag ws at2 sc x h n).sg.length c' (nsV tag ws at2 sc x h n).sg ∧ Below w.heap.size w w' := by
  obtain ⟨V, hV⟩ : ∃ V, V = (nsV tag ws at2 sc x h n) := ⟨_, rfl⟩
  obtain ⟨bd, hbd⟩ : ∃ bd, bd = sgB tag ws at2 := ⟨_, rfl⟩
  obtain ⟨V1, hV1⟩ : ∃ V1, V1 = asV sc x h n bd := ⟨_, rfl⟩
  obtain ⟨hE, hEl⟩ := sgB_enc tag ws at2 ht0 ht1 (by have := hr.len; omega)
  rw [← hbd] at hE hEl
  have HV1 : Hid (V = if V1.cd = 0 then ⟨V1.k, at2, V1.sg, V1.t, 0⟩ else nsBad V1.cd) := by
    show _ = _
    rw [hV, hV1, hbd]
    rfl
  have HAS : Hid (∀ W am c, Row W am bd.length bd → (am = none → c = 0) → Calls Tryz.prog 44 #[.agg #[.int .i64 sc, .int .u64 x, .int .i64 h, .int .i64 n], .slice am bd.length c] W fun e w' => ∃ a2 c2, e = .returned (.tuple #[.int .u64 V1.k, .slice a2 V1.sg.length c2, .agg #[.int .i64 V1.t.1, .int .u64 V1.t.2.1, .int .i64 V1.t.2.2.1, .int .i64 V1.t.2.2.2], .int .i64 V1.cd]) ∧ Own W.heap.size w' a2 V1.sg.length c2 V1.sg ∧ Below W.heap.size W w') := by
    intro W am c h1 h2
    have := signAs_any sc x h n am bd.length c bd W hx h1 (by omega) h2
    rw [← hV1] at this
    exact this
  rw [← hV]
  obtain ⟨w1, hw1⟩ : ∃ w1, w1 = ((w.alloc (.cells #[.int .i64 sc, .int .u64 x, .int .i64 h, .int .i64 n] 33)).alloc (.cells #[.int .u64 0, .int .i64 0, .slice none 0 0, .slice none 0 0] 47)).alloc (.cells #[.int .i64 0, .int .u64 0, .int .i64 0, .int .i64 0] 33) := ⟨_, rfl⟩
  have hn3 := three_new w (.cells #[.int .i64 sc, .int .u64 x, .int .i64 h, .int .i64 n] 33) (.cells #[.int .u64 0, .int .i64 0, .slice none 0 0, .slice none 0 0] 47) (.cells #[.int .i64 0, .int .u64 0, .int .i64 0, .int .i64 0] 33)
  rw [← hw1] at hn3
  have HB1 : Hid (w1.heap[w.heap.size]? = some (.cells #[.int .i64 sc, .int .u64 x, .int .i64 h, .int .i64 n] 33 (0, 0)) ∧ w1.heap[w.heap.size + 1]? = some (.cells #[.int .u64 0, .int .i64 0, .slice none 0 0, .slice none 0 0] 47 (0, 0)) ∧ w1.heap[w.heap.size + 1 + 1]? = some (.cells #[.int .i64 0, .int .u64 0, .int .i64 0, .int .i64 0] 33 (0, 0))) := hn3.1
  have hbb := hn3.2
  have hl2 : w.heap.size + 1 + 1 < w1.heap.size := (Array.getElem?_eq_some_iff.1 HB1.out.2.2).1
  have HW : Hid (_ = _) := hw1
  clear hw1 hn3
  have HHB : Hid (∀ W, Below w1.heap.size w1 W → Calls Tryz.prog 45 #[.int .i64 tag, .slice am nn c, .int .i64 at2] W fun e w' => ∃ a' c', e = .returned (.slice a' bd.length c') ∧ Own W.heap.size w' a' bd.length c' bd ∧ Below W.heap.size W w') := fun W hW => signedAt_any tag am nn c ws at2 bd W (hr.kept (keepT hbb hW)) hc hn hat hE
  clear hV hbd hV1 hE hEl hr
  go_enter Tryz.func24, Tryz.ntmps24
  go_upto_region 1 with fail
  rw [← HW.out]
  clear HW
  have HBB : w1.heap.size ≤ w1.heap.size := Nat.le_refl _
  refine wp_region_ri (g1Sp tag am nn c at2 sc x h n bd V1 w.heap.size (w1.heap.size)) [11, 12, 13, 14, 15, 16, 17, 18, 19, 20, 21, 22, 23, 24, 25] (w1.heap.size) (fun a0 => a0.tmps.size = 36 ∧ aT a0 0 = .int .i64 tag ∧ aT a0 1 = .slice am nn c ∧ aT a0 2 = .int .i64 at2 ∧ aT a0 7 = .pointer (some ⟨w.heap.size, 0, none⟩)) (by kernel_rfl) rfl (by kernel_rfl) rfl ⟨rfl, rfl, rfl, rfl, rfl⟩ (g1Sp_stb tag am nn c at2 sc x h n bd V1 w.heap.size (w1.heap.size)) ?_ ?_ ?_
  · intro k hk hk2
    match k, hk, hk2 with
    | 16, _, _ => exact ⟨HB1.out.1, by omega⟩
    | 0, hk, _ => exact absurd hk (by show ¬ (16 ≤ 0); omega)
    | 1, hk, _ => exact absurd hk (by show ¬ (16 ≤ 1); omega)
    | 2, hk, _ => exact absurd hk (by show ¬ (16 ≤ 2); omega)
    | 3, hk, _ => exact absurd hk (by show ¬ (16 ≤ 3); omega)
    | 4, hk, _ => exact absurd hk (by show ¬ (16 ≤ 4); omega)
    | 5, hk, _ => exact absurd hk (by show ¬ (16 ≤ 5); omega)
    | 6, hk, _ => exact absurd hk (by show ¬ (16 ≤ 6); omega)
    | 7, hk, _ => exact absurd hk (by show ¬ (16 ≤ 7); omega)
    | 8, hk, _ => exact absurd hk (by show ¬ (16 ≤ 8); omega)
    | 9, hk, _ => exact absurd hk (by show ¬ (16 ≤ 9); omega)
    | 10, hk, _ => exact absurd hk (by show ¬ (16 ≤ 10); omega)
    | 11, hk, _ => exact absurd hk (by show ¬ (16 ≤ 11); omega)
    | 12, hk, _ => exact absurd hk (by show ¬ (16 ≤ 12); omega)
    | 13, hk, _ => exact absurd hk (by show ¬ (16 ≤ 13); omega)
    | 14, hk, _ => exact absurd hk (by show ¬ (16 ≤ 14); omega)
    | 15, hk, _ => exact absurd hk (by show ¬ (16 ≤ 15); omega)
    | k + 17, _, hk2 => exact absurd hk2 (by show ¬ (k + 17 < 17); omega)
  · rintro a0 ⟨hz, g0, g1, g2, g7⟩
    refine StepsRI.cons ?_ (StepsRI.cons ?_ (StepsRI.cons ?_ (StepsRI.cons ?_ (StepsRI.cons ?_ (StepsRI.cons ?_ (StepsRI.cons ?_ (StepsRI.cons ?_ (StepsRI.cons ?_ (StepsRI.cons ?_ (StepsRI.cons ?_ (StepsRI.cons ?_ (StepsRI.cons ?_ (StepsRI.cons ?_ (StepsRI.cons ?_ (StepsRI.cons ?_ (StepsRI.nil))))))))))))))))
    · intro lQ b W hI hUN hED KQ hKQ
      have hg := (hI.vot 16 (of_decide_eq_true rfl) (of_decide_eq_true rfl) rfl).1
      refine wp_load_row 33 _ rfl (w.heap.size) ((hI.fr.same 7 (by decide)).trans g7) 33 #[.int .i64 sc, .int .u64 x, .int .i64 h, .int .i64 n] (0, 0) _ hg Tryz.underlying33 rfl (by kernel_rfl) ?_
      exact hKQ.out _ _ (hI.put 0 16 rfl rfl (by rw [hz]; decide) rfl hUN rfl HBB (g1Sp_stb tag am nn c at2 sc x h n bd V1 w.heap.size (w1.heap.size)) (Below.refl _ _) rfl)
    · intro lQ b W hI hUN hED KQ hKQ
      exact opw_move 0 rfl (hKQ.out _ _ (hI.put 1 17 rfl rfl (by rw [hz]; decide) rfl hUN rfl HBB (g1Sp_stb tag am nn c at2 sc x h n bd V1 w.heap.size (w1.heap.size)) (Below.refl _ _) ((hI.fr.same 0 (by decide)).trans g0)))
    · intro lQ b W hI hUN hED KQ hKQ
      exact opw_move 1 rfl (hKQ.out _ _ (hI.put 2 18 rfl rfl (by rw [hz]; decide) rfl hUN rfl HBB (g1Sp_stb tag am nn c at2 sc x h n bd V1 w.heap.size (w1.heap.size)) (Below.refl _ _) ((hI.fr.same 1 (by decide)).trans g1)))
    · intro lQ b W hI hUN hED KQ hKQ
      exact opw_move 2 rfl (hKQ.out _ _ (hI.put 3 19 rfl rfl (by rw [hz]; decide) rfl hUN rfl HBB (g1Sp_stb tag am nn c at2 sc x h n bd V1 w.heap.size (w1.heap.size)) (Below.refl _ _) ((hI.fr.same 2 (by decide)).trans g2)))
    · intro lQ b W hI hUN hED KQ hKQ
      have f0 := hI.got 1 (of_decide_eq_true rfl) (edge hED 1 (by kernel_rfl)) rfl
      replace f0 : aT b 17 = .int .i64 tag := f0
      have f1 := hI.got 2 (of_decide_eq_true rfl) (edge hED 2 (by kernel_rfl)) rfl
      replace f1 : aT b 18 = .slice am nn c := f1
      have f2 := hI.got 3 (of_decide_eq_true rfl) (edge hED 3 (by kernel_rfl)) rfl
      replace f2 : aT b 19 = .int .i64 at2 := f2
      refine opw_call 45 #[.tmp 17, .tmp 18, .tmp 19] _ _ _ rfl Tryz.func45 (by kernel_rfl) rfl #[.int .i64 tag, .slice am nn c, .int .i64 at2] (by simp [ev, f0, f1, f2]) ?_
      refine (HHB.out W hI.bel).mono ?_
      rintro e W2 ⟨a1, c1, rfl, ho, hb⟩
      exact ⟨_, rfl, hKQ.out _ _ (hI.put 4 20 rfl rfl (by rw [hz]; decide) rfl hUN rfl HBB (g1Sp_stb tag am nn c at2 sc x h n bd V1 w.heap.size (w1.heap.size)) hb ⟨a1, c1, rfl, ho.mono (Nat.le_trans HBB hI.bel.size)⟩)⟩
    · intro lQ b W hI hUN hED KQ hKQ
      have f0 := hI.got 0 (of_decide_eq_true rfl) (edge hED 0 (by kernel_rfl)) rfl
      replace f0 : aT b 16 = .agg #[.int .i64 sc, .int .u64 x, .int .i64 h, .int .i64 n] := f0
      have f1 := hI.got 4 (of_decide_eq_true rfl) (edge hED 4 (by kernel_rfl)) rfl
      obtain ⟨a1, c1, f1, o1_0⟩ := f1
      replace f1 : aT b 20 = .slice a1 bd.length c1 := f1
      refine opw_call 44 #[.tmp 16, .tmp 20] _ _ _ rfl Tryz.func44 (by kernel_rfl) rfl #[.agg #[.int .i64 sc, .int .u64 x, .int .i64 h, .int .i64 n], .slice a1 bd.length c1] (by simp [ev, f0, f1]) ?_
      refine (HAS.out W a1 c1 o1_0.toRow o1_0.nil).mono ?_
      rintro e W2 ⟨a2, c2, rfl, ho, hb⟩
      exact ⟨_, rfl, hKQ.out _ _ (hI.put 5 21 rfl rfl (by rw [hz]; decide) rfl hUN rfl HBB (g1Sp_stb tag am nn c at2 sc x h n bd V1 w.heap.size (w1.heap.size)) hb ⟨a2, c2, rfl, ho.mono (Nat.le_trans HBB hI.bel.size)⟩)⟩
    · intro lQ b W hI hUN hED KQ hKQ
      have f := hI.got 5 (of_decide_eq_true rfl) (edge hED 5 (by kernel_rfl)) rfl
      exact opw_move 21 rfl (hKQ.out _ _ (hI.put 6 15 rfl rfl (by rw [hz]; decide) rfl hUN rfl HBB (g1Sp_stb tag am nn c at2 sc x h n bd V1 w.heap.size (w1.heap.size)) (Below.refl _ _) f))
    · intro lQ b W hI hUN hED KQ hKQ
      have f := hI.got 6 (of_decide_eq_true rfl) (edge hED 6 (by kernel_rfl)) rfl
      obtain ⟨a2, c2, f, o_0⟩ := f
      exact opw_extract 15 0 rfl _ _ f rfl (hKQ.out _ _ (hI.put 7 22 rfl rfl (by rw [hz]; decide) rfl hUN rfl HBB (g1Sp_stb tag am nn c at2 sc x h n bd V1 w.heap.size (w1.heap.size)) (Below.refl _ _) rfl))
    · intro lQ b W hI hUN hED KQ hKQ
      have f := hI.got 6 (of_decide_eq_true rfl) (edge hED 6 (by kernel_rfl)) rfl
      obtain ⟨a2, c2, f, o_0⟩ := f
      exact opw_extract 15 1 rfl _ _ f rfl (hKQ.out _ _ (hI.put 8 23 rfl rfl (by rw [hz]; decide) rfl hUN rfl HBB (g1Sp_stb tag am nn c at2 sc x h n bd V1 w.heap.size (w1.heap.size)) (Below.refl _ _) ⟨a2, c2, rfl, o_0⟩))
    · intro lQ b W hI hUN hED KQ hKQ
      have f := hI.got 6 (of_decide_eq_true rfl) (edge hED 6 (by kernel_rfl)) rfl
      obtain ⟨a2, c2, f, o_0⟩ := f
      exact opw_extract 15 2 rfl _ _ f rfl (hKQ.out _ _ (hI.put 9 24 rfl rfl (by rw [hz]; decide) rfl hUN rfl HBB (g1Sp_stb tag am nn c at2 sc x h n bd V1 w.heap.size (w1.heap.size)) (Below.refl _ _) rfl))
    · intro lQ b W hI hUN hED KQ hKQ
      have f := hI.got 6 (of_decide_eq_true rfl) (edge hED 6 (by kernel_rfl)) rfl
      obtain ⟨a2, c2, f, o_0⟩ := f
      exact opw_extract 15 3 rfl _ _ f rfl (hKQ.out _ _ (hI.put 10 25 rfl rfl (by rw [hz]; decide) rfl hUN rfl HBB (g1Sp_stb tag am nn c at2 sc x h n bd V1 w.heap.size (w1.heap.size)) (Below.refl _ _) rfl))
    · intro lQ b W hI hUN hED KQ hKQ
      refine opw_value (w' := W.alloc (.cells #[.int .i64 0, .int .u64 0, .int .i64 0, .int .i64 0] 33)) (.pointer (some ⟨W.heap.size, 0, none⟩)) (by kernel_rfl) ?_
      exact hKQ.out _ _ (hI.put 11 13 rfl rfl (by rw [hz]; decide) rfl hUN rfl HBB (g1Sp_stb tag am nn c at2 sc x h n bd V1 w.heap.size (w1.heap.size)) ((Below.refl _ _).alloc (Nat.le_refl _) _) ⟨W.heap.size, rfl, heap_alloc_new W _, Nat.le_trans HBB hI.bel.size⟩)
    · intro lQ b W hI hUN hED KQ hKQ
      have f := hI.got 7 (of_decide_eq_true rfl) (edge hED 7 (by kernel_rfl)) rfl
      exact opw_assign 22 rfl (hKQ.out _ _ (hI.put 12 11 rfl rfl (by rw [hz]; decide) rfl hUN rfl HBB (g1Sp_stb tag am nn c at2 sc x h n bd V1 w.heap.size (w1.heap.size)) (Below.refl _ _) f))
    · intro lQ b W hI hUN hED KQ hKQ
      have f := hI.got 8 (of_decide_eq_true rfl) (edge hED 8 (by kernel_rfl)) rfl
      exact opw_assign 23 rfl (hKQ.out _ _ (hI.put 13 12 rfl rfl (by rw [hz]; decide) rfl hUN rfl HBB (g1Sp_stb tag am nn c at2 sc x h n bd V1 w.heap.size (w1.heap.size)) (Below.refl _ _) f))
    · intro lQ b W hI hUN hED KQ hKQ
      obtain ⟨g, fb, hgb, hge⟩ := hI.got1 11 14 (of_decide_eq_true rfl) (edge hED 11 (by kernel_rfl)) hUN rfl
      have f := hI.got 9 (of_decide_eq_true rfl) (edge hED 9 (by kernel_rfl)) rfl
      refine wp_store_row 33 _ _ rfl g #[.int .i64 V1.t.1, .int .u64 V1.t.2.1, .int .i64 V1.t.2.2.1, .int .i64 V1.t.2.2.2] fb f 33 _ hgb (by kernel_rfl) rfl (by simp [Value.oneCell']) ?_
      have ht := setRow_touch W g #[.int .i64 V1.t.1, .int .u64 V1.t.2.1, .int .i64 V1.t.2.2.1, .int .i64 V1.t.2.2.2]
      exact hKQ.out _ _ (hI.store 14 (fun j hj => by
          rcases List.mem_singleton.1 hj with rfl
          exact edge hED 11 (by kernel_rfl)) (hI.bel.trans (ht.below hge (Nat.le_trans HBB hI.bel.size))) (g1Sp_st14 tag am nn c at2 sc x h n bd V1 w.heap.size (w1.heap.size) hgb ht hge) ⟨g, fb, (setRow_heap W g _ _ _ _ hgb), hge⟩)
    · intro lQ b W hI hUN hED KQ hKQ
      have f := hI.got 10 (of_decide_eq_true rfl) (edge hED 10 (by kernel_rfl)) rfl
      exact opw_assign 25 rfl (hKQ.out _ _ (hI.put 15 14 rfl rfl (by rw [hz]; decide) rfl hUN rfl HBB (g1Sp_stb tag am nn c at2 sc x h n bd V1 w.heap.size (w1.heap.size)) (Below.refl _ _) f))
  · intro b W hf hb F
    obtain ⟨gs, e13, hgs, hge⟩ := F 14 (of_decide_eq_true rfl) rfl
    obtain ⟨a2, c2, e12, ho⟩ := F 13 (of_decide_eq_true rfl) rfl
    have e11 := F 12 (of_decide_eq_true rfl) rfl
    have e14 := F 15 (of_decide_eq_true rfl) rfl
    replace e13 : aT b 13 = _ := e13
    replace e12 : aT b 12 = _ := e12
    replace e11 : aT b 11 = _ := e11
    replace e14 : aT b 14 = _ := e14
    have HB4 : Hid (W.heap[w.heap.size + 1]? = some (.cells #[.int .u64 0, .int .i64 0, .slice none 0 0, .slice none 0 0] 47 (0, 0)) ∧ W.heap[w.heap.size + 1 + 1]? = some (.cells #[.int .i64 0, .int .u64 0, .int .i64 0, .int .i64 0] 33 (0, 0))) := ⟨below_kept HB1.out.2.1 hb, below_kept HB1.out.2.2 hb⟩
    have HGS : Hid (W.heap[gs]? = some (.cells #[.int .i64 V1.t.1, .int .u64 V1.t.2.1, .int .i64 V1.t.2.2.1, .int .i64 V1.t.2.2.2] 33 (0, 0))) := hgs
    have hc4 := keepT hbb hb
    have hbs := hb.size
    have HO4 : Hid (Own w.heap.size W a2 V1.sg.length c2 V1.sg) := ho.mono hbb.size
    rw [hf.eq]
    simp only [puts, Act.put, List.setIfInBounds_toArray, List.set_cons_zero, List.set_cons_succ, e11, e12, e13, e14]
    clear hf F e11 e12 e13 e14 hgs ho hb
    generalize aT b = AT
    clear b
    obtain ⟨W4, hW4⟩ : ∃ W4, W4 = W := ⟨_, rfl⟩
    subst hW4
    go_upto_region 2 with fail
    by_cases hc5 : V1.cd = 0
    case neg =>
      have HF := (show Hid (V = nsBad V1.cd) by show _ = _; rw [HV1.out, if_neg hc5])
      have z5 : (V1.cd != 0) = true := by simp [hc5]
      go_upto_region 3 with fail
      have HBB : w.heap.size ≤ W4.heap.size := by have := hc4.size; omega
      refine wp_region_rp (gzA V1.cd w.heap.size (w.heap.size)) [10, 28, 29, 30] (w.heap.size) (fun a0 => a0.tmps.size = 36 ∧ aT a0 8 = .pointer (some ⟨(w.heap.size + 1), 0, none⟩) ∧ aT a0 9 = .pointer (some ⟨(w.heap.size + 1 + 1), 0, none⟩) ∧ aT a0 14 = .int .i64 V1.cd) rfl (by kernel_rfl) rfl ⟨rfl, rfl, rfl, rfl⟩ (gzA_stb V1.cd w.heap.size (w.heap.size)) ?_ ?_ ?_
      · intro k hk hk2
        match k, hk, hk2 with
        | 6, _, _ => exact HB4.out.1
        | 7, _, _ => exact HB4.out.2
        | 0, hk, _ => exact absurd hk (by show ¬ (6 ≤ 0); omega)
        | 1, hk, _ => exact absurd hk (by show ¬ (6 ≤ 1); omega)
        | 2, hk, _ => exact absurd hk (by show ¬ (6 ≤ 2); omega)
        | 3, hk, _ => exact absurd hk (by show ¬ (6 ≤ 3); omega)
        | 4, hk, _ => exact absurd hk (by show ¬ (6 ≤ 4); omega)
        | 5, hk, _ => exact absurd hk (by show ¬ (6 ≤ 5); omega)
        | k + 8, _, hk2 => exact absurd hk2 (by show ¬ (k + 8 < 8); omega)
      · rintro a0 ⟨hz, g8, g9, g14⟩
        refine StepsRI.cons ?_ (StepsRI.cons ?_ (StepsRI.cons ?_ (StepsRI.cons ?_ (StepsRI.cons ?_ (StepsRI.cons ?_ (StepsRI.nil))))))
        · intro lQ b W hI hUN hED KQ hKQ
          refine opw_build 47 _ rfl #[] (by simp []) (.agg #[.int .u64 0, .int .i64 0, .slice none 0 0, .slice none 0 0]) (by kernel_rfl) ?_
          exact hKQ.out _ _ (hI.put 0 28 rfl rfl (by rw [hz]; decide) rfl hUN rfl HBB (gzA_stb V1.cd w.heap.size (w.heap.size)) (Below.refl _ _) rfl)
        · intro lQ b W hI hUN hED KQ hKQ
          refine opw_build 33 _ rfl #[] (by simp []) (.agg #[.int .i64 0, .int .u64 0, .int .i64 0, .int .i64 0]) (by kernel_rfl) ?_
          exact hKQ.out _ _ (hI.put 1 29 rfl rfl (by rw [hz]; decide) rfl hUN rfl HBB (gzA_stb V1.cd w.heap.size (w.heap.size)) (Below.refl _ _) rfl)
        · intro lQ b W hI hUN hED KQ hKQ
          exact opw_move 14 rfl (hKQ.out _ _ (hI.put 2 30 rfl rfl (by rw [hz]; decide) rfl hUN rfl HBB (gzA_stb V1.cd w.heap.size (w.heap.size)) (Below.refl _ _) ((hI.fr.same 14 (by decide)).trans g14)))
        · intro lQ b W hI hUN hED KQ hKQ
          have hgb := (hI.vot1 6 3 (of_decide_eq_true rfl) (of_decide_eq_true rfl) hUN rfl)
          have fb := ((hI.fr.same 8 (by decide)).trans g8)
          have f := hI.got 0 (of_decide_eq_true rfl) (edge hED 0 (by kernel_rfl)) rfl
          refine wp_store_row 47 _ _ rfl ((w.heap.size + 1)) #[.int .u64 0, .int .i64 0, .slice none 0 0, .slice none 0 0] fb f 47 _ hgb (by kernel_rfl) rfl (by simp [Value.oneCell']) ?_
          have ht := setRow_touch W ((w.heap.size + 1)) #[.int .u64 0, .int .i64 0, .slice none 0 0, .slice none 0 0]
          exact hKQ.out _ _ (hI.store 3 (fun j hj => by cases hj) (hI.bel.trans (ht.below (by first | exact HGE8 | omega) (Nat.le_trans HBB hI.bel.size))) (gzA_st3 V1.cd w.heap.size (w.heap.size) hgb ht) (setRow_heap W ((w.heap.size + 1)) _ _ _ _ hgb))
        · intro lQ b W hI hUN hED KQ hKQ
          have hgb := (hI.vot1 7 4 (of_decide_eq_true rfl) (of_decide_eq_true rfl) hUN rfl)
          have fb := ((hI.fr.same 9 (by decide)).trans g9)
          have f := hI.got 1 (of_decide_eq_true rfl) (edge hED 1 (by kernel_rfl)) rfl
          refine wp_store_row 33 _ _ rfl ((w.heap.size + 1 + 1)) #[.int .i64 0, .int .u64 0, .int .i64 0, .int .i64 0] fb f 33 _ hgb (by kernel_rfl) rfl (by simp [Value.oneCell']) ?_
          have ht := setRow_touch W ((w.heap.size + 1 + 1)) #[.int .i64 0, .int .u64 0, .int .i64 0, .int .i64 0]
          exact hKQ.out _ _ (hI.store 4 (fun j hj => by cases hj) (hI.bel.trans (ht.below (by first | exact HGE9 | omega) (Nat.le_trans HBB hI.bel.size))) (gzA_st4 V1.cd w.heap.size (w.heap.size) hgb ht) (setRow_heap W ((w.heap.size + 1 + 1)) _ _ _ _ hgb))
        · intro lQ b W hI hUN hED KQ hKQ
          have f := hI.got 2 (of_decide_eq_true rfl) (edge hED 2 (by kernel_rfl)) rfl
          exact opw_assign 30 rfl (hKQ.out _ _ (hI.put 5 10 rfl rfl (by rw [hz]; decide) rfl hUN rfl HBB (gzA_stb V1.cd w.heap.size (w.heap.size)) (Below.refl _ _) f))
      · intro b W hf hb F
        have e0 := F 3 (of_decide_eq_true rfl) rfl
        have e1 := F 4 (of_decide_eq_true rfl) rfl
        have e3 := F 5 (of_decide_eq_true rfl) rfl
        replace e3 : aT b 10 = _ := e3
        rw [hf.eq]
        simp only [puts, Act.put, List.setIfInBounds_toArray, List.set_cons_zero, List.set_cons_succ, e3]
        clear hf F
        go_wp2
        try simp only [Exit.inBlock, Exit.then]
        exact bodyPost_ret (results_ns rfl _ (w.heap.size + 1) (w.heap.size + 1 + 1) rfl rfl _ rfl _ _ _ e0 e1 rfl rfl) rfl ⟨none, 0, by rw [HF.out]; rfl, by rw [HF.out]; exact own_none _ _, hc4.trans hb⟩
  
    case pos =>
      have HF := (show Hid (V = ⟨V1.k, at2, V1.sg, V1.t, 0⟩) by show _ = _; rw [HV1.out, if_pos hc5])
      have z5 : (V1.cd != 0) = false := by simp [hc5]
      clear hc5
      go_upto_region 4 with fail
      have hc6 := hc4
      have HBB : w.heap.size ≤ W4.heap.size := by have := hc4.size; omega
      refine wp_region_ri (g4Sp at2 V1 a2 c2 gs w.heap.size (w.heap.size)) [10, 31, 32, 33, 34, 35] (w.heap.size) (fun a0 => a0.tmps.size = 36 ∧ aT a0 2 = .int .i64 at2 ∧ aT a0 8 = .pointer (some ⟨(w.heap.size + 1), 0, none⟩) ∧ aT a0 9 = .pointer (some ⟨(w.heap.size + 1 + 1), 0, none⟩) ∧ aT a0 11 = .int .u64 V1.k ∧ aT a0 12 = .slice a2 V1.sg.length c2 ∧ aT a0 13 = .pointer (some ⟨gs, 0, none⟩)) (by kernel_rfl) rfl (by kernel_rfl) rfl ⟨rfl, rfl, rfl, rfl, rfl, rfl, rfl⟩ (g4Sp_stb at2 V1 a2 c2 gs w.heap.size (w.heap.size)) ?_ ?_ ?_
      · intro k hk hk2
        match k, hk, hk2 with
        | 8, _, _ => exact HB4.out.1
        | 9, _, _ => exact HB4.out.2
        | 10, _, _ => exact ⟨HGS.out, by omega⟩
        | 11, _, _ => exact (show Own w.heap.size W4 a2 V1.sg.length c2 V1.sg from HO4.out)
        | 0, hk, _ => exact absurd hk (by show ¬ (8 ≤ 0); omega)
        | 1, hk, _ => exact absurd hk (by show ¬ (8 ≤ 1); omega)
        | 2, hk, _ => exact absurd hk (by show ¬ (8 ≤ 2); omega)
        | 3, hk, _ => exact absurd hk (by show ¬ (8 ≤ 3); omega)
        | 4, hk, _ => exact absurd hk (by show ¬ (8 ≤ 4); omega)
        | 5, hk, _ => exact absurd hk (by show ¬ (8 ≤ 5); omega)
        | 6, hk, _ => exact absurd hk (by show ¬ (8 ≤ 6); omega)
        | 7, hk, _ => exact absurd hk (by show ¬ (8 ≤ 7); omega)
        | k + 12, _, hk2 => exact absurd hk2 (by show ¬ (k + 12 < 12); omega)
      · rintro a0 ⟨hz, g2, g8, g9, g11, g12, g13⟩
        refine StepsRI.cons ?_ (StepsRI.cons ?_ (StepsRI.cons ?_ (StepsRI.cons ?_ (StepsRI.cons ?_ (StepsRI.cons ?_ (StepsRI.cons ?_ (StepsRI.cons ?_ (StepsRI.nil))))))))
        · intro lQ b W hI hUN hED KQ hKQ
          exact opw_move 11 rfl (hKQ.out _ _ (hI.put 0 31 rfl rfl (by rw [hz]; decide) rfl hUN rfl HBB (g4Sp_stb at2 V1 a2 c2 gs w.heap.size (w.heap.size)) (Below.refl _ _) ((hI.fr.same 11 (by decide)).trans g11)))
        · intro lQ b W hI hUN hED KQ hKQ
          exact opw_move 2 rfl (hKQ.out _ _ (hI.put 1 32 rfl rfl (by rw [hz]; decide) rfl hUN rfl HBB (g4Sp_stb at2 V1 a2 c2 gs w.heap.size (w.heap.size)) (Below.refl _ _) ((hI.fr.same 2 (by decide)).trans g2)))
        · intro lQ b W hI hUN hED KQ hKQ
          exact opw_move 12 rfl (hKQ.out _ _ (hI.put 2 33 rfl rfl (by rw [hz]; decide) rfl hUN rfl HBB (g4Sp_stb at2 V1 a2 c2 gs w.heap.size (w.heap.size)) (Below.refl _ _) ((hI.fr.same 12 (by decide)).trans g12)))
        · intro lQ b W hI hUN hED KQ hKQ
          have f0 := hI.got 0 (of_decide_eq_true rfl) (edge hED 0 (by kernel_rfl)) rfl
          replace f0 : aT b 31 = .int .u64 V1.k := f0
          have f1 := hI.got 1 (of_decide_eq_true rfl) (edge hED 1 (by kernel_rfl)) rfl
          replace f1 : aT b 32 = .int .i64 at2 := f1
          have f2 := hI.got 2 (of_decide_eq_true rfl) (edge hED 2 (by kernel_rfl)) rfl
          replace f2 : aT b 33 = .slice a2 V1.sg.length c2 := f2
          refine opw_build 47 _ rfl #[(0, .int .u64 V1.k), (1, .int .i64 at2), (2, .slice a2 V1.sg.length c2)] (by simp [ev, f0, f1, f2]) (.agg #[.int .u64 V1.k, .int .i64 at2, .slice a2 V1.sg.length c2, .slice none 0 0]) (by kernel_rfl) ?_
          exact hKQ.out _ _ (hI.put 3 34 rfl rfl (by rw [hz]; decide) rfl hUN rfl HBB (g4Sp_stb at2 V1 a2 c2 gs w.heap.size (w.heap.size)) (Below.refl _ _) rfl)
        · intro lQ b W hI hUN hED KQ hKQ
          have hg := (hI.vot 10 (of_decide_eq_true rfl) (of_decide_eq_true rfl) rfl).1
          refine wp_load_row 33 _ rfl (gs) ((hI.fr.same 13 (by decide)).trans g13) 33 #[.int .i64 V1.t.1, .int .u64 V1.t.2.1, .int .i64 V1.t.2.2.1, .int .i64 V1.t.2.2.2] (0, 0) _ hg Tryz.underlying33 rfl (by kernel_rfl) ?_
          exact hKQ.out _ _ (hI.put 4 35 rfl rfl (by rw [hz]; decide) rfl hUN rfl HBB (g4Sp_stb at2 V1 a2 c2 gs w.heap.size (w.heap.size)) (Below.refl _ _) rfl)
        · intro lQ b W hI hUN hED KQ hKQ
          have hgb := (hI.vot1 8 5 (of_decide_eq_true rfl) (of_decide_eq_true rfl) hUN rfl)
          have fb := ((hI.fr.same 8 (by decide)).trans g8)
          have f := hI.got 3 (of_decide_eq_true rfl) (edge hED 3 (by kernel_rfl)) rfl
          refine wp_store_row 47 _ _ rfl ((w.heap.size + 1)) #[.int .u64 V1.k, .int .i64 at2, .slice a2 V1.sg.length c2, .slice none 0 0] fb f 47 _ hgb (by kernel_rfl) rfl (by simp [Value.oneCell']) ?_
          have ht := setRow_touch W ((w.heap.size + 1)) #[.int .u64 V1.k, .int .i64 at2, .slice a2 V1.sg.length c2, .slice none 0 0]
          exact hKQ.out _ _ (hI.store 5 (fun j hj => by cases hj) (hI.bel.trans (ht.below (by first | exact HGE8 | omega) (Nat.le_trans HBB hI.bel.size))) (g4Sp_st5 at2 V1 a2 c2 gs w.heap.size (w.heap.size) hgb ht) (setRow_heap W ((w.heap.size + 1)) _ _ _ _ hgb))
        · intro lQ b W hI hUN hED KQ hKQ
          have hgb := (hI.vot1 9 6 (of_decide_eq_true rfl) (of_decide_eq_true rfl) hUN rfl)
          have fb := ((hI.fr.same 9 (by decide)).trans g9)
          have f := hI.got 4 (of_decide_eq_true rfl) (edge hED 4 (by kernel_rfl)) rfl
          refine wp_store_row 33 _ _ rfl ((w.heap.size + 1 + 1)) #[.int .i64 V1.t.1, .int .u64 V1.t.2.1, .int .i64 V1.t.2.2.1, .int .i64 V1.t.2.2.2] fb f 33 _ hgb (by kernel_rfl) rfl (by simp [Value.oneCell']) ?_
          have ht := setRow_touch W ((w.heap.size + 1 + 1)) #[.int .i64 V1.t.1, .int .u64 V1.t.2.1, .int .i64 V1.t.2.2.1, .int .i64 V1.t.2.2.2]
          exact hKQ.out _ _ (hI.store 6 (fun j hj => by cases hj) (hI.bel.trans (ht.below (by first | exact HGE9 | omega) (Nat.le_trans HBB hI.bel.size))) (g4Sp_st6 at2 V1 a2 c2 gs w.heap.size (w.heap.size) hgb ht) (setRow_heap W ((w.heap.size + 1 + 1)) _ _ _ _ hgb))
        · intro lQ b W hI hUN hED KQ hKQ
          exact opw_const (.int .i64 0) rfl (hKQ.out _ _ (hI.put 7 10 rfl rfl (by rw [hz]; decide) rfl hUN rfl HBB (g4Sp_stb at2 V1 a2 c2 gs w.heap.size (w.heap.size)) (Below.refl _ _) rfl))
      · intro b W hf hb F
        have e8 := F 5 (of_decide_eq_true rfl) rfl
        have e9 := F 6 (of_decide_eq_true rfl) rfl
        have e10 := F 7 (of_decide_eq_true rfl) rfl
        have hO := F 11 (of_decide_eq_true rfl) rfl
        replace e10 : aT b 10 = _ := e10
        rw [hf.eq]
        simp only [puts, Act.put, List.setIfInBounds_toArray, List.set_cons_zero, List.set_cons_succ, e10]
        clear hf F
        go_wp2
        try simp only [Exit.inBlock, Exit.then]
        exact bodyPost_ret (results_ns rfl _ (w.heap.size + 1) (w.heap.size + 1 + 1) rfl rfl _ rfl _ _ _ e8 e9 rfl rfl) rfl ⟨a2, c2, by rw [HF.out]; rfl, by rw [HF.out]; exact hO, hc6.trans hb⟩

end Go.Proofs.YtpnhhhhmonbajaaGreat

set_option linter.unusedVariables false
namespace Go.Proofs.YtpnhhhhmonbajaaGreat
open Go.RowKit Go.Sort

/-- What is known of a region (RJ). -/
def hzB (cd : Int) (G B : Nat) : RSpec where
  m := 7
  n := 9
  slots := [28, 29, 30, 31, 100004, 100005, 10, 100007, 100008]
  kills := [[], [], [], [], [], [], [], [4], [5]]
  pres := [[], [], [], [], [], [], [], [], []]
  fact := fun k v w => match k with
    | 0 => v = .agg #[.int .u64 0, .int .i64 0, .slice none 0 0, .slice none 0 0]
    | 1 => v = .agg #[.int .i64 0, .int .u64 0, .int .i64 0, .int .i64 0]
    | 2 => v = .int .i64 cd
    | 3 => v = .int .i64 (10 + cd)
    | 4 => w.heap[(G + 1)]? = some (.cells #[.int .u64 0, .int .i64 0, .slice none 0 0, .slice none 0 0] 47 (0, 0))
    | 5 => w.heap[(G + 1 + 1)]? = some (.cells #[.int .i64 0, .int .u64 0, .int .i64 0, .int .i64 0] 33 (0, 0))
    | 6 => v = .int .i64 (10 + cd)
    | 7 => w.heap[(G + 1)]? = some (.cells #[.int .u64 0, .int .i64 0, .slice none 0 0, .slice none 0 0] 47 (0, 0))
    | _ => w.heap[(G + 1 + 1)]? = some (.cells #[.int .i64 0, .int .u64 0, .int .i64 0, .int .i64 0] 33 (0, 0))
set_option linter.unusedVariables false in
theorem hzB_stb (cd : Int) (G B : Nat) (k : Nat) (hk : k < 9) : StB ((hzB cd G (B)).fact k) := by
  match k, hk with
  | 0, _ => exact fun _ _ _ h _ => h
  | 1, _ => exact fun _ _ _ h _ => h
  | 2, _ => exact fun _ _ _ h _ => h
  | 3, _ => exact fun _ _ _ h _ => h
  | 4, _ => exact fun _ _ _ q_0 hb => below_kept q_0 hb
  | 5, _ => exact fun _ _ _ q_0 hb => below_kept q_0 hb
  | 6, _ => exact fun _ _ _ h _ => h
  | 7, _ => exact fun _ _ _ q_0 hb => below_kept q_0 hb
  | 8, _ => exact fun _ _ _ q_0 hb => below_kept q_0 hb
  | k + 9, hk => omega
set_option linter.unusedVariables false in
theorem hzB_st4 (cd : Int) (G B : Nat) {W W2 : World} {cs : Array Value} {fr : Nat × Nat} (hg : W.heap[(G + 1)]? = some (.cells cs 47 fr)) (ht : Touch ((G + 1)) ((G + 1) + 1) W W2) (k : Nat) (hk : k < 9) (hne : k ≠ 4) (hkill : 4 ∉ (hzB cd G (B)).kill k) (v : Value) (hfact : (hzB cd G (B)).fact k v W) : (hzB cd G (B)).fact k v W2 := by
  match k, hk, hne, hkill, hfact with
  | 0, _, _, _, hq => exact hq
  | 1, _, _, _, hq => exact hq
  | 2, _, _, _, hq => exact hq
  | 3, _, _, _, hq => exact hq
  | 4, _, hne, _, _ => exact absurd rfl hne
  | 5, _, _, _, q_0 => exact box_box q_0 hg (by decide) ht
  | 6, _, _, _, hq => exact hq
  | 7, _, _, hkill, _ => exact absurd (List.Mem.head _) hkill
  | 8, _, _, _, q_0 => exact box_box q_0 hg (by decide) ht
  | k + 9, hk, _, _, _ => omega
set_option linter.unusedVariables false in
theorem hzB_st5 (cd : Int) (G B : Nat) {W W2 : World} {cs : Array Value} {fr : Nat × Nat} (hg : W.heap[(G + 1 + 1)]? = some (.cells cs 33 fr)) (ht : Touch ((G + 1 + 1)) ((G + 1 + 1) + 1) W W2) (k : Nat) (hk : k < 9) (hne : k ≠ 5) (hkill : 5 ∉ (hzB cd G (B)).kill k) (v : Value) (hfact : (hzB cd G (B)).fact k v W) : (hzB cd G (B)).fact k v W2 := by
  match k, hk, hne, hkill, hfact with
  | 0, _, _, _, hq => exact hq
  | 1, _, _, _, hq => exact hq
  | 2, _, _, _, hq => exact hq
  | 3, _, _, _, hq => exact hq
  | 4, _, _, _, q_0 => exact box_box q_0 hg (by decide) ht
  | 5, _, hne, _, _ => exact absurd rfl hne
  | 6, _, _, _, hq => exact hq
  | 7, _, _, _, q_0 => exact box_box q_0 hg (by decide) ht
  | 8, _, _, hkill, _ => exact absurd (List.Mem.head _) hkill
  | k + 9, hk, _, _, _ => omega
/-- What is known of a region (RJ). -/
def h1Sp (tag : Int) (am : Option Addr) (nn c : Nat) (at2 sc x h n : Int) (bd sg : List Int) (t : Sc4) (cd : Int) (G B : Nat) : RSpec where
  m := 14
  n := 15
  slots := [17, 18, 19, 20, 21, 22, 16, 23, 24, 25, 12, 11, 12, 13, 100014]
  kills := [[], [], [], [], [], [], [], [], [], [], [12], [], [], [], []]
  pres := [[], [], [], [], [], [], [], [], [], [], [], [], [10], [], []]
  fact := fun k v w => match k with
    | 0 => v = .agg #[.int .i64 sc, .int .u64 x, .int .i64 h, .int .i64 n]
    | 1 => v = .int .i64 tag
    | 2 => v = .slice am nn c
    | 3 => v = .int .i64 at2
    | 4 => ∃ a1 c1, v = .slice a1 bd.length c1 ∧ Own B w a1 bd.length c1 bd
    | 5 => ∃ a2 c2, v = .tuple #[.slice a2 sg.length c2, .agg #[.int .i64 t.1, .int .u64 t.2.1, .int .i64 t.2.2.1, .int .i64 t.2.2.2], .int .i64 cd] ∧ Own B w a2 sg.length c2 sg
    | 6 => ∃ a2 c2, v = .tuple #[.slice a2 sg.length c2, .agg #[.int .i64 t.1, .int .u64 t.2.1, .int .i64 t.2.2.1, .int .i64 t.2.2.2], .int .i64 cd] ∧ Own B w a2 sg.length c2 sg
    | 7 => ∃ a2 c2, v = .slice a2 sg.length c2 ∧ Own B w a2 sg.length c2 sg
    | 8 => v = .agg #[.int .i64 t.1, .int .u64 t.2.1, .int .i64 t.2.2.1, .int .i64 t.2.2.2]
    | 9 => v = .int .i64 cd
    | 10 => ∃ gb10, v = .pointer (some ⟨gb10, 0, none⟩) ∧ w.heap[gb10]? = some (.cells #[.int .i64 0, .int .u64 0, .int .i64 0, .int .i64 0] 33 (0, 0)) ∧ B ≤ gb10
    | 11 => ∃ a2 c2, v = .slice a2 sg.length c2 ∧ Own B w a2 sg.length c2 sg
    | 12 => ∃ gs12, v = .pointer (some ⟨gs12, 0, none⟩) ∧ w.heap[gs12]? = some (.cells #[.int .i64 t.1, .int .u64 t.2.1, .int .i64 t.2.2.1, .int .i64 t.2.2.2] 33 (0, 0)) ∧ B ≤ gs12
    | 13 => v = .int .i64 cd
    | _ => w.heap[G]? = some (.cells #[.int .i64 sc, .int .u64 x, .int .i64 h, .int .i64 n] 33 (0, 0)) ∧ G < B
set_option linter.unusedVariables false in
theorem h1Sp_stb (tag : Int) (am : Option Addr) (nn c : Nat) (at2 sc x h n : Int) (bd sg : List Int) (t : Sc4) (cd : Int) (G B : Nat) (k : Nat) (hk : k < 15) : StB ((h1Sp tag am nn c at2 sc x h n bd sg t cd G (B)).fact k) := by
  match k, hk with
  | 0, _ => exact fun _ _ _ h _ => h
  | 1, _ => exact fun _ _ _ h _ => h
  | 2, _ => exact fun _ _ _ h _ => h
  | 3, _ => exact fun _ _ _ h _ => h
  | 4, _ => exact fun _ _ _ ⟨a1, c1, hv, q_0⟩ hb => ⟨a1, c1, hv, q_0.kept hb⟩
  | 5, _ => exact fun _ _ _ ⟨a2, c2, hv, q_0⟩ hb => ⟨a2, c2, hv, q_0.kept hb⟩
  | 6, _ => exact fun _ _ _ ⟨a2, c2, hv, q_0⟩ hb => ⟨a2, c2, hv, q_0.kept hb⟩
  | 7, _ => exact fun _ _ _ ⟨a2, c2, hv, q_0⟩ hb => ⟨a2, c2, hv, q_0.kept hb⟩
  | 8, _ => exact fun _ _ _ h _ => h
  | 9, _ => exact fun _ _ _ h _ => h
  | 10, _ => exact fun _ _ _ ⟨gb10, hv, q_0, q_1⟩ hb => ⟨gb10, hv, below_kept q_0 hb, q_1⟩
  | 11, _ => exact fun _ _ _ ⟨a2, c2, hv, q_0⟩ hb => ⟨a2, c2, hv, q_0.kept hb⟩
  | 12, _ => exact fun _ _ _ ⟨gs12, hv, q_0, q_1⟩ hb => ⟨gs12, hv, below_kept q_0 hb, q_1⟩
  | 13, _ => exact fun _ _ _ h _ => h
  | 14, _ => exact fun _ _ _ ⟨q_0, q_1⟩ hb => ⟨below_kept q_0 hb, q_1⟩
  | k + 15, hk => omega
set_option linter.unusedVariables false in
theorem h1Sp_st12 (tag : Int) (am : Option Addr) (nn c : Nat) (at2 sc x h n : Int) (bd sg : List Int) (t : Sc4) (cd : Int) (G B : Nat) {W W2 : World} {g : Nat} {cs : Array Value} {fr : Nat × Nat} (hg : W.heap[g]? = some (.cells cs 33 fr)) (ht : Touch (g) (g + 1) W W2) (hge : B ≤ g) (k : Nat) (hk : k < 15) (hne : k ≠ 12) (hkill : 12 ∉ (h1Sp tag am nn c at2 sc x h n bd sg t cd G (B)).kill k) (v : Value) (hfact : (h1Sp tag am nn c at2 sc x h n bd sg t cd G (B)).fact k v W) : (h1Sp tag am nn c at2 sc x h n bd sg t cd G (B)).fact k v W2 := by
  match k, hk, hne, hkill, hfact with
  | 0, _, _, _, hq => exact hq
  | 1, _, _, _, hq => exact hq
  | 2, _, _, _, hq => exact hq
  | 3, _, _, _, hq => exact hq
  | 4, _, _, _, ⟨a1, c1, hv, q_0⟩ => exact ⟨a1, c1, hv, ⟨ownsRow_box q_0.row hg (by decide) ht, q_0.byte⟩⟩
  | 5, _, _, _, ⟨a2, c2, hv, q_0⟩ => exact ⟨a2, c2, hv, ⟨ownsRow_box q_0.row hg (by decide) ht, q_0.byte⟩⟩
  | 6, _, _, _, ⟨a2, c2, hv, q_0⟩ => exact ⟨a2, c2, hv, ⟨ownsRow_box q_0.row hg (by decide) ht, q_0.byte⟩⟩
  | 7, _, _, _, ⟨a2, c2, hv, q_0⟩ => exact ⟨a2, c2, hv, ⟨ownsRow_box q_0.row hg (by decide) ht, q_0.byte⟩⟩
  | 8, _, _, _, hq => exact hq
  | 9, _, _, _, hq => exact hq
  | 10, _, _, hkill, _ => exact absurd (List.Mem.head _) hkill
  | 11, _, _, _, ⟨a2, c2, hv, q_0⟩ => exact ⟨a2, c2, hv, ⟨ownsRow_box q_0.row hg (by decide) ht, q_0.byte⟩⟩
  | 12, _, hne, _, _ => exact absurd rfl hne
  | 13, _, _, _, hq => exact hq
  | 14, _, _, _, ⟨q_0, q_1⟩ => exact ⟨(ht.block _ (Array.getElem?_eq_some_iff.1 q_0).1 (by omega)).trans q_0, q_1⟩
  | k + 15, hk, _, _, _ => omega
/-- What is known of a region (RJ). -/
def h5Sp (at2 : Int) (p : Int × Int × Int) (kd : Int) (sg : List Int) (t : Sc4) (a2 : Option Addr) (c2 gs gp G B : Nat) : RSpec where
  m := 9
  n := 14
  slots := [37, 38, 39, 40, 41, 42, 100006, 100007, 10, 100009, 100010, 100011, 100012, 100013]
  kills := [[], [], [], [], [], [], [], [], [], [6], [7], [], [], []]
  pres := [[], [], [], [], [], [], [], [], [], [], [], [], [], []]
  fact := fun k v w => match k with
    | 0 => v = .agg #[.int .i64 p.1, .int .u64 p.2.1, .int .i64 p.2.2]
    | 1 => v = .int .u64 kd
    | 2 => v = .int .i64 at2
    | 3 => v = .slice a2 sg.length c2
    | 4 => v = .agg #[.int .u64 kd, .int .i64 at2, .slice a2 sg.length c2, .slice none 0 0]
    | 5 => v = .agg #[.int .i64 t.1, .int .u64 t.2.1, .int .i64 t.2.2.1, .int .i64 t.2.2.2]
    | 6 => w.heap[(G + 1)]? = some (.cells #[.int .u64 kd, .int .i64 at2, .slice a2 sg.length c2, .slice none 0 0] 47 (0, 0))
    | 7 => w.heap[(G + 1 + 1)]? = some (.cells #[.int .i64 t.1, .int .u64 t.2.1, .int .i64 t.2.2.1, .int .i64 t.2.2.2] 33 (0, 0))
    | 8 => v = .int .i64 0
    | 9 => w.heap[(G + 1)]? = some (.cells #[.int .u64 0, .int .i64 0, .slice none 0 0, .slice none 0 0] 47 (0, 0))
    | 10 => w.heap[(G + 1 + 1)]? = some (.cells #[.int .i64 0, .int .u64 0, .int .i64 0, .int .i64 0] 33 (0, 0))
    | 11 => w.heap[gp]? = some (.cells #[.int .i64 p.1, .int .u64 p.2.1, .int .i64 p.2.2] 68 (0, 0))
    | 12 => w.heap[gs]? = some (.cells #[.int .i64 t.1, .int .u64 t.2.1, .int .i64 t.2.2.1, .int .i64 t.2.2.2] 33 (0, 0)) ∧ gs ≠ G + 1 + 1
    | _ => Own B w a2 sg.length c2 sg
set_option linter.unusedVariables false in
theorem h5Sp_stb (at2 : Int) (p : Int × Int × Int) (kd : Int) (sg : List Int) (t : Sc4) (a2 : Option Addr) (c2 gs gp G B : Nat) (k : Nat) (hk : k < 14) : StB ((h5Sp at2 p kd sg t a2 c2 gs gp G (B)).fact k) := by
  match k, hk with
  | 0, _ => exact fun _ _ _ h _ => h
  | 1, _ => exact fun _ _ _ h _ => h
  | 2, _ => exact fun _ _ _ h _ => h
  | 3, _ => exact fun _ _ _ h _ => h
  | 4, _ => exact fun _ _ _ h _ => h
  | 5, _ => exact fun _ _ _ h _ => h
  | 6, _ => exact fun _ _ _ q_0 hb => below_kept q_0 hb
  | 7, _ => exact fun _ _ _ q_0 hb => below_kept q_0 hb
  | 8, _ => exact fun _ _ _ h _ => h
  | 9, _ => exact fun _ _ _ q_0 hb => below_kept q_0 hb
  | 10, _ => exact fun _ _ _ q_0 hb => below_kept q_0 hb
  | 11, _ => exact fun _ _ _ q_0 hb => below_kept q_0 hb
  | 12, _ => exact fun _ _ _ ⟨q_0, q_1⟩ hb => ⟨below_kept q_0 hb, q_1⟩
  | 13, _ => exact fun _ _ _ q_0 hb => q_0.kept hb
  | k + 14, hk => omega
set_option linter.unusedVariables false in
theorem h5Sp_st6 (at2 : Int) (p : Int × Int × Int) (kd : Int) (sg : List Int) (t : Sc4) (a2 : Option Addr) (c2 gs gp G B : Nat) {W W2 : World} {cs : Array Value} {fr : Nat × Nat} (hg : W.heap[(G + 1)]? = some (.cells cs 47 fr)) (ht : Touch ((G + 1)) ((G + 1) + 1) W W2) (k : Nat) (hk : k < 14) (hne : k ≠ 6) (hkill : 6 ∉ (h5Sp at2 p kd sg t a2 c2 gs gp G (B)).kill k) (v : Value) (hfact : (h5Sp at2 p kd sg t a2 c2 gs gp G (B)).fact k v W) : (h5Sp at2 p kd sg t a2 c2 gs gp G (B)).fact k v W2 := by
  match k, hk, hne, hkill, hfact with
  | 0, _, _, _, hq => exact hq
  | 1, _, _, _, hq => exact hq
  | 2, _, _, _, hq => exact hq
  | 3, _, _, _, hq => exact hq
  | 4, _, _, _, hq => exact hq
  | 5, _, _, _, hq => exact hq
  | 6, _, hne, _, _ => exact absurd rfl hne
  | 7, _, _, _, q_0 => exact box_box q_0 hg (by decide) ht
  | 8, _, _, _, hq => exact hq
  | 9, _, _, hkill, _ => exact absurd (List.Mem.head _) hkill
  | 10, _, _, _, q_0 => exact box_box q_0 hg (by decide) ht
  | 11, _, _, _, q_0 => exact box_box q_0 hg (by decide) ht
  | 12, _, _, _, ⟨q_0, q_1⟩ => exact ⟨box_box q_0 hg (by decide) ht, q_1⟩
  | 13, _, _, _, q_0 => exact ⟨ownsRow_box q_0.row hg (by decide) ht, q_0.byte⟩
  | k + 14, hk, _, _, _ => omega
set_option linter.unusedVariables false in
theorem h5Sp_st7 (at2 : Int) (p : Int × Int × Int) (kd : Int) (sg : List Int) (t : Sc4) (a2 : Option Addr) (c2 gs gp G B : Nat) {W W2 : World} {cs : Array Value} {fr : Nat × Nat} (hg : W.heap[(G + 1 + 1)]? = some (.cells cs 33 fr)) (ht : Touch ((G + 1 + 1)) ((G + 1 + 1) + 1) W W2) (k : Nat) (hk : k < 14) (hne : k ≠ 7) (hkill : 7 ∉ (h5Sp at2 p kd sg t a2 c2 gs gp G (B)).kill k) (v : Value) (hfact : (h5Sp at2 p kd sg t a2 c2 gs gp G (B)).fact k v W) : (h5Sp at2 p kd sg t a2 c2 gs gp G (B)).fact k v W2 := by
  match k, hk, hne, hkill, hfact with
  | 0, _, _, _, hq => exact hq
  | 1, _, _, _, hq => exact hq
  | 2, _, _, _, hq => exact hq
  | 3, _, _, _, hq => exact hq
  | 4, _, _, _, hq => exact hq
  | 5, _, _, _, hq => exact hq
  | 6, _, _, _, q_0 => exact box_box q_0 hg (by decide) ht
  | 7, _, hne, _, _ => exact absurd rfl hne
  | 8, _, _, _, hq => exact hq
  | 9, _, _, _, q_0 => exact box_box q_0 hg (by decide) ht
  | 10, _, _, hkill, _ => exact absurd (List.Mem.head _) hkill
  | 11, _, _, _, q_0 => exact box_box q_0 hg (by decide) ht
  | 12, _, _, _, ⟨q_0, q_1⟩ => exact ⟨(ht.block _ (Array.getElem?_eq_some_iff.1 q_0).1 (by omega)).trans q_0, q_1⟩
  | 13, _, _, _, q_0 => exact ⟨ownsRow_box q_0.row hg (by decide) ht, q_0.byte⟩
  | k + 14, hk, _, _, _ => omega

set_option maxRecDepth 10000 in
set_option maxHeartbeats 4000000 in
theorem l17Sign_any (HSPEC : ∀ (seed h next : Int) (am : Option Addr) (n c : Nat) (bs : List Int) (w : World), U64 seed → Row w am n bs → n ≤ 1000000000000 → Calls Tryz.prog 50 #[tkv seed h next, .slice am n c] w fun e w' => ∃ v, e = .returned v ∧ SgR seed h next bs w.heap.size w' v ∧ Below w.heap.size w w') (tag : Int) (am : Option Addr) (nn c : Nat) (ws : List Int) (at2 sc x h n : Int) (w : World) (hr : Row w am nn ws) (hc : am = none → c = 0) (hn : nn ≤ 4000) (ht0 : 1 ≤ tag) (ht1 : tag ≤ 30) (hat : -9223372036854775808 ≤ at2 ∧ at2 ≤ 9223372036854775807) (hx : U64 x) :
    Calls Tryz.prog 17 #[.int .i64 tag, .slice am nn c, .int .i64 at2, .agg #[.int .i64 sc, .int .u64 x, .int .i64 h, .int .i64 n]] w fun e w' => ∃ a c', e = .returned (nsOut (nsV tag ws at2 sc x h n) a c') ∧ Own w.heap.size w' a (nsV tag ws at2 sc x h n).sg.length c' (nsV tag ws at2 sc x h n).sg ∧ Below w.heap.size w w' := by
  obtain ⟨V, hV⟩ : ∃ V, V = (nsV tag ws at2 sc x h n) := ⟨_, rfl⟩
  obtain ⟨bd, hbd⟩ : ∃ bd, bd = sgB tag ws at2 := ⟨_, rfl⟩
  obtain ⟨sg, hsg⟩ : ∃ sg, sg = (saV sc x h n bd).1 := ⟨_, rfl⟩
  obtain ⟨t, ht⟩ : ∃ t, t = (saV sc x h n bd).2.1 := ⟨_, rfl⟩
  obtain ⟨cd, hcd⟩ : ∃ cd, cd = (saV sc x h n bd).2.2 := ⟨_, rfl⟩
  obtain ⟨p, hp0⟩ : ∃ p, p = (pubR sc x h n).1 := ⟨_, rfl⟩
  obtain ⟨pb, hpb⟩ : ∃ pb, pb = (pubR sc x h n).2 := ⟨_, rfl⟩
  obtain ⟨kd, hkd⟩ : ∃ kd, kd = kidN p.1 p.2.1 p.2.2 := ⟨_, rfl⟩
  obtain ⟨hE, hEl⟩ := sgB_enc tag ws at2 ht0 ht1 (by have := hr.len; omega)
  rw [← hbd] at hE hEl
  have hcb := saV_cd sc x h n bd
  have hpd := pubR_bdW sc x h n
  rw [← hcd] at hcb
  rw [← hp0] at hpd
  have HV1 : Hid (V = if cd = 0 then ⟨kd, at2, sg, t, 0⟩ else nsBad (10 + cd)) := by
    show _ = _
    rw [hV]
    unfold nsV
    rw [← hbd]
    have e2 : asV sc x h n bd = if cd = 0 then ⟨kd, sg, t, 0⟩ else ⟨0, [], (0, 0, 0, 0), 10 + cd⟩ := by unfold asV; rw [hkd, hp0, hsg, ht, hcd]
    rw [e2]
    by_cases hc : cd = 0
    · rw [if_pos hc, if_pos hc, if_pos rfl]
    · have h3 : ¬ 10 + cd = 0 := by omega
      rw [if_neg hc, if_neg hc, if_neg h3]
  have HSA : Hid (∀ W am c, Row W am bd.length bd → (am = none → c = 0) → Calls Tryz.prog 37 #[.agg #[.int .i64 sc, .int .u64 x, .int .i64 h, .int .i64 n], .slice am bd.length c] W fun e w' => ∃ a cap, e = .returned (.tuple #[.slice a sg.length cap, .agg #[.int .i64 t.1, .int .u64 t.2.1, .int .i64 t.2.2.1, .int .i64 t.2.2.2], .int .i64 cd]) ∧ Own W.heap.size w' a sg.length cap sg ∧ Below W.heap.size W w') := by
    intro W am c h1 h2
    have := specSignAny_walk HSPEC sc x h n am bd.length c bd W hx h1 (by omega) h2
    rw [← hsg, ← ht, ← hcd] at this
    exact this
  have HPU : Hid (∀ w, Calls Tryz.prog 39 #[.agg #[.int .i64 sc, .int .u64 x, .int .i64 h, .int .i64 n]] w fun e w' => e = .returned (.tuple #[.agg #[.int .i64 p.1, .int .u64 p.2.1, .int .i64 p.2.2], .bool pb]) ∧ Below w.heap.size w w') := by
    intro w'
    have := specPubOf_any sc x h n w' hx
    rw [← hp0, ← hpb] at this
    exact this
  have HKI : Hid (∀ w, Calls Tryz.prog 40 #[.agg #[.int .i64 p.1, .int .u64 p.2.1, .int .i64 p.2.2]] w fun e w' => e = .returned (.int .u64 kd) ∧ Below w.heap.size w w') := by
    intro w'
    have := specKeyId_any p.1 p.2.1 p.2.2 w' hpd.1 hpd.2.1 hpd.2.2
    rw [← hkd] at this
    exact this
  rw [← hV]
  obtain ⟨w1, hw1⟩ : ∃ w1, w1 = ((w.alloc (.cells #[.int .i64 sc, .int .u64 x, .int .i64 h, .int .i64 n] 33)).alloc (.cells #[.int .u64 0, .int .i64 0, .slice none 0 0, .slice none 0 0] 47)).alloc (.cells #[.int .i64 0, .int .u64 0, .int .i64 0, .int .i64 0] 33) := ⟨_, rfl⟩
  have hn3 := three_new w (.cells #[.int .i64 sc, .int .u64 x, .int .i64 h, .int .i64 n] 33) (.cells #[.int .u64 0, .int .i64 0, .slice none 0 0, .slice none 0 0] 47) (.cells #[.int .i64 0, .int .u64 0, .int .i64 0, .int .i64 0] 33)
  rw [← hw1] at hn3
  have HB1 : Hid (w1.heap[w.heap.size]? = some (.cells #[.int .i64 sc, .int .u64 x, .int .i64 h, .int .i64 n] 33 (0, 0)) ∧ w1.heap[w.heap.size + 1]? = some (.cells #[.int .u64 0, .int .i64 0, .slice none 0 0, .slice none 0 0] 47 (0, 0)) ∧ w1.heap[w.heap.size + 1 + 1]? = some (.cells #[.int .i64 0, .int .u64 0, .int .i64 0, .int .i64 0] 33 (0, 0))) := hn3.1
  have hbb := hn3.2
  have hl2 : w.heap.size + 1 + 1 < w1.heap.size := (Array.getElem?_eq_some_iff.1 HB1.out.2.2).1
  have HW : Hid (_ = _) := hw1
  clear hw1 hn3
  have HHB : Hid (∀ W, Below w1.heap.size w1 W → Calls Tryz.prog 38 #[.int .i64 tag, .slice am nn c, .int .i64 at2] W fun e w' => ∃ a' c', e = .returned (.slice a' bd.length c') ∧ Own W.heap.size w' a' bd.length c' bd ∧ Below W.heap.size W w') := fun W hW => l17Body_any tag am nn c ws at2 bd W (hr.kept (keepT hbb hW)) hc hn hE
  clear hV hbd hsg ht hcd hp0 hpb hkd hpd hE hEl HSPEC hr
  go_enter Tryz.func17, Tryz.ntmps17
  go_upto_region 1 with fail
  rw [← HW.out]
  clear HW
  have HBB : w1.heap.size ≤ w1.heap.size := Nat.le_refl _
  refine wp_region_ri (h1Sp tag am nn c at2 sc x h n bd sg t cd w.heap.size (w1.heap.size)) [11, 12, 13, 16, 17, 18, 19, 20, 21, 22, 23, 24, 25] (w1.heap.size) (fun a0 => a0.tmps.size = 43 ∧ aT a0 0 = .int .i64 tag ∧ aT a0 1 = .slice am nn c ∧ aT a0 2 = .int .i64 at2 ∧ aT a0 7 = .pointer (some ⟨w.heap.size, 0, none⟩)) (by kernel_rfl) rfl (by kernel_rfl) rfl ⟨rfl, rfl, rfl, rfl, rfl⟩ (h1Sp_stb tag am nn c at2 sc x h n bd sg t cd w.heap.size (w1.heap.size)) ?_ ?_ ?_
  · intro k hk hk2
    match k, hk, hk2 with
    | 14, _, _ => exact ⟨HB1.out.1, by omega⟩
    | 0, hk, _ => exact absurd hk (by show ¬ (14 ≤ 0); omega)
    | 1, hk, _ => exact absurd hk (by show ¬ (14 ≤ 1); omega)
    | 2, hk, _ => exact absurd hk (by show ¬ (14 ≤ 2); omega)
    | 3, hk, _ => exact absurd hk (by show ¬ (14 ≤ 3); omega)
    | 4, hk, _ => exact absurd hk (by show ¬ (14 ≤ 4); omega)
    | 5, hk, _ => exact absurd hk (by show ¬ (14 ≤ 5); omega)
    | 6, hk, _ => exact absurd hk (by show ¬ (14 ≤ 6); omega)
    | 7, hk, _ => exact absurd hk (by show ¬ (14 ≤ 7); omega)
    | 8, hk, _ => exact absurd hk (by show ¬ (14 ≤ 8); omega)
    | 9, hk, _ => exact absurd hk (by show ¬ (14 ≤ 9); omega)
    | 10, hk, _ => exact absurd hk (by show ¬ (14 ≤ 10); omega)
    | 11, hk, _ => exact absurd hk (by show ¬ (14 ≤ 11); omega)
    | 12, hk, _ => exact absurd hk (by show ¬ (14 ≤ 12); omega)
    | 13, hk, _ => exact absurd hk (by show ¬ (14 ≤ 13); omega)
    | k + 15, _, hk2 => exact absurd hk2 (by show ¬ (k + 15 < 15); omega)
  · rintro a0 ⟨hz, g0, g1, g2, g7⟩
    refine StepsRI.cons ?_ (StepsRI.cons ?_ (StepsRI.cons ?_ (StepsRI.cons ?_ (StepsRI.cons ?_ (StepsRI.cons ?_ (StepsRI.cons ?_ (StepsRI.cons ?_ (StepsRI.cons ?_ (StepsRI.cons ?_ (StepsRI.cons ?_ (StepsRI.cons ?_ (StepsRI.cons ?_ (StepsRI.cons ?_ (StepsRI.nil))))))))))))))
    · intro lQ b W hI hUN hED KQ hKQ
      have hg := (hI.vot 14 (of_decide_eq_true rfl) (of_decide_eq_true rfl) rfl).1
      refine wp_load_row 33 _ rfl (w.heap.size) ((hI.fr.same 7 (by decide)).trans g7) 33 #[.int .i64 sc, .int .u64 x, .int .i64 h, .int .i64 n] (0, 0) _ hg Tryz.underlying33 rfl (by kernel_rfl) ?_
      exact hKQ.out _ _ (hI.put 0 17 rfl rfl (by rw [hz]; decide) rfl hUN rfl HBB (h1Sp_stb tag am nn c at2 sc x h n bd sg t cd w.heap.size (w1.heap.size)) (Below.refl _ _) rfl)
    · intro lQ b W hI hUN hED KQ hKQ
      exact opw_move 0 rfl (hKQ.out _ _ (hI.put 1 18 rfl rfl (by rw [hz]; decide) rfl hUN rfl HBB (h1Sp_stb tag am nn c at2 sc x h n bd sg t cd w.heap.size (w1.heap.size)) (Below.refl _ _) ((hI.fr.same 0 (by decide)).trans g0)))
    · intro lQ b W hI hUN hED KQ hKQ
      exact opw_move 1 rfl (hKQ.out _ _ (hI.put 2 19 rfl rfl (by rw [hz]; decide) rfl hUN rfl HBB (h1Sp_stb tag am nn c at2 sc x h n bd sg t cd w.heap.size (w1.heap.size)) (Below.refl _ _) ((hI.fr.same 1 (by decide)).trans g1)))
    · intro lQ b W hI hUN hED KQ hKQ
      exact opw_move 2 rfl (hKQ.out _ _ (hI.put 3 20 rfl rfl (by rw [hz]; decide) rfl hUN rfl HBB (h1Sp_stb tag am nn c at2 sc x h n bd sg t cd w.heap.size (w1.heap.size)) (Below.refl _ _) ((hI.fr.same 2 (by decide)).trans g2)))
    · intro lQ b W hI hUN hED KQ hKQ
      have f0 := hI.got 1 (of_decide_eq_true rfl) (edge hED 1 (by kernel_rfl)) rfl
      replace f0 : aT b 18 = .int .i64 tag := f0
      have f1 := hI.got 2 (of_decide_eq_true rfl) (edge hED 2 (by kernel_rfl)) rfl
      replace f1 : aT b 19 = .slice am nn c := f1
      have f2 := hI.got 3 (of_decide_eq_true rfl) (edge hED 3 (by kernel_rfl)) rfl
      replace f2 : aT b 20 = .int .i64 at2 := f2
      refine opw_call 38 #[.tmp 18, .tmp 19, .tmp 20] _ _ _ rfl Tryz.func38 (by kernel_rfl) rfl #[.int .i64 tag, .slice am nn c, .int .i64 at2] (by simp [ev, f0, f1, f2]) ?_
      refine (HHB.out W hI.bel).mono ?_
      rintro e W2 ⟨a1, c1, rfl, ho, hb⟩
      exact ⟨_, rfl, hKQ.out _ _ (hI.put 4 21 rfl rfl (by rw [hz]; decide) rfl hUN rfl HBB (h1Sp_stb tag am nn c at2 sc x h n bd sg t cd w.heap.size (w1.heap.size)) hb ⟨a1, c1, rfl, ho.mono (Nat.le_trans HBB hI.bel.size)⟩)⟩
    · intro lQ b W hI hUN hED KQ hKQ
      have f0 := hI.got 0 (of_decide_eq_true rfl) (edge hED 0 (by kernel_rfl)) rfl
      replace f0 : aT b 17 = .agg #[.int .i64 sc, .int .u64 x, .int .i64 h, .int .i64 n] := f0
      have f1 := hI.got 4 (of_decide_eq_true rfl) (edge hED 4 (by kernel_rfl)) rfl
      obtain ⟨a1, c1, f1, o1_0⟩ := f1
      replace f1 : aT b 21 = .slice a1 bd.length c1 := f1
      refine opw_call 37 #[.tmp 17, .tmp 21] _ _ _ rfl Tryz.func37 (by kernel_rfl) rfl #[.agg #[.int .i64 sc, .int .u64 x, .int .i64 h, .int .i64 n], .slice a1 bd.length c1] (by simp [ev, f0, f1]) ?_
      refine (HSA.out W a1 c1 o1_0.toRow o1_0.nil).mono ?_
      rintro e W2 ⟨a2, c2, rfl, ho, hb⟩
      exact ⟨_, rfl, hKQ.out _ _ (hI.put 5 22 rfl rfl (by rw [hz]; decide) rfl hUN rfl HBB (h1Sp_stb tag am nn c at2 sc x h n bd sg t cd w.heap.size (w1.heap.size)) hb ⟨a2, c2, rfl, ho.mono (Nat.le_trans HBB hI.bel.size)⟩)⟩
    · intro lQ b W hI hUN hED KQ hKQ
      have f := hI.got 5 (of_decide_eq_true rfl) (edge hED 5 (by kernel_rfl)) rfl
      exact opw_move 22 rfl (hKQ.out _ _ (hI.put 6 16 rfl rfl (by rw [hz]; decide) rfl hUN rfl HBB (h1Sp_stb tag am nn c at2 sc x h n bd sg t cd w.heap.size (w1.heap.size)) (Below.refl _ _) f))
    · intro lQ b W hI hUN hED KQ hKQ
      have f := hI.got 6 (of_decide_eq_true rfl) (edge hED 6 (by kernel_rfl)) rfl
      obtain ⟨a2, c2, f, o_0⟩ := f
      exact opw_extract 16 0 rfl _ _ f rfl (hKQ.out _ _ (hI.put 7 23 rfl rfl (by rw [hz]; decide) rfl hUN rfl HBB (h1Sp_stb tag am nn c at2 sc x h n bd sg t cd w.heap.size (w1.heap.size)) (Below.refl _ _) ⟨a2, c2, rfl, o_0⟩))
    · intro lQ b W hI hUN hED KQ hKQ
      have f := hI.got 6 (of_decide_eq_true rfl) (edge hED 6 (by kernel_rfl)) rfl
      obtain ⟨a2, c2, f, o_0⟩ := f
      exact opw_extract 16 1 rfl _ _ f rfl (hKQ.out _ _ (hI.put 8 24 rfl rfl (by rw [hz]; decide) rfl hUN rfl HBB (h1Sp_stb tag am nn c at2 sc x h n bd sg t cd w.heap.size (w1.heap.size)) (Below.refl _ _) rfl))
    · intro lQ b W hI hUN hED KQ hKQ
      have f := hI.got 6 (of_decide_eq_true rfl) (edge hED 6 (by kernel_rfl)) rfl
      obtain ⟨a2, c2, f, o_0⟩ := f
      exact opw_extract 16 2 rfl _ _ f rfl (hKQ.out _ _ (hI.put 9 25 rfl rfl (by rw [hz]; decide) rfl hUN rfl HBB (h1Sp_stb tag am nn c at2 sc x h n bd sg t cd w.heap.size (w1.heap.size)) (Below.refl _ _) rfl))
    · intro lQ b W hI hUN hED KQ hKQ
      refine opw_value (w' := W.alloc (.cells #[.int .i64 0, .int .u64 0, .int .i64 0, .int .i64 0] 33)) (.pointer (some ⟨W.heap.size, 0, none⟩)) (by kernel_rfl) ?_
      exact hKQ.out _ _ (hI.put 10 12 rfl rfl (by rw [hz]; decide) rfl hUN rfl HBB (h1Sp_stb tag am nn c at2 sc x h n bd sg t cd w.heap.size (w1.heap.size)) ((Below.refl _ _).alloc (Nat.le_refl _) _) ⟨W.heap.size, rfl, heap_alloc_new W _, Nat.le_trans HBB hI.bel.size⟩)
    · intro lQ b W hI hUN hED KQ hKQ
      have f := hI.got 7 (of_decide_eq_true rfl) (edge hED 7 (by kernel_rfl)) rfl
      exact opw_assign 23 rfl (hKQ.out _ _ (hI.put 11 11 rfl rfl (by rw [hz]; decide) rfl hUN rfl HBB (h1Sp_stb tag am nn c at2 sc x h n bd sg t cd w.heap.size (w1.heap.size)) (Below.refl _ _) f))
    · intro lQ b W hI hUN hED KQ hKQ
      obtain ⟨g, fb, hgb, hge⟩ := hI.got1 10 12 (of_decide_eq_true rfl) (edge hED 10 (by kernel_rfl)) hUN rfl
      have f := hI.got 8 (of_decide_eq_true rfl) (edge hED 8 (by kernel_rfl)) rfl
      refine wp_store_row 33 _ _ rfl g #[.int .i64 t.1, .int .u64 t.2.1, .int .i64 t.2.2.1, .int .i64 t.2.2.2] fb f 33 _ hgb (by kernel_rfl) rfl (by simp [Value.oneCell']) ?_
      have ht := setRow_touch W g #[.int .i64 t.1, .int .u64 t.2.1, .int .i64 t.2.2.1, .int .i64 t.2.2.2]
      exact hKQ.out _ _ (hI.store 12 (fun j hj => by
          rcases List.mem_singleton.1 hj with rfl
          exact edge hED 10 (by kernel_rfl)) (hI.bel.trans (ht.below hge (Nat.le_trans HBB hI.bel.size))) (h1Sp_st12 tag am nn c at2 sc x h n bd sg t cd w.heap.size (w1.heap.size) hgb ht hge) ⟨g, fb, (setRow_heap W g _ _ _ _ hgb), hge⟩)
    · intro lQ b W hI hUN hED KQ hKQ
      have f := hI.got 9 (of_decide_eq_true rfl) (edge hED 9 (by kernel_rfl)) rfl
      exact opw_assign 25 rfl (hKQ.out _ _ (hI.put 13 13 rfl rfl (by rw [hz]; decide) rfl hUN rfl HBB (h1Sp_stb tag am nn c at2 sc x h n bd sg t cd w.heap.size (w1.heap.size)) (Below.refl _ _) f))
  · intro b W hf hb F
    obtain ⟨gs, e12, hgs, hge⟩ := F 12 (of_decide_eq_true rfl) rfl
    obtain ⟨a2, c2, e11, ho⟩ := F 11 (of_decide_eq_true rfl) rfl
    have e13 := F 13 (of_decide_eq_true rfl) rfl
    replace e12 : aT b 12 = _ := e12
    replace e11 : aT b 11 = _ := e11
    replace e13 : aT b 13 = _ := e13
    have HB4 : Hid (W.heap[w.heap.size + 1]? = some (.cells #[.int .u64 0, .int .i64 0, .slice none 0 0, .slice none 0 0] 47 (0, 0)) ∧ W.heap[w.heap.size + 1 + 1]? = some (.cells #[.int .i64 0, .int .u64 0, .int .i64 0, .int .i64 0] 33 (0, 0))) := ⟨below_kept HB1.out.2.1 hb, below_kept HB1.out.2.2 hb⟩
    have HS4 : Hid (W.heap[w.heap.size]? = some (.cells #[.int .i64 sc, .int .u64 x, .int .i64 h, .int .i64 n] 33 (0, 0))) := below_kept HB1.out.1 hb
    have HGS : Hid (W.heap[gs]? = some (.cells #[.int .i64 t.1, .int .u64 t.2.1, .int .i64 t.2.2.1, .int .i64 t.2.2.2] 33 (0, 0))) := hgs
    have hc4 := keepT hbb hb
    have hbs := hb.size
    have HO4 : Hid (Own w.heap.size W a2 sg.length c2 sg) := ho.mono hbb.size
    rw [hf.eq]
    simp only [puts, Act.put, List.setIfInBounds_toArray, List.set_cons_zero, List.set_cons_succ, e11, e12, e13]
    clear hf F e11 e12 e13 hgs ho hb
    generalize aT b = AT
    clear b
    obtain ⟨W4, hW4⟩ : ∃ W4, W4 = W := ⟨_, rfl⟩
    subst hW4
    go_upto_region 2 with fail
    by_cases hc5 : cd = 0
    case neg =>
      have HF := (show Hid (V = nsBad (10 + cd)) by show _ = _; rw [HV1.out, if_neg hc5])
      have z5 : (cd != 0) = true := by simp [hc5]
      have z10 : IntKind.i64.wrap (cd + 10) = 10 + cd := by
        have : cd = 1 ∨ cd = 2 := by omega
        rcases this with rfl | rfl <;> decide
      go_upto_region 3 with fail
      have HBB : w.heap.size ≤ W4.heap.size := by have := hc4.size; omega
      refine wp_region_rp (hzB cd w.heap.size (w.heap.size)) [10, 28, 29, 30, 31] (w.heap.size) (fun a0 => a0.tmps.size = 43 ∧ aT a0 8 = .pointer (some ⟨(w.heap.size + 1), 0, none⟩) ∧ aT a0 9 = .pointer (some ⟨(w.heap.size + 1 + 1), 0, none⟩) ∧ aT a0 13 = .int .i64 cd) rfl (by kernel_rfl) rfl ⟨rfl, rfl, rfl, rfl⟩ (hzB_stb cd w.heap.size (w.heap.size)) ?_ ?_ ?_
      · intro k hk hk2
        match k, hk, hk2 with
        | 7, _, _ => exact HB4.out.1
        | 8, _, _ => exact HB4.out.2
        | 0, hk, _ => exact absurd hk (by show ¬ (7 ≤ 0); omega)
        | 1, hk, _ => exact absurd hk (by show ¬ (7 ≤ 1); omega)
        | 2, hk, _ => exact absurd hk (by show ¬ (7 ≤ 2); omega)
        | 3, hk, _ => exact absurd hk (by show ¬ (7 ≤ 3); omega)
        | 4, hk, _ => exact absurd hk (by show ¬ (7 ≤ 4); omega)
        | 5, hk, _ => exact absurd hk (by show ¬ (7 ≤ 5); omega)
        | 6, hk, _ => exact absurd hk (by show ¬ (7 ≤ 6); omega)
        | k + 9, _, hk2 => exact absurd hk2 (by show ¬ (k + 9 < 9); omega)
      · rintro a0 ⟨hz, g8, g9, g13⟩
        refine StepsRI.cons ?_ (StepsRI.cons ?_ (StepsRI.cons ?_ (StepsRI.cons ?_ (StepsRI.cons ?_ (StepsRI.cons ?_ (StepsRI.cons ?_ (StepsRI.nil)))))))
        · intro lQ b W hI hUN hED KQ hKQ
          refine opw_build 47 _ rfl #[] (by simp []) (.agg #[.int .u64 0, .int .i64 0, .slice none 0 0, .slice none 0 0]) (by kernel_rfl) ?_
          exact hKQ.out _ _ (hI.put 0 28 rfl rfl (by rw [hz]; decide) rfl hUN rfl HBB (hzB_stb cd w.heap.size (w.heap.size)) (Below.refl _ _) rfl)
        · intro lQ b W hI hUN hED KQ hKQ
          refine opw_build 33 _ rfl #[] (by simp []) (.agg #[.int .i64 0, .int .u64 0, .int .i64 0, .int .i64 0]) (by kernel_rfl) ?_
          exact hKQ.out _ _ (hI.put 1 29 rfl rfl (by rw [hz]; decide) rfl hUN rfl HBB (hzB_stb cd w.heap.size (w.heap.size)) (Below.refl _ _) rfl)
        · intro lQ b W hI hUN hED KQ hKQ
          exact opw_move 13 rfl (hKQ.out _ _ (hI.put 2 30 rfl rfl (by rw [hz]; decide) rfl hUN rfl HBB (hzB_stb cd w.heap.size (w.heap.size)) (Below.refl _ _) ((hI.fr.same 13 (by decide)).trans g13)))
        · intro lQ b W hI hUN hED KQ hKQ
          have f := hI.got 2 (of_decide_eq_true rfl) (edge hED 2 (by kernel_rfl)) rfl
          replace f : aT b 30 = .int .i64 cd := f
          have f2 : b.tmps[30]?.getD undef = .int .i64 cd := by simpa [aT] using f
          exact opw_value (.int .i64 (10 + cd)) (by simp [execOp, Act.eval, f2, go_sem, z10]) (hKQ.out _ _ (hI.put 3 31 rfl rfl (by rw [hz]; decide) rfl hUN rfl HBB (hzB_stb cd w.heap.size (w.heap.size)) (Below.refl _ _) rfl))
        · intro lQ b W hI hUN hED KQ hKQ
          have hgb := (hI.vot1 7 4 (of_decide_eq_true rfl) (of_decide_eq_true rfl) hUN rfl)
          have fb := ((hI.fr.same 8 (by decide)).trans g8)
          have f := hI.got 0 (of_decide_eq_true rfl) (edge hED 0 (by kernel_rfl)) rfl
          refine wp_store_row 47 _ _ rfl ((w.heap.size + 1)) #[.int .u64 0, .int .i64 0, .slice none 0 0, .slice none 0 0] fb f 47 _ hgb (by kernel_rfl) rfl (by simp [Value.oneCell']) ?_
          have ht := setRow_touch W ((w.heap.size + 1)) #[.int .u64 0, .int .i64 0, .slice none 0 0, .slice none 0 0]
          exact hKQ.out _ _ (hI.store 4 (fun j hj => by cases hj) (hI.bel.trans (ht.below (by first | exact HGE8 | omega) (Nat.le_trans HBB hI.bel.size))) (hzB_st4 cd w.heap.size (w.heap.size) hgb ht) (setRow_heap W ((w.heap.size + 1)) _ _ _ _ hgb))
        · intro lQ b W hI hUN hED KQ hKQ
          have hgb := (hI.vot1 8 5 (of_decide_eq_true rfl) (of_decide_eq_true rfl) hUN rfl)
          have fb := ((hI.fr.same 9 (by decide)).trans g9)
          have f := hI.got 1 (of_decide_eq_true rfl) (edge hED 1 (by kernel_rfl)) rfl
          refine wp_store_row 33 _ _ rfl ((w.heap.size + 1 + 1)) #[.int .i64 0, .int .u64 0, .int .i64 0, .int .i64 0] fb f 33 _ hgb (by kernel_rfl) rfl (by simp [Value.oneCell']) ?_
          have ht := setRow_touch W ((w.heap.size + 1 + 1)) #[.int .i64 0, .int .u64 0, .int .i64 0, .int .i64 0]
          exact hKQ.out _ _ (hI.store 5 (fun j hj => by cases hj) (hI.bel.trans (ht.below (by first | exact HGE9 | omega) (Nat.le_trans HBB hI.bel.size))) (hzB_st5 cd w.heap.size (w.heap.size) hgb ht) (setRow_heap W ((w.heap.size + 1 + 1)) _ _ _ _ hgb))
        · intro lQ b W hI hUN hED KQ hKQ
          have f := hI.got 3 (of_decide_eq_true rfl) (edge hED 3 (by kernel_rfl)) rfl
          exact opw_assign 31 rfl (hKQ.out _ _ (hI.put 6 10 rfl rfl (by rw [hz]; decide) rfl hUN rfl HBB (hzB_stb cd w.heap.size (w.heap.size)) (Below.refl _ _) f))
      · intro b W hf hb F
        have e0 := F 4 (of_decide_eq_true rfl) rfl
        have e1 := F 5 (of_decide_eq_true rfl) rfl
        have e3 := F 6 (of_decide_eq_true rfl) rfl
        replace e3 : aT b 10 = _ := e3
        rw [hf.eq]
        simp only [puts, Act.put, List.setIfInBounds_toArray, List.set_cons_zero, List.set_cons_succ, e3]
        clear hf F
        go_wp2
        try simp only [Exit.inBlock, Exit.then]
        exact bodyPost_ret (results_ns rfl _ (w.heap.size + 1) (w.heap.size + 1 + 1) rfl rfl _ rfl _ _ _ e0 e1 rfl rfl) rfl ⟨none, 0, by rw [HF.out]; rfl, by rw [HF.out]; exact own_none _ _, hc4.trans hb⟩
  
    case pos =>
      have HF := (show Hid (V = ⟨kd, at2, sg, t, 0⟩) by show _ = _; rw [HV1.out, if_pos hc5])
      have z5 : (cd != 0) = false := by simp [hc5]
      clear hc5
      obtain ⟨s0, s1, s2, s3⟩ := cells4 HS4.out
      go_wp2_with fail
      refine (HPU.out W4).mono ?_
      rintro e w5 ⟨rfl, hb5⟩
      clear s0 s1 s2 s3
      obtain ⟨w6, hw6⟩ : ∃ w6, w6 = w5.alloc (.cells #[.int .i64 p.1, .int .u64 p.2.1, .int .i64 p.2.2] 68) := ⟨_, rfl⟩
      have hb6 : Below w5.heap.size w5 w6 := by rw [hw6]; exact (Below.refl _ _).alloc (Nat.le_refl _) _
      have hb56 := keepT hb5 hb6
      have HP6 : Hid (w6.heap[w5.heap.size]? = some (.cells #[.int .i64 p.1, .int .u64 p.2.1, .int .i64 p.2.2] 68 (0, 0))) := by show _ = _; rw [hw6]; exact heap_alloc_new w5 _
      have hc6 := keepT hc4 hb56
      have HW : Hid (_ = _) := hw6
      have hs5 := hb5.size
      have hs6 := hb6.size
      clear hw6
      go_upto_region 5 with fail
      rw [← HW.out]
      clear HW
      have HBB : w.heap.size ≤ w6.heap.size := by have := hc6.size; omega
      refine wp_region_ri (h5Sp at2 p kd sg t a2 c2 gs w5.heap.size w.heap.size (w.heap.size)) [10, 37, 38, 39, 40, 41, 42] (w.heap.size) (fun a0 => a0.tmps.size = 43 ∧ aT a0 2 = .int .i64 at2 ∧ aT a0 8 = .pointer (some ⟨(w.heap.size + 1), 0, none⟩) ∧ aT a0 9 = .pointer (some ⟨(w.heap.size + 1 + 1), 0, none⟩) ∧ aT a0 11 = .slice a2 sg.length c2 ∧ aT a0 12 = .pointer (some ⟨gs, 0, none⟩) ∧ aT a0 14 = .pointer (some ⟨w5.heap.size, 0, none⟩)) (by kernel_rfl) rfl (by kernel_rfl) rfl ⟨rfl, rfl, rfl, rfl, rfl, rfl, rfl⟩ (h5Sp_stb at2 p kd sg t a2 c2 gs w5.heap.size w.heap.size (w.heap.size)) ?_ ?_ ?_
      · intro k hk hk2
        match k, hk, hk2 with
        | 9, _, _ => exact below_kept HB4.out.1 hb56
        | 10, _, _ => exact below_kept HB4.out.2 hb56
        | 11, _, _ => exact HP6.out
        | 12, _, _ => exact ⟨below_kept HGS.out hb56, by omega⟩
        | 13, _, _ => exact (show Own w.heap.size w6 a2 sg.length c2 sg from HO4.out.kept hb56)
        | 0, hk, _ => exact absurd hk (by show ¬ (9 ≤ 0); omega)
        | 1, hk, _ => exact absurd hk (by show ¬ (9 ≤ 1); omega)
        | 2, hk, _ => exact absurd hk (by show ¬ (9 ≤ 2); omega)
        | 3, hk, _ => exact absurd hk (by show ¬ (9 ≤ 3); omega)
        | 4, hk, _ => exact absurd hk (by show ¬ (9 ≤ 4); omega)
        | 5, hk, _ => exact absurd hk (by show ¬ (9 ≤ 5); omega)
        | 6, hk, _ => exact absurd hk (by show ¬ (9 ≤ 6); omega)
        | 7, hk, _ => exact absurd hk (by show ¬ (9 ≤ 7); omega)
        | 8, hk, _ => exact absurd hk (by show ¬ (9 ≤ 8); omega)
        | k + 14, _, hk2 => exact absurd hk2 (by show ¬ (k + 14 < 14); omega)
      · rintro a0 ⟨hz, g2, g8, g9, g11, g12, g14⟩
        refine StepsRI.cons ?_ (StepsRI.cons ?_ (StepsRI.cons ?_ (StepsRI.cons ?_ (StepsRI.cons ?_ (StepsRI.cons ?_ (StepsRI.cons ?_ (StepsRI.cons ?_ (StepsRI.cons ?_ (StepsRI.nil)))))))))
        · intro lQ b W hI hUN hED KQ hKQ
          have hg := (hI.vot 11 (of_decide_eq_true rfl) (of_decide_eq_true rfl) rfl)
          refine wp_load_row 68 _ rfl (w5.heap.size) ((hI.fr.same 14 (by decide)).trans g14) 68 #[.int .i64 p.1, .int .u64 p.2.1, .int .i64 p.2.2] (0, 0) _ hg Tryz.underlying68 rfl (by kernel_rfl) ?_
          exact hKQ.out _ _ (hI.put 0 37 rfl rfl (by rw [hz]; decide) rfl hUN rfl HBB (h5Sp_stb at2 p kd sg t a2 c2 gs w5.heap.size w.heap.size (w.heap.size)) (Below.refl _ _) rfl)
        · intro lQ b W hI hUN hED KQ hKQ
          have f0 := hI.got 0 (of_decide_eq_true rfl) (edge hED 0 (by kernel_rfl)) rfl
          replace f0 : aT b 37 = .agg #[.int .i64 p.1, .int .u64 p.2.1, .int .i64 p.2.2] := f0
          refine opw_call 40 #[.tmp 37] _ _ _ rfl Tryz.func40 (by kernel_rfl) rfl #[.agg #[.int .i64 p.1, .int .u64 p.2.1, .int .i64 p.2.2]] (by simp [ev, f0]) ?_
          refine (HKI.out W).mono ?_
          rintro e W2 ⟨rfl, hb⟩
          exact ⟨_, rfl, hKQ.out _ _ (hI.put 1 38 rfl rfl (by rw [hz]; decide) rfl hUN rfl HBB (h5Sp_stb at2 p kd sg t a2 c2 gs w5.heap.size w.heap.size (w.heap.size)) hb rfl)⟩
        · intro lQ b W hI hUN hED KQ hKQ
          exact opw_move 2 rfl (hKQ.out _ _ (hI.put 2 39 rfl rfl (by rw [hz]; decide) rfl hUN rfl HBB (h5Sp_stb at2 p kd sg t a2 c2 gs w5.heap.size w.heap.size (w.heap.size)) (Below.refl _ _) ((hI.fr.same 2 (by decide)).trans g2)))
        · intro lQ b W hI hUN hED KQ hKQ
          exact opw_move 11 rfl (hKQ.out _ _ (hI.put 3 40 rfl rfl (by rw [hz]; decide) rfl hUN rfl HBB (h5Sp_stb at2 p kd sg t a2 c2 gs w5.heap.size w.heap.size (w.heap.size)) (Below.refl _ _) ((hI.fr.same 11 (by decide)).trans g11)))
        · intro lQ b W hI hUN hED KQ hKQ
          have f0 := hI.got 1 (of_decide_eq_true rfl) (edge hED 1 (by kernel_rfl)) rfl
          replace f0 : aT b 38 = .int .u64 kd := f0
          have f1 := hI.got 2 (of_decide_eq_true rfl) (edge hED 2 (by kernel_rfl)) rfl
          replace f1 : aT b 39 = .int .i64 at2 := f1
          have f2 := hI.got 3 (of_decide_eq_true rfl) (edge hED 3 (by kernel_rfl)) rfl
          replace f2 : aT b 40 = .slice a2 sg.length c2 := f2
          refine opw_build 47 _ rfl #[(0, .int .u64 kd), (1, .int .i64 at2), (2, .slice a2 sg.length c2)] (by simp [ev, f0, f1, f2]) (.agg #[.int .u64 kd, .int .i64 at2, .slice a2 sg.length c2, .slice none 0 0]) (by kernel_rfl) ?_
          exact hKQ.out _ _ (hI.put 4 41 rfl rfl (by rw [hz]; decide) rfl hUN rfl HBB (h5Sp_stb at2 p kd sg t a2 c2 gs w5.heap.size w.heap.size (w.heap.size)) (Below.refl _ _) rfl)
        · intro lQ b W hI hUN hED KQ hKQ
          have hg := (hI.vot 12 (of_decide_eq_true rfl) (of_decide_eq_true rfl) rfl).1
          refine wp_load_row 33 _ rfl (gs) ((hI.fr.same 12 (by decide)).trans g12) 33 #[.int .i64 t.1, .int .u64 t.2.1, .int .i64 t.2.2.1, .int .i64 t.2.2.2] (0, 0) _ hg Tryz.underlying33 rfl (by kernel_rfl) ?_
          exact hKQ.out _ _ (hI.put 5 42 rfl rfl (by rw [hz]; decide) rfl hUN rfl HBB (h5Sp_stb at2 p kd sg t a2 c2 gs w5.heap.size w.heap.size (w.heap.size)) (Below.refl _ _) rfl)
        · intro lQ b W hI hUN hED KQ hKQ
          have hgb := (hI.vot1 9 6 (of_decide_eq_true rfl) (of_decide_eq_true rfl) hUN rfl)
          have fb := ((hI.fr.same 8 (by decide)).trans g8)
          have f := hI.got 4 (of_decide_eq_true rfl) (edge hED 4 (by kernel_rfl)) rfl
          refine wp_store_row 47 _ _ rfl ((w.heap.size + 1)) #[.int .u64 kd, .int .i64 at2, .slice a2 sg.length c2, .slice none 0 0] fb f 47 _ hgb (by kernel_rfl) rfl (by simp [Value.oneCell']) ?_
          have ht := setRow_touch W ((w.heap.size + 1)) #[.int .u64 kd, .int .i64 at2, .slice a2 sg.length c2, .slice none 0 0]
          exact hKQ.out _ _ (hI.store 6 (fun j hj => by cases hj) (hI.bel.trans (ht.below (by first | exact HGE8 | omega) (Nat.le_trans HBB hI.bel.size))) (h5Sp_st6 at2 p kd sg t a2 c2 gs w5.heap.size w.heap.size (w.heap.size) hgb ht) (setRow_heap W ((w.heap.size + 1)) _ _ _ _ hgb))
        · intro lQ b W hI hUN hED KQ hKQ
          have hgb := (hI.vot1 10 7 (of_decide_eq_true rfl) (of_decide_eq_true rfl) hUN rfl)
          have fb := ((hI.fr.same 9 (by decide)).trans g9)
          have f := hI.got 5 (of_decide_eq_true rfl) (edge hED 5 (by kernel_rfl)) rfl
          refine wp_store_row 33 _ _ rfl ((w.heap.size + 1 + 1)) #[.int .i64 t.1, .int .u64 t.2.1, .int .i64 t.2.2.1, .int .i64 t.2.2.2] fb f 33 _ hgb (by kernel_rfl) rfl (by simp [Value.oneCell']) ?_
          have ht := setRow_touch W ((w.heap.size + 1 + 1)) #[.int .i64 t.1, .int .u64 t.2.1, .int .i64 t.2.2.1, .int .i64 t.2.2.2]
          exact hKQ.out _ _ (hI.store 7 (fun j hj => by cases hj) (hI.bel.trans (ht.below (by first | exact HGE9 | omega) (Nat.le_trans HBB hI.bel.size))) (h5Sp_st7 at2 p kd sg t a2 c2 gs w5.heap.size w.heap.size (w.heap.size) hgb ht) (setRow_heap W ((w.heap.size + 1 + 1)) _ _ _ _ hgb))
        · intro lQ b W hI hUN hED KQ hKQ
          exact opw_const (.int .i64 0) rfl (hKQ.out _ _ (hI.put 8 10 rfl rfl (by rw [hz]; decide) rfl hUN rfl HBB (h5Sp_stb at2 p kd sg t a2 c2 gs w5.heap.size w.heap.size (w.heap.size)) (Below.refl _ _) rfl))
      · intro b W hf hb F
        have e8 := F 6 (of_decide_eq_true rfl) rfl
        have e9 := F 7 (of_decide_eq_true rfl) rfl
        have e10 := F 8 (of_decide_eq_true rfl) rfl
        have hO := F 13 (of_decide_eq_true rfl) rfl
        replace e10 : aT b 10 = _ := e10
        rw [hf.eq]
        simp only [puts, Act.put, List.setIfInBounds_toArray, List.set_cons_zero, List.set_cons_succ, e10]
        clear hf F
        go_wp2
        try simp only [Exit.inBlock, Exit.then]
        exact bodyPost_ret (results_ns rfl _ (w.heap.size + 1) (w.heap.size + 1 + 1) rfl rfl _ rfl _ _ _ e8 e9 rfl rfl) rfl ⟨a2, c2, by rw [HF.out]; rfl, by rw [HF.out]; exact hO, hc6.trans hb⟩

end Go.Proofs.YtpnhhhhmonbajaaGreat

