import Derived.Test.YtpnhhhhmonbajaaGreatTT2
namespace Go.Proofs.YtpnhhhhmonbajaaGreat
open Go.RowKit

theorem keepT {w w1 w2 : World} (h : Below w.heap.size w w1) (k : Below w1.heap.size w1 w2) : Below w.heap.size w w2 := h.trans (k.mono h.size)
theorem Tryz.infoBytes : (Tryz.prog.info? 22).map (fun i => (i.zero, i.size, i.bytes)) = some (some (.slice none 0 0), 1, 24) := by kernel_rfl
/-- The digest of a word and of digests. -/
def hashD (word : List Int) (ds : List Int) : Int := hashL (partsL (word :: ds.map eightI))
theorem hashD_bd (word ds : List Int) : U64 (hashD word ds) := hashL_bd _
def bytesOfP (ps : List Part) : List (List Int) := ps.map fun p => p.2.2.2
theorem total_parts (word : List Int) (ds : List Int) : total (word :: ds.map eightI) = word.length + 8 * ds.length := by
  unfold total
  rw [List.map_cons, List.sum_cons, List.map_map]
  have : ∀ l : List Int, (l.map (List.length ∘ eightI)).sum = 8 * l.length := by
    intro l
    induction l with
    | nil => rfl
    | cons x r ih => rw [List.map_cons, List.sum_cons, ih, List.length_cons]; simp [eightI_len]; omega
  rw [this]
theorem map_snoc (ds : List Int) (k : Nat) (h : k < ds.length) : (ds.take (k + 1)).map eightI = (ds.take k).map eightI ++ [eightI (ds.getD k 0)] := by rw [take_snoc ds k h, List.map_append]; rfl

set_option maxRecDepth 10000 in
set_option maxHeartbeats 2000000 in
theorem hashDigests_any (s : ByteArray) (a : Option Addr) (n c : Nat) (ds : List Int) (w : World) (h : RowU w a n ds) (hn : n ≤ 100000) (hs : s.size ≤ 1000) :
    Calls Tryz.prog 146 #[.string s, .slice a n c] w fun e w' => e = .returned (.int .u64 (hashD (strL s) ds)) ∧ Below w.heap.size w w' := by
  obtain ⟨i0, hi, hz0, hz1, hz2⟩ := info_parts Tryz.infoBytes
  have H0 : Hid (RowU w a n ds) := h
  have HL : Hid (ds.length = n) := h.len
  clear h
  obtain ⟨cp, W, hcv, hgd, hb0⟩ := conv_strT w s
  have HO : Hid (OwnP W.heap.size (W.alloc (.cells #[.slice (some ⟨w.heap.size, 0, none⟩) s.size cp] 22)) (some ⟨W.heap.size, 0, none⟩) 1 1 [(some ⟨w.heap.size, 0, none⟩, s.size, cp, strL s)]) := ownP_one W _ hgd
  have hb1 : Below w.heap.size w (W.alloc (.cells #[.slice (some ⟨w.heap.size, 0, none⟩) s.size cp] 22)) := hb0.alloc hb0.size _
  have hWs := hb0.size
  go_enter Tryz.func146, Tryz.ntmps146
  go_wp2
  clear hcv
  go_loopw [5, 13] (fun o i wr => ∃ (k m cc : Nat) (ao : Option Addr) (ps : List Part), k ≤ n ∧ m = k + 1 ∧ i = .int .i64 k ∧ o = .slice ao m cc ∧ OwnP w.heap.size wr ao m cc ps ∧ Hid (bytesOfP ps = strL s :: (ds.take k).map eightI) ∧ Below w.heap.size w wr) (fun _ i _ => n - (intOf i).toNat)
  case atStart => exact ⟨0, 1, 1, _, _, Nat.zero_le _, rfl, rfl, rfl, ⟨⟨HO.out.row.1, by rcases HO.out.row.2 with h | ⟨g, cap, cur, hv, hb, r⟩; exact .inl h; exact .inr ⟨g, cap, cur, hv, by omega, r⟩⟩, HO.out.get⟩, rfl, hb1⟩
  case round =>
    obtain ⟨k, m, cc, ao, ps, hk, rfl, rfl, rfl, hor, HP, hbr⟩ := hrel
    have hws := hbr.size
    by_cases hlt : k < n
    · obtain ⟨b, off, rfl, hlb, hc0⟩ := H0.out.get k hlt
      have hcell : wr.cell? ⟨b, off + k, none⟩ = some (.int .u64 (ds.getD k 0)) := (hbr.cell (p := ⟨b, off + k, none⟩) hlb).trans hc0
      obtain ⟨hd0, hd1⟩ := H0.out.rng k
      obtain ⟨d, hd⟩ : ∃ d, d = ds.getD k 0 := ⟨_, rfl⟩
      rw [← hd] at hcell hd0 hd1
      have HN : Hid (strL s :: (ds.take (k + 1)).map eightI = (strL s :: (ds.take k).map eightI) ++ [eightI d]) := by show _ = _; rw [map_snoc ds k (by rw [HL.out]; exact hlt), hd]; rfl
      have hlti : (k : Int) < (n : Int) := by omega
      have HOR : Hid (_) := hor
      clear hd hc0 hor HO
      go_wp2_with fail
      refine (digestBytes_any d _ hd0 hd1).mono ?_
      rintro e w2 ⟨g, rfl, hrow, ⟨cs, fr, hty⟩, hb2⟩
      have hgd2 : Good w2 (some ⟨g, 0, none⟩, 8, 8, eightI d) := ⟨hrow, (fun h => by cases h), fun b off s e => by simp at e; obtain ⟨rfl, _⟩ := e; exact ⟨cs, _, fr, hty, by decide⟩⟩
      have hor2 := HOR.out.kept hb2
      have hal : Below w2.heap.size w2 (w2.alloc (.cells #[.slice (some ⟨g, 0, none⟩) 8 8] 22)) := (Below.refl _ _).alloc (Nat.le_refl _) _
      have hor3 := hor2.kept hal
      have hgd3 := hgd2.kept hal
      have hbr3 : Below w.heap.size w (w2.alloc (.cells #[.slice (some ⟨g, 0, none⟩) 8 8] 22)) := keepT (keepT hbr hb2) hal
      have hcl : ∀ jj uu, ([pval (some ⟨g, 0, none⟩, 8, 8, eightI d)] : List Value)[jj]? = some uu → (w2.alloc (.cells #[.slice (some ⟨g, 0, none⟩) 8 8] 22)).cell? ((⟨w2.heap.size, 0, none⟩ : Addr).add jj) = some uu := by
        intro jj uu hju
        rw [Addr.add_lit, Nat.zero_add, cell_of_row _ w2.heap.size jj _ 22 _ (heap_alloc_new w2 _), ← hju]
        simp [pval]
      clear hrow hty hgd2 hor2 hal HOR
      go_wp2_with (first | (at_builtin; refine wpList_append_own _ rfl (.tmp 17) (.tmp 20) 105 rfl w.heap.size 22 i0 _ 1 24 Tryz.underlying105 hi hz0 hz1 hz2 rfl (by decide) _ (k + 1) _ rfl hor3.row ⟨w2.heap.size, 0, none⟩ 1 1 [pval (some ⟨g, 0, none⟩, 8, 8, eightI d)] rfl rfl hcl (by intro u hu; simp at hu; subst hu; rfl) (by unfold maxLen; omega) (by omega) (by have := hbr3.size; exact this) ?_; intro v4 w4 hv4 hg4 _))
      have he : ps.map pval ++ [pval (some ⟨g, 0, none⟩, 8, 8, eightI d)] = (ps ++ [((some ⟨g, 0, none⟩, 8, 8, eightI d) : Part)]).map pval := by rw [List.map_append]; rfl
      rw [he] at hv4
      obtain ⟨a4, c4, rfl, ho4⟩ := ownP_appended hor3.row hv4 hg4 hor3.get hgd3
      have hbr4 : Below w.heap.size w w4 := hbr3.grown hg4 hbr3.size (fun k hk => (hor3.row.lt k hk).1)
      have HN2 : Hid (bytesOfP (ps ++ [((some ⟨g, 0, none⟩, 8, 8, eightI d) : Part)]) = strL s :: (ds.take (k + 1)).map eightI) := by show _ = _; rw [HN.out, ← HP.out]; unfold bytesOfP; rw [List.map_append]; rfl
      go_roundw
      case rel => exact ⟨k + 1, k + 1 + 1, c4, a4, _, by omega, rfl, by go_num, rfl, ho4, HN2, hbr4⟩
      case measure => simp [intOf]; omega
    · obtain rfl : k = n := by omega
      have HR : Hid (Rows2 wr ao (k + 1) (strL s :: ds.map eightI)) := by
        have := hor.rows
        have e := HP.out
        rw [List.take_of_length_le (by rw [HL.out]; exact Nat.le_refl _)] at e
        rw [← e]
        exact this
      have HT : Hid (total (strL s :: ds.map eightI) ≤ 2097152) := by show _ ≤ _; rw [total_parts, strL_len, HL.out]; omega
      clear hor HO HP
      go_wp2_with fail
      refine (implHashAll_any ao (k + 1) cc (strL s :: ds.map eightI) _ HR.out (by omega) HT.out).mono ?_
      rintro e w2 ⟨rfl, hb2⟩
      go_wp2
      go_ret
      exact ⟨rfl, keepT hbr hb2⟩

end Go.Proofs.YtpnhhhhmonbajaaGreat
