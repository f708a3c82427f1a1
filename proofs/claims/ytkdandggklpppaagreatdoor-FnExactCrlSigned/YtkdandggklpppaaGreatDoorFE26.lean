import Derived.Test.YtkdandggklpppaaGreatDoorFE24
import Derived.Test.YtkdandggklpppaaGreatDoorFE15
set_option maxRecDepth 10000
set_option maxHeartbeats 8000000
set_option linter.unusedVariables false
namespace Go.Proofs.YtkdandggklpppaaGreatDoor
open Go.RowKit
theorem someName_any (a:Option Addr)(n c:Nat)(xs:List PT)(w:World)(h:Pts w a n xs)(hz:∀ k,k<n→(xs.getD k default).val.size≤1048576) :
  Calls Tryz.prog 45 #[nmv a n c] w (Says (calledP xs) w):=by
 have HL:Hid (xs.length=n):=h.len
 have hn:=h.max
 obtain ⟨w0,hw0⟩:∃ w0,w0=w.alloc (.cells #[.slice a n c] 36):=⟨_,rfl⟩
 have hb0:Below w.heap.size w w0:=by rw [hw0]; exact (Below.refl _ _).alloc (Nat.le_refl _) _
 have hh0:w0.heap[w.heap.size]? = some (.cells #[.slice a n c] 36):=by rw [hw0]; exact heap_alloc_new w _
 have hl0:w.heap.size<w0.heap.size:=(Array.getElem?_eq_some_iff.1 hh0).1
 have HK:Hid (Pts w0 a n xs):=h.kept hb0
 have HZ:Hid (_):=hz
 clear h hz
 unfold nmv
 go_enter Tryz.func45,Tryz.ntmps45
 go_wp2_with fail
 rw [← hw0]
 clear hw0
 refine (implNameOk_any a n c xs _ HK.out HZ.out).mono ?_
 rintro e w1 ⟨b,rfl,hb,hb1⟩
 have hc:w1.cell? ⟨w.heap.size,0,none⟩=some (.slice a n c):=(cell_of_row _ _ 0 _ 36 (0,0) ((hb1.block _ hl0).trans hh0)).trans rfl
 have HB:Hid (Below w.heap.size w w1):=hb0.trans (hb1.mono hb0.size)
 clear hb0 hb1 hh0
 rcases b with _ | _
 ·have HN:Hid (¬ calledP xs):=fun q=>by have:=hb.out.2 q.1; simp at this
  clear hb
  go_wp2
  go_ret
  exact says_f HN.out HB.out
 ·have HN:Hid (nameP xs):=hb.out.1 rfl
  clear hb
  by_cases h0:n=0
  ·subst h0
   have HE:Hid (¬ calledP xs):=fun q=>q.2 (List.eq_nil_of_length_eq_zero HL.out)
   go_wp2
   go_ret
   exact says_f HE.out HB.out
  ·have hp:(0:Int)<(n:Int):=by omega
   have HE:Hid (calledP xs):=⟨HN.out,fun e=>h0 (by rw [← HL.out,e]; rfl)⟩
   go_wp2
   go_ret
   exact ⟨decide (0<n),rfl,⟨fun _=>HE.out,fun _=>decide_eq_true (by omega)⟩,HB.out⟩
theorem isTime_any (t:Int)(w:World):Calls Tryz.prog 77 #[.int .i64 t] w fun e w'=>e=.returned (.bool (decide (0≤t∧t≤253402300799)))∧w=w':=by
 go_enter Tryz.func77,Tryz.ntmps77
 go_wp2_with fail
 refine (inBounds_any t 0 253402300799 _).mono ?_
 rintro e w1 ⟨rfl,rfl⟩
 obtain ⟨v,hv⟩:∃ v,decide (0≤t∧t≤253402300799)=v:=⟨_,rfl⟩
 rw [hv]
 have HV:Hid (decide (0≤t∧t≤253402300799)=v):=hv
 clear hv
 go_wp2
 go_ret
 exact ⟨by rw [HV.out]; rfl,rfl⟩
theorem spanOk_any (s t:Int)(w:World):Calls Tryz.prog 47 #[.int .i64 s,.int .i64 t] w fun e w'=>e=.returned (.bool (decide ((0≤s∧s≤253402300799)∧(0≤t∧t≤253402300799)∧s≤t)))∧w=w':=by
 by_cases h1:0≤s∧s≤253402300799
 case neg =>
  have HN:Hid (decide ((0≤s∧s≤253402300799)∧(0≤t∧t≤253402300799)∧s≤t)=false):=decide_eq_false (fun q=>h1 q.1)
  go_enter Tryz.func47,Tryz.ntmps47
  go_wp2_with fail
  refine (isTime_any s _).mono ?_
  rintro e w9 ⟨rfl,hw9⟩
  subst hw9
  rw [decide_eq_false h1]
  clear h1
  go_wp2
  go_ret
  exact ⟨by rw [HN.out]; rfl,rfl⟩
 by_cases h2:0≤t∧t≤253402300799
 case neg =>
  have HN:Hid (decide ((0≤s∧s≤253402300799)∧(0≤t∧t≤253402300799)∧s≤t)=false):=decide_eq_false (fun q=>h2 q.2.1)
  go_enter Tryz.func47,Tryz.ntmps47
  go_wp2_with fail
  refine (isTime_any s _).mono ?_
  rintro e w9 ⟨rfl,hw9⟩
  subst hw9
  rw [decide_eq_true h1]
  clear h1
  go_wp2_with fail
  refine (isTime_any t _).mono ?_
  rintro e w9 ⟨rfl,hw9⟩
  subst hw9
  rw [decide_eq_false h2]
  clear h2
  go_wp2
  go_ret
  exact ⟨by rw [HN.out]; rfl,rfl⟩
 have HN:Hid (decide ((0≤s∧s≤253402300799)∧(0≤t∧t≤253402300799)∧s≤t)=decide (s≤t)):=decide_eq_decide.2 ⟨fun q=>q.2.2,fun q=>⟨h1,h2,q⟩⟩
 go_enter Tryz.func47,Tryz.ntmps47
 go_wp2_with fail
 refine (isTime_any s _).mono ?_
 rintro e w9 ⟨rfl,hw9⟩
 subst hw9
 rw [decide_eq_true h1]
 clear h1
 go_wp2_with fail
 refine (isTime_any t _).mono ?_
 rintro e w9 ⟨rfl,hw9⟩
 subst hw9
 rw [decide_eq_true h2]
 clear h2
 go_wp2
 go_ret
 exact ⟨by rw [HN.out]; rfl,rfl⟩
theorem isFull_any (a1:Option Addr)(n1 c1:Nat)(a2:Option Addr)(n2 c2:Nat)(a3:Option Addr)(n3 c3:Nat)(x:CP)(w:World):Calls Tryz.prog 113 #[crv a1 n1 c1 a2 n2 c2 a3 n3 c3 x] w fun e w'=>e=.returned (.bool (x.base == -1))∧Below w.heap.size w w':=by
 unfold crv
 go_enter Tryz.func113,Tryz.ntmps113
 go_wp2
 go_ret
 exact ⟨rfl,(Below.refl _ _).alloc (Nat.le_refl _) _⟩
theorem namesIssuer_any (a1:Option Addr)(n1 c1:Nat)(a2:Option Addr)(n2 c2:Nat)(a3:Option Addr)(n3 c3:Nat)(x:CP)(an:Option Addr)(nn cn:Nat)(y:GP)(w:World)(h:Pts w an nn y.parts)(hz:∀ k,k<nn→(y.parts.getD k default).val.size≤1048576) :
  Calls Tryz.prog 100 #[crv a1 n1 c1 a2 n2 c2 a3 n3 c3 x,gov an nn cn y] w (Says ((x.ind=true→calledP y.parts)∧(x.ind=false→y.parts = [])) w):=by
 unfold crv gov
 obtain ⟨W0,hW0⟩:∃ W0,W0=(w.alloc (.cells #[.slice a1 n1 c1,.int .i64 x.num,.int .i64 x.base,.int .i64 x.tm,.int .i64 x.next,.int .i64 x.scope,.bool x.ind,.slice a2 n2 c2,.slice a3 n3 c3] 39)).alloc (.cells #[.slice an nn cn,.int .i64 y.ser,.int .i64 y.tm,.int .i64 y.rs] 65):=⟨_,rfl⟩
 have hB0:Below w.heap.size w W0:=by rw [hW0]; exact two_below _ _ _
 have b0:=two_blocks w (.cells #[.slice a1 n1 c1,.int .i64 x.num,.int .i64 x.base,.int .i64 x.tm,.int .i64 x.next,.int .i64 x.scope,.bool x.ind,.slice a2 n2 c2,.slice a3 n3 c3] 39) (.cells #[.slice an nn cn,.int .i64 y.ser,.int .i64 y.tm,.int .i64 y.rs] 65)
 rw [← hW0] at b0
 have HP:Hid (Pts W0 an nn y.parts):=h.kept hB0
 have HZ:Hid (∀ k,k<nn→(y.parts.getD k default).val.size≤1048576):=hz
 have HL:Hid (y.parts.length=nn):=h.len
 have p6:W0.cell? ⟨w.heap.size,6,none⟩=some (.bool x.ind):=(cell_of_row _ _ 6 _ 39 (0,0) b0.1).trans rfl
 have e0:W0.cell? ⟨w.heap.size+1,0,none⟩=some (.slice an nn cn):=(cell_of_row _ _ 0 _ 65 (0,0) b0.2).trans rfl
 have HW:Hid (_=_):=hW0
 clear hW0 b0 h hz
 go_enter Tryz.func100,Tryz.ntmps100
 go_upto_region 1 with fail
 rw [← HW.out]
 clear HW
 by_cases hi:x.ind=true
 ·rw [hi] at p6
  have HI:Hid (x.ind=true):=hi
  clear hi
  go_wp2_with fail
  refine (someName_any an nn cn y.parts _ HP.out HZ.out).mono ?_
  rintro e w1 ⟨v1,rfl,hv1,hb1⟩
  have HV:Hid _:=hv1
  clear hv1 p6 e0
  go_wp2
  go_ret
  exact ⟨v1,rfl,⟨fun q=>⟨fun _=>HV.out.1 q,fun e=>by rw [HI.out] at e; cases e⟩,fun q=>HV.out.2 (q.1 HI.out)⟩,hB0.trans (hb1.mono hB0.size)⟩
 ·replace hi:x.ind=false:=by simpa using hi
  rw [hi] at p6
  have HI:Hid (x.ind=false):=hi
  clear hi
  by_cases h0:nn=0
  ·subst h0
   have HT:Hid ((x.ind=true→calledP y.parts)∧(x.ind=false→y.parts = [])):=⟨fun e=>(by rw [HI.out] at e; cases e),fun _=>List.eq_nil_of_length_eq_zero HL.out⟩
   go_wp2
   go_ret
   exact says_t HT.out hB0
  ·have hne:((nn:Int) == 0)=false:=by simp; omega
   have HT:Hid (¬ ((x.ind=true→calledP y.parts)∧(x.ind=false→y.parts = []))):=fun q=>h0 (by rw [← HL.out,q.2 HI.out]; rfl)
   clear h0
   go_wp2
   go_ret
   exact says_f HT.out hB0
open Go.RowKit
theorem Tryz.infoBytes:(Tryz.prog.info? 26).map (fun i=>(i.zero,i.size,i.bytes))=some (some (.slice none 0 0),1,24):=by kernel_rfl
def hashD (word:List Int)(ds:List Int):Int:=hashL (partsL (word::ds.map eightI))
theorem hashD_bd (word ds:List Int):U64 (hashD word ds):=hashL_bd _
def bytesOfP (ps:List Part):List (List Int):=ps.map fun p=>p.2.2.2
theorem total_parts (word:List Int)(ds:List Int):total (word::ds.map eightI)=word.length+8 * ds.length:=by
 unfold total
 rw [List.map_cons,List.sum_cons,List.map_map]
 have:∀ l:List Int,(l.map (List.length ∘ eightI)).sum=8 * l.length:=by
  intro l
  induction l with
  | nil=>rfl
  | cons x r ih=>rw [List.map_cons,List.sum_cons,ih,List.length_cons]; simp [eightI_len]; omega
 rw [this]
theorem map_snoc (ds:List Int)(k:Nat)(h:k<ds.length):(ds.take (k+1)).map eightI=(ds.take k).map eightI++[eightI (ds.getD k 0)]:=by rw [take_snoc ds k h,List.map_append]; rfl
theorem hashDigests_any (s:ByteArray)(a:Option Addr)(n c:Nat)(ds:List Int)(w:World)(h:RowU w a n ds)(hn:n≤100000)(hs:s.size≤1000) :
  Calls Tryz.prog 173 #[.string s,.slice a n c] w fun e w'=>e=.returned (.int .u64 (hashD (strL s) ds))∧Below w.heap.size w w':=by
 obtain ⟨i0,hi,hz0,hz1,hz2⟩:=info_parts Tryz.infoBytes
 have H0:Hid (RowU w a n ds):=h
 have HL:Hid (ds.length=n):=h.len
 clear h
 obtain ⟨cp,W,hcv,hgd,hb0⟩:=conv_strT w s
 have HO:Hid (OwnP W.heap.size (W.alloc (.cells #[.slice (some ⟨w.heap.size,0,none⟩) s.size cp] 26)) (some ⟨W.heap.size,0,none⟩) 1 1 [(some ⟨w.heap.size,0,none⟩,s.size,cp,strL s)]):=ownP_one W _ hgd
 have hb1:Below w.heap.size w (W.alloc (.cells #[.slice (some ⟨w.heap.size,0,none⟩) s.size cp] 26)):=hb0.alloc hb0.size _
 have hWs:=hb0.size
 go_enter Tryz.func173,Tryz.ntmps173
 go_wp2
 clear hcv
 go_loopw [5,13] (fun o i wr=>∃ (k m cc:Nat) (ao:Option Addr) (ps:List Part),k≤n∧m=k+1∧i=.int .i64 k∧o=.slice ao m cc∧OwnP w.heap.size wr ao m cc ps∧Hid (bytesOfP ps=strL s::(ds.take k).map eightI)∧Below w.heap.size w wr) (fun _ i _=>n - (intOf i).toNat)
 case atStart=>exact ⟨0,1,1,_,_,Nat.zero_le _,rfl,rfl,rfl,⟨⟨HO.out.row.1,by rcases HO.out.row.2 with h | ⟨g,cap,cur,hv,hb,r⟩; exact .inl h; exact .inr ⟨g,cap,cur,hv,by omega,r⟩⟩,HO.out.get⟩,rfl,hb1⟩
 case round =>
  obtain ⟨k,m,cc,ao,ps,hk,rfl,rfl,rfl,hor,HP,hbr⟩:=hrel
  have hws:=hbr.size
  by_cases hlt:k<n
  ·obtain ⟨b,off,rfl,hlb,hc0⟩:=H0.out.get k hlt
   have hcell:wr.cell? ⟨b,off+k,none⟩=some (.int .u64 (ds.getD k 0)):=(hbr.cell (p:=⟨b,off+k,none⟩) hlb).trans hc0
   obtain ⟨hd0,hd1⟩:=H0.out.rng k
   obtain ⟨d,hd⟩:∃ d,d=ds.getD k 0:=⟨_,rfl⟩
   rw [← hd] at hcell hd0 hd1
   have HN:Hid (strL s::(ds.take (k+1)).map eightI=(strL s::(ds.take k).map eightI)++[eightI d]):=by show _=_; rw [map_snoc ds k (by rw [HL.out]; exact hlt),hd]; rfl
   have hlti:(k:Int)<(n:Int):=by omega
   have HOR:Hid (_):=hor
   clear hd hc0 hor HO
   go_wp2_with fail
   refine (digestBytes_any d _ hd0 hd1).mono ?_
   rintro e w2 ⟨g,rfl,hrow,⟨cs,fr,hty⟩,hb2⟩
   have hgd2:Good w2 (some ⟨g,0,none⟩,8,8,eightI d):=⟨hrow,(fun h=>by cases h),fun b off s e=>by simp at e; obtain ⟨rfl,_⟩:=e; exact ⟨cs,_,fr,hty,by decide⟩⟩
   have hor2:=HOR.out.kept hb2
   have hal:Below w2.heap.size w2 (w2.alloc (.cells #[.slice (some ⟨g,0,none⟩) 8 8] 26)):=(Below.refl _ _).alloc (Nat.le_refl _) _
   have hor3:=hor2.kept hal
   have hgd3:=hgd2.kept hal
   have hbr3:Below w.heap.size w (w2.alloc (.cells #[.slice (some ⟨g,0,none⟩) 8 8] 26)):=keepT (keepT hbr hb2) hal
   have hcl:∀ jj uu,([pval (some ⟨g,0,none⟩,8,8,eightI d)]:List Value)[jj]? = some uu→(w2.alloc (.cells #[.slice (some ⟨g,0,none⟩) 8 8] 26)).cell? ((⟨w2.heap.size,0,none⟩:Addr).add jj)=some uu:=by
    intro jj uu hju
    rw [Addr.add_lit,Nat.zero_add,cell_of_row _ w2.heap.size jj _ 26 _ (heap_alloc_new w2 _),← hju]
    simp [pval]
   clear hrow hty hgd2 hor2 hal HOR
   go_wp2_with (first | (at_builtin; refine wpList_append_own _ rfl (.tmp 17) (.tmp 20) 121 rfl w.heap.size 26 i0 _ 1 24 Tryz.underlying121 hi hz0 hz1 hz2 rfl (by decide) _ (k+1) _ rfl hor3.row ⟨w2.heap.size,0,none⟩ 1 1 [pval (some ⟨g,0,none⟩,8,8,eightI d)] rfl rfl hcl (by intro u hu; simp at hu; subst hu; rfl) (by unfold maxLen; omega) (by omega) (by have:=hbr3.size; exact this) ?_; intro v4 w4 hv4 hg4 _))
   have he:ps.map pval++[pval (some ⟨g,0,none⟩,8,8,eightI d)]=(ps++[((some ⟨g,0,none⟩,8,8,eightI d):Part)]).map pval:=by rw [List.map_append]; rfl
   rw [he] at hv4
   obtain ⟨a4,c4,rfl,ho4⟩:=ownP_appended hor3.row hv4 hg4 hor3.get hgd3
   have hbr4:Below w.heap.size w w4:=hbr3.grown hg4 hbr3.size (fun k hk=>(hor3.row.lt k hk).1)
   have HN2:Hid (bytesOfP (ps++[((some ⟨g,0,none⟩,8,8,eightI d):Part)])=strL s::(ds.take (k+1)).map eightI):=by show _=_; rw [HN.out,← HP.out]; unfold bytesOfP; rw [List.map_append]; rfl
   go_roundw
   case rel=>exact ⟨k+1,k+1+1,c4,a4,_,by omega,rfl,by go_num,rfl,ho4,HN2,hbr4⟩
   case measure=>simp [intOf]; omega
  ·obtain rfl:k=n:=by omega
   have HR:Hid (Rows2 wr ao (k+1) (strL s::ds.map eightI)):=by
    have:=hor.rows
    have e:=HP.out
    rw [List.take_of_length_le (by rw [HL.out]; exact Nat.le_refl _)] at e
    rw [← e]
    exact this
   have HT:Hid (total (strL s::ds.map eightI)≤2097152):=by show _≤_; rw [total_parts,strL_len,HL.out]; omega
   clear hor HO HP
   go_wp2_with fail
   refine (implHashAll_any ao (k+1) cc (strL s::ds.map eightI) _ HR.out (by omega) HT.out).mono ?_
   rintro e w2 ⟨rfl,hb2⟩
   go_wp2
   go_ret
   exact ⟨rfl,keepT hbr hb2⟩
open Go.RowKit
def leW:List Int:=[108,101,97,102]
def ndW:List Int:=[110,111,100,101]
theorem leW_byte:∀ k,0≤leW.getD k 0∧leW.getD k 0≤255:=bytes_of_all (by decide)
theorem ndW_byte:∀ k,0≤ndW.getD k 0∧ndW.getD k 0≤255:=bytes_of_all (by decide)
theorem good_word (w:World)(bs:List Int)(fr:Nat × Nat)(h:∀ k,0≤bs.getD k 0∧bs.getD k 0≤255):Good (w.alloc (.cells (wordC bs) 5 fr)) (some ⟨w.heap.size,0,none⟩,bs.length,bs.length,bs) :=
 ⟨row_word w bs fr h,(fun h=>by cases h),fun b off s e=>by simp at e; obtain ⟨rfl,_⟩:=e; exact ⟨_,5,_,heap_alloc_new w _,by decide⟩⟩
theorem OwnP.mono {B B':Nat}{w:World}{a:Option Addr}{n cap:Nat}{ps:List Part}(h:OwnP B w a n cap ps)(hB:B'≤B):OwnP B' w a n cap ps :=
 ⟨⟨h.row.1,by rcases h.row.2 with h | ⟨g,cap,cur,hv,hb,r⟩; exact .inl h; exact .inr ⟨g,cap,cur,hv,by omega,r⟩⟩,h.get⟩
theorem l8Leaf_any (a:Option Addr)(n c:Nat)(ds:List Int)(w:World)(h:RowU w a n ds)(hn:n≤100000) :
  Calls Tryz.prog 69 #[.slice a n c] w fun e w'=>e=.returned (.int .u64 (hashD leW ds))∧Below w.heap.size w w':=by
 obtain ⟨i0,hi,hz0,hz1,hz2⟩:=info_parts Tryz.infoBytes
 have H0:Hid (RowU w a n ds):=h
 have HL:Hid (ds.length=n):=h.len
 clear h
 have hcv:=Lib.run_convert_bytes_const (P:=Tryz.prog) w 26 5 #[.int .u8 108,.int .u8 101,.int .u8 97,.int .u8 102] 4 4 Tryz.underlying26 Tryz.underlying5
 have hgd:Good (w.alloc (.cells #[.int .u8 108,.int .u8 101,.int .u8 97,.int .u8 102] 5 (4,5))) (some ⟨w.heap.size,0,none⟩,4,4,leW):=good_word w leW (4,5) leW_byte
 have hb0:Below w.heap.size w (w.alloc (.cells #[.int .u8 108,.int .u8 101,.int .u8 97,.int .u8 102] 5 (4,5))):=(Below.refl _ _).alloc (Nat.le_refl _) _
 obtain ⟨W,hW⟩:∃ W,W=w.alloc (.cells #[.int .u8 108,.int .u8 101,.int .u8 97,.int .u8 102] 5 (4,5)):=⟨_,rfl⟩
 have HWW:Hid (_=_):=hW
 have hsz:W.heap.size=w.heap.size+1:=by rw [hW]; simp
 rw [← hW] at hgd hb0
 clear hW
 have HO:Hid (OwnP W.heap.size (W.alloc (.cells #[.slice (some ⟨w.heap.size,0,none⟩) 4 4] 26)) (some ⟨W.heap.size,0,none⟩) 1 1 [(some ⟨w.heap.size,0,none⟩,4,4,leW)]):=ownP_one W _ hgd
 have hb1:Below w.heap.size w (W.alloc (.cells #[.slice (some ⟨w.heap.size,0,none⟩) 4 4] 26)):=hb0.alloc hb0.size _
 have hWs:w.heap.size≤w.heap.size+1:=Nat.le_succ _
 rw [hsz] at HO
 clear hsz
 go_enter Tryz.func69,Tryz.ntmps69
 rw [HWW.out] at HO hb1
 go_wp2
 clear hcv
 go_loopw [3,4] (fun o i wr=>∃ (k m cc:Nat) (ao:Option Addr) (ps:List Part),k≤n∧m=k+1∧i=.int .i64 k∧o=.slice ao m cc∧OwnP w.heap.size wr ao m cc ps∧Hid (bytesOfP ps=leW::(ds.take k).map eightI)∧Below w.heap.size w wr) (fun _ i _=>n - (intOf i).toNat)
 case atStart=>exact ⟨0,1,1,_,_,Nat.zero_le _,rfl,rfl,rfl,HO.out.mono hWs,rfl,hb1⟩
 case round =>
  obtain ⟨k,m,cc,ao,ps,hk,rfl,rfl,rfl,hor,HP,hbr⟩:=hrel
  have hws:=hbr.size
  by_cases hlt:k<n
  ·obtain ⟨b,off,rfl,hlb,hc0⟩:=H0.out.get k hlt
   have hcell:wr.cell? ⟨b,off+k,none⟩=some (.int .u64 (ds.getD k 0)):=(hbr.cell (p:=⟨b,off+k,none⟩) hlb).trans hc0
   obtain ⟨hd0,hd1⟩:=H0.out.rng k
   obtain ⟨d,hd⟩:∃ d,d=ds.getD k 0:=⟨_,rfl⟩
   rw [← hd] at hcell hd0 hd1
   have HN:Hid (leW::(ds.take (k+1)).map eightI=(leW::(ds.take k).map eightI)++[eightI d]):=by show _=_; rw [map_snoc ds k (by rw [HL.out]; exact hlt),hd]; rfl
   have hlti:(k:Int)<(n:Int):=by omega
   have HOR:Hid (_):=hor
   clear hd hc0 hor HO
   go_wp2_with fail
   refine (l1Eight_any d _ hd0 hd1).mono ?_
   rintro e w2 ⟨ag,cg,rfl,hown,hb2⟩
   have hgd2:Good w2 (ag,8,cg,eightI d):=⟨hown.toRow,hown.nil,hown.ty⟩
   have hor2:=HOR.out.kept hb2
   have hal:Below w2.heap.size w2 (w2.alloc (.cells #[.slice ag 8 cg] 26)):=(Below.refl _ _).alloc (Nat.le_refl _) _
   have hor3:=hor2.kept hal
   have hgd3:=hgd2.kept hal
   have hbr3:Below w.heap.size w (w2.alloc (.cells #[.slice ag 8 cg] 26)):=keepT (keepT hbr hb2) hal
   have hcl:∀ jj uu,([pval (ag,8,cg,eightI d)]:List Value)[jj]? = some uu→(w2.alloc (.cells #[.slice ag 8 cg] 26)).cell? ((⟨w2.heap.size,0,none⟩:Addr).add jj)=some uu:=by
    intro jj uu hju
    rw [Addr.add_lit,Nat.zero_add,cell_of_row _ w2.heap.size jj _ 26 _ (heap_alloc_new w2 _),← hju]
    simp [pval]
   clear hown hgd2 hor2 hal HOR
   go_wp2_with (first | (at_builtin; refine wpList_append_own _ rfl (.tmp 14) (.tmp 20) 121 rfl w.heap.size 26 i0 _ 1 24 Tryz.underlying121 hi hz0 hz1 hz2 rfl (by decide) _ (k+1) _ rfl hor3.row ⟨w2.heap.size,0,none⟩ 1 1 [pval (ag,8,cg,eightI d)] rfl rfl hcl (by intro u hu; simp at hu; subst hu; rfl) (by unfold maxLen; omega) (by omega) (by have:=hbr3.size; exact this) ?_; intro v4 w4 hv4 hg4 _))
   have he:ps.map pval++[pval (ag,8,cg,eightI d)]=(ps++[((ag,8,cg,eightI d):Part)]).map pval:=by rw [List.map_append]; rfl
   rw [he] at hv4
   obtain ⟨a4,c4,rfl,ho4⟩:=ownP_appended hor3.row hv4 hg4 hor3.get hgd3
   have hbr4:Below w.heap.size w w4:=hbr3.grown hg4 hbr3.size (fun k hk=>(hor3.row.lt k hk).1)
   have HN2:Hid (bytesOfP (ps++[((ag,8,cg,eightI d):Part)])=leW::(ds.take (k+1)).map eightI):=by show _=_; rw [HN.out,← HP.out]; unfold bytesOfP; rw [List.map_append]; rfl
   go_roundw
   case rel=>exact ⟨k+1,k+1+1,c4,a4,_,by omega,rfl,by go_num,rfl,ho4,HN2,hbr4⟩
   case measure=>simp [intOf]; omega
  ·obtain rfl:k=n:=by omega
   have HR:Hid (Rows2 wr ao (k+1) (leW::ds.map eightI)):=by
    have:=hor.rows
    have e:=HP.out
    rw [List.take_of_length_le (by rw [HL.out]; exact Nat.le_refl _)] at e
    rw [← e]
    exact this
   have HT:Hid (total (leW::ds.map eightI)≤2097152):=by show _≤_; rw [total_parts,HL.out]; show 4+_≤_; omega
   clear hor HO HP
   go_wp2_with fail
   refine (specHashAll_any ao (k+1) cc (leW::ds.map eightI) _ HR.out (by omega) HT.out).mono ?_
   rintro e w2 ⟨rfl,hb2⟩
   go_wp2
   go_ret
   exact ⟨rfl,keepT hbr hb2⟩
theorem l8Node_any (x y:Int)(w:World)(hx:U64 x)(hy:U64 y) :
  Calls Tryz.prog 70 #[.int .u64 x,.int .u64 y] w fun e w'=>e=.returned (.int .u64 (hashD ndW [x,y]))∧Below w.heap.size w w':=by
 have HT:Hid (total [ndW,eightI x,eightI y]≤2097152):=by show _≤_; rw [show [ndW,eightI x,eightI y]=ndW::[x,y].map eightI from rfl,total_parts]; show 4+_≤_; simp
 have hcv:=Lib.run_convert_bytes_const (P:=Tryz.prog) w 26 5 #[.int .u8 110,.int .u8 111,.int .u8 100,.int .u8 101] 4 4 Tryz.underlying26 Tryz.underlying5
 have hrw:Row (w.alloc (.cells #[.int .u8 110,.int .u8 111,.int .u8 100,.int .u8 101] 5 (4,5))) (some ⟨w.heap.size,0,none⟩) 4 ndW:=row_word w ndW (4,5) ndW_byte
 have hb0:Below w.heap.size w (w.alloc (.cells #[.int .u8 110,.int .u8 111,.int .u8 100,.int .u8 101] 5 (4,5))):=(Below.refl _ _).alloc (Nat.le_refl _) _
 go_enter Tryz.func70,Tryz.ntmps70
 go_wp2_with fail
 clear hcv
 obtain ⟨w0,hw0⟩:∃ w0,w0=w.alloc (.cells #[.int .u8 110,.int .u8 111,.int .u8 100,.int .u8 101] 5 (4,5)):=⟨_,rfl⟩
 rw [← hw0] at hrw hb0 ⊢
 clear hw0
 refine (l1Eight_any x _ hx.1 hx.2).mono ?_
 rintro e w1 ⟨a1,c1,rfl,ho1,hb1⟩
 go_wp2_with fail
 refine (l1Eight_any y _ hy.1 hy.2).mono ?_
 rintro e w2 ⟨a2,c2,rfl,ho2,hb2⟩
 have B2:Below w0.heap.size w0 w2:=keepT hb1 hb2
 have B2':Below w.heap.size w w2:=keepT hb0 B2
 have HRS:Hid (Rows2 (w2.alloc (.cells #[.slice (some ⟨w.heap.size,0,none⟩) 4 4,.slice a1 8 c1,.slice a2 8 c2] 26)) (some ⟨w2.heap.size,0,none⟩) 3 [ndW,eightI x,eightI y]):=by
  refine rows2_lit w2 [(some ⟨w.heap.size,0,none⟩,4,4,ndW),(a1,8,c1,eightI x),(a2,8,c2,eightI y)] 26 ?_
  intro p hp
  simp only [List.mem_cons,List.not_mem_nil,or_false] at hp
  rcases hp with rfl | rfl | rfl
  ·exact ⟨hrw.kept B2,fun h=>by cases h⟩
  ·exact ⟨(ho1.kept hb2).toRow,ho1.nil⟩
  ·exact ⟨ho2.toRow,ho2.nil⟩
 have B3:Below w.heap.size w (w2.alloc (.cells #[.slice (some ⟨w.heap.size,0,none⟩) 4 4,.slice a1 8 c1,.slice a2 8 c2] 26)):=B2'.alloc B2'.size _
 clear ho1 ho2 hrw
 go_wp2_with fail
 refine (specHashAll_any _ 3 3 [ndW,eightI x,eightI y] _ HRS.out (by decide) HT.out).mono ?_
 rintro e w3 ⟨rfl,hb3⟩
 go_wp2
 go_ret
 exact ⟨rfl,keepT B3 hb3⟩
def stepN (v:Int):Int:=hashL (eightI v)
def stepsN (v:Int):Nat→Int
 | 0=>v
 | k+1=>stepN (stepsN v k)
theorem stepsN_bd (v:Int)(hv:U64 v)(k:Nat):U64 (stepsN v k):=by
 cases k with
 | zero=>exact hv
 | succ k=>exact (hashL_bd (eightI (stepsN v k)):U64 (hashL (eightI (stepsN v k))))
theorem stepped_any (v:Int)(n:Nat)(w:World)(hv:U64 v)(hn:n≤1000) :
  Calls Tryz.prog 171 #[.int .u64 v,.int .i64 n] w fun e w'=>e=.returned (.int .u64 (stepsN v n))∧Below w.heap.size w w':=by
 have HV:Hid (U64 v):=hv
 clear hv
 go_enter Tryz.func171,Tryz.ntmps171
 go_wp2
 go_loopw [0,6] (fun d i wr=>∃ (k:Nat) (x:Int),k≤n∧i=.int .i64 k∧d=.int .u64 x∧Hid (x=stepsN v k)∧Below w.heap.size w wr) (fun _ i _=>n - (intOf i).toNat)
 case atStart=>exact ⟨0,v,Nat.zero_le _,rfl,rfl,rfl,Below.refl _ _⟩
 case round =>
  obtain ⟨k,x,hk,rfl,rfl,HX,hbr⟩:=hrel
  by_cases hlt:k<n
  ·have hx:U64 x:=by rw [HX.out]; exact stepsN_bd v HV.out k
   have HN:Hid (hashL (eightI x)=stepsN v (k+1)):=by show _=_; rw [stepsN,← HX.out]; rfl
   have hlti:(k:Int)<(n:Int):=by omega
   clear HX
   go_wp2_with fail
   refine (digestBytes_any x _ hx.1 hx.2).mono ?_
   rintro e w2 ⟨g,rfl,hrow,_,hb2⟩
   go_wp2_with fail
   refine (implHash_any _ 8 _ (eightI x) _ hrow (by decide)).mono ?_
   rintro e w3 ⟨rfl,hb3⟩
   rw [HN.out]
   go_wp2
   go_roundw
   case rel=>exact ⟨k+1,_,by omega,by go_num,rfl,rfl,keepT (keepT hbr hb2) hb3⟩
   case measure=>simp [intOf]; omega
  ·obtain rfl:k=n:=by omega
   go_wp2
   go_ret
   exact ⟨by rw [HX.out]; rfl,hbr⟩
theorem l8Steps_any (v:Int)(n:Nat)(w:World)(hv:U64 v)(hn:n≤1000) :
  Calls Tryz.prog 68 #[.int .u64 v,.int .i64 n] w fun e w'=>e=.returned (.int .u64 (stepsN v n))∧Below w.heap.size w w':=by
 have HV:Hid (U64 v):=hv
 clear hv
 go_enter Tryz.func68,Tryz.ntmps68
 go_wp2
 go_loopw [0,5] (fun d i wr=>∃ (k:Nat) (x:Int),k≤n∧i=.int .i64 k∧d=.int .u64 x∧Hid (x=stepsN v k)∧Below w.heap.size w wr) (fun _ i _=>n - (intOf i).toNat)
 case atStart=>exact ⟨0,v,Nat.zero_le _,rfl,rfl,rfl,Below.refl _ _⟩
 case round =>
  obtain ⟨k,x,hk,rfl,rfl,HX,hbr⟩:=hrel
  by_cases hlt:k<n
  ·have hx:U64 x:=by rw [HX.out]; exact stepsN_bd v HV.out k
   have HN:Hid (hashL (eightI x)=stepsN v (k+1)):=by show _=_; rw [stepsN,← HX.out]; rfl
   have hlti:(k:Int)<(n:Int):=by omega
   clear HX
   go_wp2_with fail
   refine (l1Eight_any x _ hx.1 hx.2).mono ?_
   rintro e w2 ⟨ag,cg,rfl,hown,hb2⟩
   go_wp2_with fail
   refine (specHash_any _ 8 _ (eightI x) _ hown.toRow (by decide)).mono ?_
   rintro e w3 ⟨rfl,rfl⟩
   rw [HN.out]
   go_wp2
   go_roundw
   case rel=>exact ⟨k+1,_,by omega,by go_num,rfl,rfl,keepT hbr hb2⟩
   case measure=>simp [intOf]; omega
  ·obtain rfl:k=n:=by omega
   go_wp2
   go_ret
   exact ⟨by rw [HX.out]; rfl,hbr⟩
end Go.Proofs.YtkdandggklpppaaGreatDoor
