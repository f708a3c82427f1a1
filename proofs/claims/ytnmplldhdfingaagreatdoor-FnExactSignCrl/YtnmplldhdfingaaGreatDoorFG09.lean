import Derived.Deep.DeepCutAuto
import Derived.OwnWalk
import Derived.Test.YtnmplldhdfingaaGreatDoorFG08
set_option maxRecDepth 10000
set_option maxHeartbeats 8000000
set_option linter.unusedVariables false
namespace Go.Proofs.YtnmplldhdfingaaGreatDoor
open Go.RowKit
def leW:List Int:=[108,101,97,102]
def ndW:List Int:=[110,111,100,101]
def stW:List Int:=[115,116,97,114,116]
theorem leW_byte:∀ k,0≤leW.getD k 0∧leW.getD k 0≤255:=bytes_of_all (by decide)
theorem ndW_byte:∀ k,0≤ndW.getD k 0∧ndW.getD k 0≤255:=bytes_of_all (by decide)
theorem stW_byte:∀ k,0≤stW.getD k 0∧stW.getD k 0≤255:=bytes_of_all (by decide)
theorem good_word (w:World)(bs:List Int)(fr:Nat × Nat)(h:∀ k,0≤bs.getD k 0∧bs.getD k 0≤255):Good (w.alloc (.cells (wordC bs) 5 fr)) (some ⟨w.heap.size,0,none⟩,bs.length,bs.length,bs) :=
 ⟨row_word w bs fr h,(fun h=>by cases h),fun b off s e=>by simp at e; obtain ⟨rfl,_⟩:=e; exact ⟨_,5,_,heap_alloc_new w _,by decide⟩⟩
theorem OwnP.mono {B B':Nat}{w:World}{a:Option Addr}{n cap:Nat}{ps:List Part}(h:OwnP B w a n cap ps)(hB:B'≤B):OwnP B' w a n cap ps :=
 ⟨⟨h.row.1,by rcases h.row.2 with h | ⟨g,cap,cur,hv,hb,r⟩; exact .inl h; exact .inr ⟨g,cap,cur,hv,by omega,r⟩⟩,h.get⟩
theorem l8Leaf_any (a:Option Addr)(n c:Nat)(ds:List Int)(w:World)(h:RowU w a n ds)(hn:n≤100000) :
  Calls Tryz.prog 121 #[.slice a n c] w fun e w'=>e=.returned (.int .u64 (hashD leW ds))∧Below w.heap.size w w':=by
 obtain ⟨i0,hi,hz0,hz1,hz2⟩:=info_parts Tryz.infoBytes
 have H0:Hid (RowU w a n ds):=h
 have HL:Hid (ds.length=n):=h.len
 clear h
 have hcv:=Lib.run_convert_bytes_const (P:=Tryz.prog) w 26 5 #[.int .u8 108,.int .u8 101,.int .u8 97,.int .u8 102] 4 4 Tryz.underlying26 Tryz.underlying5
 have hgd:Good (w.alloc (.cells #[.int .u8 108,.int .u8 101,.int .u8 97,.int .u8 102] 5 (4,5))) (some ⟨w.heap.size,0,none⟩,4,4,leW):=good_word w leW (4,5) leW_byte
 have hb0:Below w.heap.size w (w.alloc (.cells #[.int .u8 108,.int .u8 101,.int .u8 97,.int .u8 102] 5 (4,5))):=(Below.refl _ _).alloc (Nat.le_refl _) _
 obtain ⟨W,hW⟩:∃ W,W=w.alloc (.cells #[.int .u8 108,.int .u8 101,.int .u8 97,.int .u8 102] 5 (4,5)):=⟨_,rfl⟩
 have HWW:Hid (_=_):=hW
 have hsz:W.heap.size=w.heap.size+1:=by rw [hW]; simp
 rw [← hW] at hgd hb0
 clear hW
 have HO:Hid (OwnP W.heap.size (W.alloc (.cells #[.slice (some ⟨w.heap.size,0,none⟩) 4 4] 26)) (some ⟨W.heap.size,0,none⟩) 1 1 [(some ⟨w.heap.size,0,none⟩,4,4,leW)]):=ownP_one W _ hgd
 have hb1:Below w.heap.size w (W.alloc (.cells #[.slice (some ⟨w.heap.size,0,none⟩) 4 4] 26)):=hb0.alloc hb0.size _
 have hWs:w.heap.size≤w.heap.size+1:=Nat.le_succ _
 rw [hsz] at HO
 clear hsz
 go_enter Tryz.func121,Tryz.ntmps121
 rw [HWW.out] at HO hb1
 go_wp2
 clear hcv
 go_loopw [3,4] (fun o i wr=>∃ (k m cc:Nat) (ao:Option Addr) (ps:List Part),k≤n∧m=k+1∧i=.int .i64 k∧o=.slice ao m cc∧OwnP w.heap.size wr ao m cc ps∧Hid (bytesOfP ps=leW::(ds.take k).map eightI)∧Below w.heap.size w wr) (fun _ i _=>n - (intOf i).toNat)
 case atStart=>exact ⟨0,1,1,_,_,Nat.zero_le _,rfl,rfl,rfl,HO.out.mono hWs,rfl,hb1⟩
 case round =>
  obtain ⟨k,m,cc,ao,ps,hk,rfl,rfl,rfl,hor,HP,hbr⟩:=hrel
  have hws:=hbr.size
  by_cases hlt:k<n
  ·obtain ⟨b,off,rfl,hlb,hc0⟩:=H0.out.get k hlt
   have hcell:wr.cell? ⟨b,off+k,none⟩=some (.int .u64 (ds.getD k 0)):=(hbr.cell (p:=⟨b,off+k,none⟩) hlb).trans hc0
   obtain ⟨hd0,hd1⟩:=H0.out.rng k
   obtain ⟨d,hd⟩:∃ d,d=ds.getD k 0:=⟨_,rfl⟩
   rw [← hd] at hcell hd0 hd1
   have HN:Hid (leW::(ds.take (k+1)).map eightI=(leW::(ds.take k).map eightI)++[eightI d]):=by show _=_; rw [map_snoc ds k (by rw [HL.out]; exact hlt),hd]; rfl
   have hlti:(k:Int)<(n:Int):=by omega
   have HOR:Hid (_):=hor
   clear hd hc0 hor HO
   go_wp2_with fail
   refine (l1Eight_any d _ hd0 hd1).mono ?_
   rintro e w2 ⟨ag,cg,rfl,hown,hb2⟩
   have hgd2:Good w2 (ag,8,cg,eightI d):=⟨hown.toRow,hown.nil,hown.ty⟩
   have hor2:=HOR.out.kept hb2
   have hal:Below w2.heap.size w2 (w2.alloc (.cells #[.slice ag 8 cg] 26)):=(Below.refl _ _).alloc (Nat.le_refl _) _
   have hor3:=hor2.kept hal
   have hgd3:=hgd2.kept hal
   have hbr3:Below w.heap.size w (w2.alloc (.cells #[.slice ag 8 cg] 26)):=keepT (keepT hbr hb2) hal
   have hcl:∀ jj uu,([pval (ag,8,cg,eightI d)]:List Value)[jj]? = some uu→(w2.alloc (.cells #[.slice ag 8 cg] 26)).cell? ((⟨w2.heap.size,0,none⟩:Addr).add jj)=some uu:=by
    intro jj uu hju
    rw [Addr.add_lit,Nat.zero_add,cell_of_row _ w2.heap.size jj _ 26 _ (heap_alloc_new w2 _),← hju]
    simp [pval]
   clear hown hgd2 hor2 hal HOR
   go_wp2_with (first | (at_builtin; refine wpList_append_own _ rfl (.tmp 14) (.tmp 20) 121 rfl w.heap.size 26 i0 _ 1 24 Tryz.underlying121 hi hz0 hz1 hz2 rfl (by decide) _ (k+1) _ rfl hor3.row ⟨w2.heap.size,0,none⟩ 1 1 [pval (ag,8,cg,eightI d)] rfl rfl hcl (by intro u hu; simp at hu; subst hu; rfl) (by unfold maxLen; omega) (by omega) (by have:=hbr3.size; exact this) ?_; intro v4 w4 hv4 hg4 _))
   have he:ps.map pval++[pval (ag,8,cg,eightI d)]=(ps++[((ag,8,cg,eightI d):Part)]).map pval:=by rw [List.map_append]; rfl
   rw [he] at hv4
   obtain ⟨a4,c4,rfl,ho4⟩:=ownP_appended hor3.row hv4 hg4 hor3.get hgd3
   have hbr4:Below w.heap.size w w4:=hbr3.grown hg4 hbr3.size (fun k hk=>(hor3.row.lt k hk).1)
   have HN2:Hid (bytesOfP (ps++[((ag,8,cg,eightI d):Part)])=leW::(ds.take (k+1)).map eightI):=by show _=_; rw [HN.out,← HP.out]; unfold bytesOfP; rw [List.map_append]; rfl
   go_roundw
   case rel=>exact ⟨k+1,k+1+1,c4,a4,_,by omega,rfl,by go_num,rfl,ho4,HN2,hbr4⟩
   case measure=>simp [intOf]; omega
  ·obtain rfl:k=n:=by omega
   have HR:Hid (Rows2 wr ao (k+1) (leW::ds.map eightI)):=by
    have:=hor.rows
    have e:=HP.out
    rw [List.take_of_length_le (by rw [HL.out]; exact Nat.le_refl _)] at e
    rw [← e]
    exact this
   have HT:Hid (total (leW::ds.map eightI)≤2097152):=by show _≤_; rw [total_parts,HL.out]; show 4+_≤_; omega
   clear hor HO HP
   go_wp2_with fail
   refine (specHashAll_any ao (k+1) cc (leW::ds.map eightI) _ HR.out (by omega) HT.out).mono ?_
   rintro e w2 ⟨rfl,hb2⟩
   go_wp2
   go_ret
   exact ⟨rfl,keepT hbr hb2⟩
theorem l8Node_any (x y:Int)(w:World)(hx:U64 x)(hy:U64 y) :
  Calls Tryz.prog 122 #[.int .u64 x,.int .u64 y] w fun e w'=>e=.returned (.int .u64 (hashD ndW [x,y]))∧Below w.heap.size w w':=by
 have HT:Hid (total [ndW,eightI x,eightI y]≤2097152):=by show _≤_; rw [show [ndW,eightI x,eightI y]=ndW::[x,y].map eightI from rfl,total_parts]; show 4+_≤_; simp
 have hcv:=Lib.run_convert_bytes_const (P:=Tryz.prog) w 26 5 #[.int .u8 110,.int .u8 111,.int .u8 100,.int .u8 101] 4 4 Tryz.underlying26 Tryz.underlying5
 have hrw:Row (w.alloc (.cells #[.int .u8 110,.int .u8 111,.int .u8 100,.int .u8 101] 5 (4,5))) (some ⟨w.heap.size,0,none⟩) 4 ndW:=row_word w ndW (4,5) ndW_byte
 have hb0:Below w.heap.size w (w.alloc (.cells #[.int .u8 110,.int .u8 111,.int .u8 100,.int .u8 101] 5 (4,5))):=(Below.refl _ _).alloc (Nat.le_refl _) _
 go_enter Tryz.func122,Tryz.ntmps122
 go_wp2_with fail
 clear hcv
 obtain ⟨w0,hw0⟩:∃ w0,w0=w.alloc (.cells #[.int .u8 110,.int .u8 111,.int .u8 100,.int .u8 101] 5 (4,5)):=⟨_,rfl⟩
 rw [← hw0] at hrw hb0 ⊢
 clear hw0
 refine (l1Eight_any x _ hx.1 hx.2).mono ?_
 rintro e w1 ⟨a1,c1,rfl,ho1,hb1⟩
 go_wp2_with fail
 refine (l1Eight_any y _ hy.1 hy.2).mono ?_
 rintro e w2 ⟨a2,c2,rfl,ho2,hb2⟩
 have B2:Below w0.heap.size w0 w2:=keepT hb1 hb2
 have B2':Below w.heap.size w w2:=keepT hb0 B2
 have HRS:Hid (Rows2 (w2.alloc (.cells #[.slice (some ⟨w.heap.size,0,none⟩) 4 4,.slice a1 8 c1,.slice a2 8 c2] 26)) (some ⟨w2.heap.size,0,none⟩) 3 [ndW,eightI x,eightI y]):=by
  refine rows2_lit w2 [(some ⟨w.heap.size,0,none⟩,4,4,ndW),(a1,8,c1,eightI x),(a2,8,c2,eightI y)] 26 ?_
  intro p hp
  simp only [List.mem_cons,List.not_mem_nil,or_false] at hp
  rcases hp with rfl | rfl | rfl
  ·exact ⟨hrw.kept B2,fun h=>by cases h⟩
  ·exact ⟨(ho1.kept hb2).toRow,ho1.nil⟩
  ·exact ⟨ho2.toRow,ho2.nil⟩
 have B3:Below w.heap.size w (w2.alloc (.cells #[.slice (some ⟨w.heap.size,0,none⟩) 4 4,.slice a1 8 c1,.slice a2 8 c2] 26)):=B2'.alloc B2'.size _
 clear ho1 ho2 hrw
 go_wp2_with fail
 refine (specHashAll_any _ 3 3 [ndW,eightI x,eightI y] _ HRS.out (by decide) HT.out).mono ?_
 rintro e w3 ⟨rfl,hb3⟩
 go_wp2
 go_ret
 exact ⟨rfl,keepT B3 hb3⟩
def startN (seed leaf digit:Int):Int:=hashL (partsL [stW,eightI seed,putI leaf,putI digit])
theorem startN_bd (seed leaf digit:Int):U64 (startN seed leaf digit):=hashL_bd _
theorem start_total (seed leaf digit:Int)(hl:leaf≤9223372036854775807)(hd:digit≤9223372036854775807):total [stW,eightI seed,putI leaf,putI digit]≤2097152:=by
 have h1:=putI_len leaf hl
 have h2:=putI_len digit hd
 simp [total,stW,eightI_len]
 omega
theorem l8Start_any (seed leaf digit:Int)(w:World)(hx:U64 seed)(hl:leaf≤9223372036854775807)(hd:digit≤9223372036854775807) :
  Calls Tryz.prog 91 #[.int .u64 seed,.int .i64 leaf,.int .i64 digit] w fun e w'=>e=.returned (.int .u64 (startN seed leaf digit))∧Below w.heap.size w w':=by
 have HT:Hid (_≤_):=start_total seed leaf digit hl hd
 have hcv:=Lib.run_convert_bytes_const (P:=Tryz.prog) w 26 5 #[.int .u8 115,.int .u8 116,.int .u8 97,.int .u8 114,.int .u8 116] 5 5 Tryz.underlying26 Tryz.underlying5
 have hrw:Row (w.alloc (.cells #[.int .u8 115,.int .u8 116,.int .u8 97,.int .u8 114,.int .u8 116] 5 (5,6))) (some ⟨w.heap.size,0,none⟩) 5 stW:=row_word w stW (5,6) stW_byte
 have hb0:Below w.heap.size w (w.alloc (.cells #[.int .u8 115,.int .u8 116,.int .u8 97,.int .u8 114,.int .u8 116] 5 (5,6))):=(Below.refl _ _).alloc (Nat.le_refl _) _
 go_enter Tryz.func91,Tryz.ntmps91
 go_wp2_with fail
 clear hcv
 obtain ⟨w0,hw0⟩:∃ w0,w0=w.alloc (.cells #[.int .u8 115,.int .u8 116,.int .u8 97,.int .u8 114,.int .u8 116] 5 (5,6)):=⟨_,rfl⟩
 rw [← hw0] at hrw hb0 ⊢
 clear hw0
 refine (l1Eight_any seed _ hx.1 hx.2).mono ?_
 rintro e w1 ⟨a1,c1,rfl,ho1,hb1⟩
 go_wp2_with fail
 refine (specPutNum_any leaf _ hl).mono ?_
 rintro e w2 ⟨a2,c2,rfl,ho2,hb2⟩
 obtain ⟨n2,hn2⟩:∃ n2,n2=(putI leaf).length:=⟨_,rfl⟩
 rw [← hn2] at ho2 ⊢
 clear hn2
 go_wp2_with fail
 refine (specPutNum_any digit _ hd).mono ?_
 rintro e w3 ⟨a3,c3,rfl,ho3,hb3⟩
 obtain ⟨n3,hn3⟩:∃ n3,n3=(putI digit).length:=⟨_,rfl⟩
 rw [← hn3] at ho3 ⊢
 clear hn3
 have D3:Below w1.heap.size w1 w3:=keepT hb2 hb3
 have B3:Below w0.heap.size w0 w3:=keepT hb1 D3
 have B3':Below w.heap.size w w3:=keepT hb0 B3
 have HRS:Hid (Rows2 (w3.alloc (.cells #[.slice (some ⟨w.heap.size,0,none⟩) 5 5,.slice a1 8 c1,.slice a2 n2 c2,.slice a3 n3 c3] 26)) (some ⟨w3.heap.size,0,none⟩) 4 [stW,eightI seed,putI leaf,putI digit]):=by
  refine rows2_lit w3 [(some ⟨w.heap.size,0,none⟩,5,5,stW),(a1,8,c1,eightI seed),(a2,n2,c2,putI leaf),(a3,n3,c3,putI digit)] 26 ?_
  intro p hp
  simp only [List.mem_cons,List.not_mem_nil,or_false] at hp
  rcases hp with rfl | rfl | rfl | rfl
  ·exact ⟨hrw.kept B3,fun h=>by cases h⟩
  ·exact ⟨(ho1.kept D3).toRow,ho1.nil⟩
  ·exact ⟨(ho2.kept hb3).toRow,ho2.nil⟩
  ·exact ⟨ho3.toRow,ho3.nil⟩
 have B4:Below w.heap.size w (w3.alloc (.cells #[.slice (some ⟨w.heap.size,0,none⟩) 5 5,.slice a1 8 c1,.slice a2 n2 c2,.slice a3 n3 c3] 26)):=B3'.alloc B3'.size _
 clear ho1 ho2 ho3 hrw
 go_wp2_with fail
 refine (specHashAll_any _ 4 4 [stW,eightI seed,putI leaf,putI digit] _ HRS.out (by decide) HT.out).mono ?_
 rintro e w4 ⟨rfl,hb4⟩
 go_wp2
 go_ret
 exact ⟨rfl,keepT B4 hb4⟩
def tkv (seed height next:Int):Value:=.agg #[.int .u64 seed,.int .i64 height,.int .i64 next]
theorem implStart_any (seed height next leaf digit:Int)(w:World)(hx:U64 seed)(hl:leaf≤9223372036854775807)(hd:digit≤9223372036854775807) :
  Calls Tryz.prog 199 #[tkv seed height next,.int .i64 leaf,.int .i64 digit] w fun e w'=>e=.returned (.int .u64 (startN seed leaf digit))∧Below w.heap.size w w':=by
 have HT:Hid (_≤_):=start_total seed leaf digit hl hd
 obtain ⟨wb,hwb⟩:∃ wb,wb=w.alloc (.cells #[.int .u64 seed,.int .i64 height,.int .i64 next] 87):=⟨_,rfl⟩
 have hbb:Below w.heap.size w wb:=by rw [hwb]; exact (Below.refl _ _).alloc (Nat.le_refl _) _
 have hbx:wb.heap[w.heap.size]? = some (.cells #[.int .u64 seed,.int .i64 height,.int .i64 next] 87):=by rw [hwb]; exact heap_alloc_new w _
 have HWB:Hid (_=_):=hwb
 clear hwb
 have hcv:=Lib.run_convert_bytes_const (P:=Tryz.prog) wb 26 5 #[.int .u8 115,.int .u8 116,.int .u8 97,.int .u8 114,.int .u8 116] 5 5 Tryz.underlying26 Tryz.underlying5
 have hrw:Row (wb.alloc (.cells #[.int .u8 115,.int .u8 116,.int .u8 97,.int .u8 114,.int .u8 116] 5 (5,6))) (some ⟨wb.heap.size,0,none⟩) 5 stW:=row_word wb stW (5,6) stW_byte
 have hb0:Below wb.heap.size wb (wb.alloc (.cells #[.int .u8 115,.int .u8 116,.int .u8 97,.int .u8 114,.int .u8 116] 5 (5,6))):=(Below.refl _ _).alloc (Nat.le_refl _) _
 have q0:(wb.alloc (.cells #[.int .u8 115,.int .u8 116,.int .u8 97,.int .u8 114,.int .u8 116] 5 (5,6))).cell? ⟨w.heap.size,0,none⟩=some (.int .u64 seed):=(hb0.cell (p:=⟨w.heap.size,0,none⟩) (Array.getElem?_eq_some_iff.1 hbx).1).trans ((cell_of_row _ w.heap.size 0 _ 87 (0,0) hbx).trans rfl)
 unfold tkv
 go_enter Tryz.func199,Tryz.ntmps199
 go_upto_region 1 with fail
 rw [← HWB.out]
 clear HWB
 go_wp2_with fail
 clear hcv
 obtain ⟨w0,hw0⟩:∃ w0,w0=wb.alloc (.cells #[.int .u8 115,.int .u8 116,.int .u8 97,.int .u8 114,.int .u8 116] 5 (5,6)):=⟨_,rfl⟩
 rw [← hw0] at hrw hb0 ⊢
 clear hw0
 refine (digestBytes_any seed _ hx.1 hx.2).mono ?_
 rintro e w1 ⟨g1,rfl,hr1,_,hb1⟩
 go_wp2_with fail
 refine (implPutNum_any leaf _ hl).mono ?_
 rintro e w2 ⟨a2,c2,rfl,ho2,hb2⟩
 obtain ⟨n2,hn2⟩:∃ n2,n2=(putI leaf).length:=⟨_,rfl⟩
 rw [← hn2] at ho2 ⊢
 clear hn2
 go_wp2_with fail
 refine (implPutNum_any digit _ hd).mono ?_
 rintro e w3 ⟨a3,c3,rfl,ho3,hb3⟩
 obtain ⟨n3,hn3⟩:∃ n3,n3=(putI digit).length:=⟨_,rfl⟩
 rw [← hn3] at ho3 ⊢
 clear hn3
 have D3:Below w1.heap.size w1 w3:=keepT hb2 hb3
 have B3:Below w0.heap.size w0 w3:=keepT hb1 D3
 have B3':Below w.heap.size w w3:=keepT hbb (keepT hb0 B3)
 have HRS:Hid (Rows2 (w3.alloc (.cells #[.slice (some ⟨wb.heap.size,0,none⟩) 5 5,.slice (some ⟨g1,0,none⟩) 8 8,.slice a2 n2 c2,.slice a3 n3 c3] 26)) (some ⟨w3.heap.size,0,none⟩) 4 [stW,eightI seed,putI leaf,putI digit]):=by
  refine rows2_lit w3 [(some ⟨wb.heap.size,0,none⟩,5,5,stW),(some ⟨g1,0,none⟩,8,8,eightI seed),(a2,n2,c2,putI leaf),(a3,n3,c3,putI digit)] 26 ?_
  intro p hp
  simp only [List.mem_cons,List.not_mem_nil,or_false] at hp
  rcases hp with rfl | rfl | rfl | rfl
  ·exact ⟨hrw.kept B3,fun h=>by cases h⟩
  ·exact ⟨hr1.kept D3,fun h=>by cases h⟩
  ·exact ⟨(ho2.kept hb3).toRow,ho2.nil⟩
  ·exact ⟨ho3.toRow,ho3.nil⟩
 have B4:Below w.heap.size w (w3.alloc (.cells #[.slice (some ⟨wb.heap.size,0,none⟩) 5 5,.slice (some ⟨g1,0,none⟩) 8 8,.slice a2 n2 c2,.slice a3 n3 c3] 26)):=B3'.alloc B3'.size _
 clear hr1 ho2 ho3 hrw q0
 go_wp2_with fail
 refine (implHashParts_any _ 4 4 [stW,eightI seed,putI leaf,putI digit] _ HRS.out (by decide) HT.out).mono ?_
 rintro e w4 ⟨rfl,hb4⟩
 go_wp2
 go_ret
 exact ⟨rfl,keepT B4 hb4⟩
def stepN (v:Int):Int:=hashL (eightI v)
def stepsN (v:Int):Nat→Int
 | 0=>v
 | k+1=>stepN (stepsN v k)
theorem stepsN_bd (v:Int)(hv:U64 v)(k:Nat):U64 (stepsN v k):=by
 cases k with
 | zero=>exact hv
 | succ k=>exact (hashL_bd (eightI (stepsN v k)):U64 (hashL (eightI (stepsN v k))))
theorem stepped_any (v:Int)(n:Nat)(w:World)(hv:U64 v)(hn:n≤1000) :
  Calls Tryz.prog 198 #[.int .u64 v,.int .i64 n] w fun e w'=>e=.returned (.int .u64 (stepsN v n))∧Below w.heap.size w w':=by
 have HV:Hid (U64 v):=hv
 clear hv
 go_enter Tryz.func198,Tryz.ntmps198
 go_wp2
 go_loopw [0,6] (fun d i wr=>∃ (k:Nat) (x:Int),k≤n∧i=.int .i64 k∧d=.int .u64 x∧Hid (x=stepsN v k)∧Below w.heap.size w wr) (fun _ i _=>n - (intOf i).toNat)
 case atStart=>exact ⟨0,v,Nat.zero_le _,rfl,rfl,rfl,Below.refl _ _⟩
 case round =>
  obtain ⟨k,x,hk,rfl,rfl,HX,hbr⟩:=hrel
  by_cases hlt:k<n
  ·have hx:U64 x:=by rw [HX.out]; exact stepsN_bd v HV.out k
   have HN:Hid (hashL (eightI x)=stepsN v (k+1)):=by show _=_; rw [stepsN,← HX.out]; rfl
   have hlti:(k:Int)<(n:Int):=by omega
   clear HX
   go_wp2_with fail
   refine (digestBytes_any x _ hx.1 hx.2).mono ?_
   rintro e w2 ⟨g,rfl,hrow,_,hb2⟩
   go_wp2_with fail
   refine (implHash_any _ 8 _ (eightI x) _ hrow (by decide)).mono ?_
   rintro e w3 ⟨rfl,hb3⟩
   rw [HN.out]
   go_wp2
   go_roundw
   case rel=>exact ⟨k+1,_,by omega,by go_num,rfl,rfl,keepT (keepT hbr hb2) hb3⟩
   case measure=>simp [intOf]; omega
  ·obtain rfl:k=n:=by omega
   go_wp2
   go_ret
   exact ⟨by rw [HX.out]; rfl,hbr⟩
theorem l8Steps_any (v:Int)(n:Nat)(w:World)(hv:U64 v)(hn:n≤1000) :
  Calls Tryz.prog 90 #[.int .u64 v,.int .i64 n] w fun e w'=>e=.returned (.int .u64 (stepsN v n))∧Below w.heap.size w w':=by
 have HV:Hid (U64 v):=hv
 clear hv
 go_enter Tryz.func90,Tryz.ntmps90
 go_wp2
 go_loopw [0,5] (fun d i wr=>∃ (k:Nat) (x:Int),k≤n∧i=.int .i64 k∧d=.int .u64 x∧Hid (x=stepsN v k)∧Below w.heap.size w wr) (fun _ i _=>n - (intOf i).toNat)
 case atStart=>exact ⟨0,v,Nat.zero_le _,rfl,rfl,rfl,Below.refl _ _⟩
 case round =>
  obtain ⟨k,x,hk,rfl,rfl,HX,hbr⟩:=hrel
  by_cases hlt:k<n
  ·have hx:U64 x:=by rw [HX.out]; exact stepsN_bd v HV.out k
   have HN:Hid (hashL (eightI x)=stepsN v (k+1)):=by show _=_; rw [stepsN,← HX.out]; rfl
   have hlti:(k:Int)<(n:Int):=by omega
   clear HX
   go_wp2_with fail
   refine (l1Eight_any x _ hx.1 hx.2).mono ?_
   rintro e w2 ⟨ag,cg,rfl,hown,hb2⟩
   go_wp2_with fail
   refine (specHash_any _ 8 _ (eightI x) _ hown.toRow (by decide)).mono ?_
   rintro e w3 ⟨rfl,rfl⟩
   rw [HN.out]
   go_wp2
   go_roundw
   case rel=>exact ⟨k+1,_,by omega,by go_num,rfl,rfl,keepT hbr hb2⟩
   case measure=>simp [intOf]; omega
  ·obtain rfl:k=n:=by omega
   go_wp2
   go_ret
   exact ⟨by rw [HX.out]; rfl,hbr⟩
open Go.RowKit
theorem step_append_ownT {P:Program}{ops:Array Oper}{o:Oper}{a:Act}{w:World}{K:Act→World→Prop}{Q:Exit→Act→World→Prop}{E:Prop}
  (hg:o.guard=none) (s x:Operand) (t:TypeId) (hop:o.op=Op.call { callee:=Callee.builtin Builtin.append,args:=#[s,x],argTypes:=#[t,t] })
  (base:Nat) (e:TypeId) (i:TypeInfo) (z:Value) (size bytes:Nat) (h1:P.underlying t=some (.slice e)) (h2:P.info? e=some i) (h3:i.zero=some z) (h4:i.size=size) (h5:i.bytes=bytes) (h6:z.cells.size=size) (h7:0<size)
  (v:Value) (n:Nat) (xs:List Value) (hs:a.eval s=v) (hown:w.ownsRow base e size v n xs)
  (ad:Addr) (m c:Nat) (news:List Value) (hx:a.eval x=.slice (some ad) m c) (hn:news.length=m * size) (hc:∀ j u,news[j]? = some u→w.cell? (ad.add j)=some u) (h1c:∀ u∈news,u.oneCell'=true)
  (b1:n+m≤maxLen) (b2:(n+m) * bytes≤140737488355328) (b3:base≤w.heap.size)
  (hK:∀ v' w',w'.ownsRow base e size v' (n+m) (xs++news)→w.grownBy w' v.ownBlock→K (a.put o.dst v') w') :
  if Region.wanted o (yielded ops a.tmps)=true then Oper.wp P o a w K Q else E:=by
 have hw:Region.wanted o (yielded ops a.tmps)=true:=by simp [Region.wanted,hg]
 rw [if_pos hw]
 obtain ⟨v',w',hrun,r1,r2,_⟩:=run_append_own (P:=P) w base t o.type e i z size bytes h1 h2 h3 h4 h5 h6 h7 v n xs hown ad m c news hn hc h1c b1 b2 b3
 unfold Oper.wp
 simp [execOp,hop,resolve,invoke,builtin,hs,hx,hrun,Result.andThen]
 exact hK v' w' r1 r2
theorem Tryz.infoU:(Tryz.prog.info? 29).map (fun i=>(i.zero,i.size,i.bytes))=some (some (.int .u64 0),1,8):=by kernel_rfl
theorem cell_oneU (w:World)(x:Int):∀ jj uu,([x].map (Value.int .u64))[jj]? = some uu→(w.alloc (.cells #[.int .u64 x] 29)).cell? ((⟨w.heap.size,0,none⟩:Addr).add jj)=some uu:=by
 intro jj uu hju
 rw [Addr.add_lit,Nat.zero_add,cell_of_row _ w.heap.size jj _ 29 _ (heap_alloc_new w _),← hju]
 simp
theorem madeU {B n:Nat}{w:World}{v:Value}(h:w.ownsRow B 29 1 v n (madeCells (Value.int .u64 0).cells (n * 1)).toList):w.ownsRow B 29 1 v n ((List.replicate n (0:Int)).map (Value.int .u64)):=by
 have e:(madeCells (Value.int .u64 0).cells (n * 1)).toList=(List.replicate n (0:Int)).map (Value.int .u64):=by
  rw [List.map_replicate,Nat.mul_one]; exact toList_madeCells_one _ _
 rwa [e] at h
def endN (seed leaf:Int)(d:Nat):Int:=stepsN (startN seed leaf d) 15
def endsN (seed leaf:Int):List Int:=(List.range 18).map (endN seed leaf)
theorem endsN_len (seed leaf:Int):(endsN seed leaf).length=18:=by simp [endsN]
theorem endsN_get (seed leaf:Int)(d:Nat)(h:d<18):(endsN seed leaf).getD d 0=endN seed leaf d:=by simp [endsN,h]
theorem endN_bd (seed leaf:Int)(d:Nat):U64 (endN seed leaf d):=stepsN_bd _ (startN_bd _ _ _) _
theorem endsN_bd (seed leaf:Int):∀ k,U64 ((endsN seed leaf).getD k 0):=by
 intro k
 by_cases h:k<18
 ·rw [endsN_get seed leaf k h]; exact endN_bd _ _ _
 ·rw [List.getD_eq_getElem?_getD,List.getElem?_eq_none (by rw [endsN_len]; omega)]; simp [U64]
def leafN (seed leaf:Int):Int:=hashD leW (endsN seed leaf)
theorem leafN_bd (seed leaf:Int):U64 (leafN seed leaf):=hashD_bd _ _
theorem u64_take {zs:List Int}(h:∀ k,U64 (zs.getD k 0))(j:Nat):∀ k,U64 ((zs.take j).getD k 0):=by
 intro k
 have:=h k
 rw [List.getD_eq_getElem?_getD,List.getElem?_take]
 split
 ·simpa [List.getD_eq_getElem?_getD] using this
 ·simp [U64]
theorem leafDigest_any (seed height next leaf:Int)(w:World)(hx:U64 seed)(hl:leaf≤9223372036854775807) :
  Calls Tryz.prog 201 #[tkv seed height next,.int .i64 leaf] w fun e w'=>e=.returned (.int .u64 (leafN seed leaf))∧Below w.heap.size w w':=by
 obtain ⟨i0,hi,hz0,hz1,hz2⟩:=info_parts Tryz.infoU
 obtain ⟨wb,hwb⟩:∃ wb,wb=w.alloc (.cells #[.int .u64 seed,.int .i64 height,.int .i64 next] 87):=⟨_,rfl⟩
 have hbb:Below w.heap.size w wb:=by rw [hwb]; exact (Below.refl _ _).alloc (Nat.le_refl _) _
 have HBX:Hid (wb.heap[w.heap.size]? = some (.cells #[.int .u64 seed,.int .i64 height,.int .i64 next] 87)):=by show _=_; rw [hwb]; exact heap_alloc_new w _
 have hlw:w.heap.size<wb.heap.size:=by rw [hwb]; simp
 have HWB:Hid (_=_):=hwb
 clear hwb
 rw [tkv]
 go_enter Tryz.func201,Tryz.ntmps201
 go_upto_region 1 with fail
 rw [← HWB.out]
 clear HWB
 go_wp2_with (first | (at_make; refine wpList_make_full _ rfl _ _ 83 rfl wb.heap.size 29 i0 _ 1 Tryz.underlying83 hi hz0 hz1 _ _ _ _ 18 rfl rfl rfl rfl (by rw [hz2]; decide) (by unfold maxLen; decide) (by exact Nat.le_refl _) ?_; intro w2 hown hgrow))
 have hbl:Below wb.heap.size wb w2:=(Below.refl _ _).grown hgrow (Nat.le_refl _) (by simp)
 have HST:Hid (OwnU wb.heap.size w2 (some ⟨wb.heap.size,0,none⟩) 18 18 (half (endsN seed leaf) 0)):=by
  show OwnU _ _ _ _ _ _
  rw [half_zero,endsN_len]
  exact ⟨madeU hown,u64_rep 18⟩
 clear hgrow hi hz0 hz1 hz2 hown
 go_loopw [10] (fun i wr=>∃ k:Nat,k≤18∧i=.int .i64 k∧Hid (OwnU wb.heap.size wr (some ⟨wb.heap.size,0,none⟩) 18 18 (half (endsN seed leaf) k))∧Below wb.heap.size wb wr) (fun i _=>18 - (intOf i).toNat)
 case atStart=>exact ⟨0,by decide,rfl,HST,hbl⟩
 case round =>
  obtain ⟨k,hk,rfl,HO,hbr⟩:=hrel
  by_cases hlt:k<18
  ·have hbx:wr.heap[w.heap.size]? = some (.cells #[.int .u64 seed,.int .i64 height,.int .i64 next] 87):=(hbr.block _ hlw).trans HBX.out
   have q0:wr.cell? ⟨w.heap.size,0,none⟩=some (.int .u64 seed):=qk hbx rfl
   have q1:wr.cell? ⟨w.heap.size,1,none⟩=some (.int .i64 height):=qk hbx rfl
   have q2:wr.cell? ⟨w.heap.size,2,none⟩=some (.int .i64 next):=qk hbx rfl
   have hlti:(k:Int)<18:=by omega
   clear hbx HST hbl
   go_wp2_with fail
   refine (implStart_any seed height next leaf (k:Int) _ hx hl (by omega)).mono ?_
   rintro e w3 ⟨rfl,hb3⟩
   clear q0 q1 q2
   go_wp2_with fail
   refine (stepped_any (startN seed leaf (k:Int)) 15 _ (startN_bd _ _ _) (by decide)).mono ?_
   rintro e w4 ⟨rfl,hb4⟩
   have hb34:=keepT hb3 hb4
   have hor:=HO.out.kept hb34
   have hB4:=keepT hbr hb34
   have f0:w4.frozen? ⟨wb.heap.size,k,none⟩=false:=hor.row.frozenAt _
   have hvl:((half (endsN seed leaf) k).map (Value.int .u64)).length=18 * 1:=hor.row.1
   obtain ⟨y0,hy0⟩:∃ y,w4.cell? ⟨wb.heap.size,k,none⟩=some y:=⟨_,(hor.row.cellAt _ (by omega)).trans (List.getElem?_eq_getElem (by omega))⟩
   have hs:=(hor.row.stored k (.int .u64 (stepsN (startN seed leaf (k:Int)) 15))).1
   rw [← List.map_set,show stepsN (startN seed leaf (k:Int)) 15=(endsN seed leaf).getD k 0 by rw [endsN_get seed leaf k hlt]; rfl,half_set (endsN seed leaf) k (by rw [endsN_len]; exact hlt),show (endsN seed leaf).getD k 0=stepsN (startN seed leaf (k:Int)) 15 by rw [endsN_get seed leaf k hlt]; rfl] at hs
   have HN:Hid (OwnU wb.heap.size (w4.setCell ⟨wb.heap.size,k,none⟩ (.int .u64 (stepsN (startN seed leaf (k:Int)) 15))) (some ⟨wb.heap.size,0,none⟩) 18 18 (half (endsN seed leaf) (k+1))):=⟨hs,u64_half (endsN_bd seed leaf) _⟩
   have HBN:Hid (Below wb.heap.size wb (w4.setCell ⟨wb.heap.size,k,none⟩ (.int .u64 (stepsN (startN seed leaf (k:Int)) 15)))):=hB4.setCell (Nat.le_refl _) _
   clear hs hor hB4 hb34 hb3 hb4 hbr HO hvl
   go_wp2
   go_roundw
   case rel=>exact ⟨k+1,by omega,by go_num,HN,HBN.out⟩
   case measure=>simp [intOf]; omega
  ·obtain rfl:k=18:=by omega
   have HR:Hid (RowU wr (some ⟨wb.heap.size,0,none⟩) 18 (endsN seed leaf)):=by
    have:=HO.out.toRow
    have e:=half_all (endsN seed leaf)
    rw [endsN_len] at e
    rwa [e] at this
   have HLE:Hid (strL ⟨#[108,101,97,102]⟩=leW):=by show _=_; decide
   clear HO HST hbl
   go_wp2_with fail
   refine (hashDigests_any _ _ 18 18 (endsN seed leaf) _ HR.out (by decide) (by decide)).mono ?_
   rintro e w3 ⟨rfl,hb3⟩
   rw [HLE.out]
   go_wp2
   go_ret
   exact ⟨rfl,keepT hbb (keepT hbr hb3)⟩
open Go.RowKit
def upN (zs:List Int)(i:Nat):Int:=hashD ndW [zs.getD (2 * i) 0,zs.getD (2 * i+1) 0]
def upL (zs:List Int):List Int:=(List.range (zs.length / 2)).map (upN zs)
theorem upL_len (zs:List Int):(upL zs).length=zs.length / 2:=by simp [upL]
theorem upL_get (zs:List Int)(i:Nat)(h:i<zs.length / 2):(upL zs).getD i 0=upN zs i:=by simp [upL,h]
theorem upL_bd (zs:List Int):∀ k,U64 ((upL zs).getD k 0):=by
 intro k
 by_cases h:k<zs.length / 2
 ·rw [upL_get zs k h]; exact hashD_bd _ _
 ·rw [List.getD_eq_getElem?_getD,List.getElem?_eq_none (by rw [upL_len]; omega)]; simp [U64]
theorem rowU_lit2 (w:World)(x y:Int)(hx:U64 x)(hy:U64 y):RowU (w.alloc (.cells #[.int .u64 x,.int .u64 y] 29)) (some ⟨w.heap.size,0,none⟩) 2 [x,y]:=by
 refine ⟨rfl,fun k hk=>⟨w.heap.size,0,rfl,by simp,?_⟩,fun k=>?_⟩
 ·rw [Nat.zero_add,cell_of_row _ w.heap.size k _ 29 _ (heap_alloc_new w _)]
  match k,hk with
  | 0,_=>rfl
  | 1,_=>rfl
 ·match k with
  | 0=>exact hx
  | 1=>exact hy
  | k+2=>simp [U64]
theorem rowAbove_any (a:Option Addr)(n c:Nat)(zs:List Int)(w:World)(h:RowU w a n zs)(hn:n≤1000) :
  Calls Tryz.prog 203 #[.slice a n c] w fun e w'=>∃ ar,e=.returned (.slice ar (n / 2) (n / 2))∧OwnU w.heap.size w' ar (n / 2) (n / 2) (upL zs)∧Below w.heap.size w w':=by
 obtain ⟨i0,hi,hz0,hz1,hz2⟩:=info_parts Tryz.infoU
 have H0:Hid (RowU w a n zs):=h
 have HL:Hid (zs.length=n):=h.len
 clear h
 obtain ⟨m,hm⟩:∃ m,m=n / 2:=⟨_,rfl⟩
 have HM:Hid (m=n / 2):=hm
 have hmi:(n:Int) / 2=(m:Int):=by omega
 rw [← hm]
 clear hm
 have hm5:m≤500:=by have:=HM.out; omega
 go_enter Tryz.func203,Tryz.ntmps203
 go_wp2_with (first | (at_make; refine wpList_make_full _ rfl _ _ 83 rfl w.heap.size 29 i0 _ 1 Tryz.underlying83 hi hz0 hz1 _ _ _ _ m rfl rfl rfl rfl (by rw [hz2]; omega) (by unfold maxLen; omega) (by exact Nat.le_refl _) ?_; intro w2 hown hgrow))
 have hbl:Below w.heap.size w w2:=(Below.refl _ _).grown hgrow (Nat.le_refl _) (by simp)
 have HST:Hid (OwnU w.heap.size w2 (some ⟨w.heap.size,0,none⟩) m m (half (upL zs) 0)):=by
  show OwnU _ _ _ _ _ _
  rw [half_zero,upL_len,HL.out,← HM.out]
  exact ⟨madeU hown,u64_rep m⟩
 clear hgrow hi hz0 hz1 hz2 hown
 go_loopw [11] (fun i wr=>∃ k:Nat,k≤m∧i=.int .i64 k∧Hid (OwnU w.heap.size wr (some ⟨w.heap.size,0,none⟩) m m (half (upL zs) k))∧Below w.heap.size w wr) (fun i _=>m - (intOf i).toNat)
 case atStart=>exact ⟨0,Nat.zero_le _,rfl,HST,hbl⟩
 case round =>
  obtain ⟨k,hk,rfl,HO,hbr⟩:=hrel
  by_cases hlt:k<m
  ·have h2n:2 * k+1<n:=by have:=HM.out; omega
   obtain ⟨b,off,rfl,hlb,hc0⟩:=H0.out.get (2 * k) (by omega)
   obtain ⟨b',off',hb',_,hc1⟩:=H0.out.get (2 * k+1) h2n
   simp only [Option.some.injEq,Addr.mk.injEq,and_true] at hb'
   obtain ⟨rfl,rfl⟩:=hb'
   obtain ⟨x,hx⟩:∃ x,x=zs.getD (2 * k) 0:=⟨_,rfl⟩
   obtain ⟨y,hy⟩:∃ y,y=zs.getD (2 * k+1) 0:=⟨_,rfl⟩
   have hxb:=H0.out.rng (2 * k)
   have hyb:=H0.out.rng (2 * k+1)
   rw [← hx] at hc0 hxb
   rw [← hy] at hc1 hyb
   have HV:Hid (hashD ndW [x,y]=upN zs k):=by show _=_; unfold upN; rw [hx,hy]
   have HXD:Hid (∀ w7,Below wr.heap.size wr w7→w7.cell? ⟨b,off+2 * k,none⟩=some (.int .u64 x)∧w7.cell? ⟨b,off+(2 * k+1),none⟩=some (.int .u64 y)):=fun w7 h7 =>
    have hb7:=keepT hbr h7
    ⟨(hb7.cell (p:=⟨b,off+2 * k,none⟩) hlb).trans hc0,(hb7.cell (p:=⟨b,off+(2 * k+1),none⟩) hlb).trans hc1⟩
   have HND:Hid (strL ⟨#[110,111,100,101]⟩=ndW):=by show _=_; decide
   have i2:(k:Int)<(m:Int):=by omega
   have i3:2 * (k:Int)<(n:Int):=by omega
   have i4:2 * (k:Int)+1<(n:Int):=by omega
   have t1:(2 * (k:Int)).toNat=2 * k:=by omega
   have t2:(2 * (k:Int)+1).toNat=2 * k+1:=by omega
   have u1:IntKind.i64.wrap (2 * (k:Int))=2 * (k:Int):=by rw [IntKind.wrap_i64]; omega
   have u2:IntKind.i64.wrap (2 * (k:Int)+1)=2 * (k:Int)+1:=by rw [IntKind.wrap_i64]; omega
   have u3:0≤2 * (k:Int):=by omega
   have u4:0≤2 * (k:Int)+1:=by omega
   obtain ⟨q0,q1⟩:=HXD.out _ (Below.refl _ _)
   clear hx hy hc0 hc1 HST hbl
   have HST2:Hid (∀ w7,Below wr.heap.size wr w7→OwnU w.heap.size w7 (some ⟨w.heap.size,0,none⟩) m m (half (upL zs) k)):=fun w7 h7=>HO.out.kept h7
   have hal:Below wr.heap.size wr (wr.drew.alloc (.cells #[.int .u64 x,.int .u64 y] 29)):=((Below.refl _ _).drew).alloc (Nat.le_refl _) _
   go_wp2_with fail
   go_region_with ((go_at_call 204; refine (hashDigests_any _ _ 2 2 [x,y] _ (rowU_lit2 wr.drew x y hxb hyb) (by decide) (by decide)).mono ?_; rintro e w3 ⟨rfl,hb3⟩; rw [HND.out,HV.out]; have hb37:=keepT hal hb3; have hor:=HST2.out _ hb37; have f0:w3.frozen? ⟨w.heap.size,k,none⟩=false:=hor.row.frozenAt _; have hvl:((half (upL zs) k).map (Value.int .u64)).length=m * 1:=hor.row.1; obtain ⟨y0,hy0⟩:∃ y,w3.cell? ⟨w.heap.size,k,none⟩=some y:=⟨_,(hor.row.cellAt _ (by omega)).trans (List.getElem?_eq_getElem (by omega))⟩))
   all_goals
    have hkl:k<zs.length / 2:=by rw [HL.out,← HM.out]; exact hlt
    have hs:=(hor.row.stored k (.int .u64 (upN zs k))).1
    have e1:=half_set (upL zs) k (by rw [upL_len]; exact hkl)
    rw [upL_get zs k hkl] at e1
    rw [← List.map_set,e1] at hs
    have HN:Hid (OwnU w.heap.size (w3.setCell ⟨w.heap.size,k,none⟩ (.int .u64 (upN zs k))) (some ⟨w.heap.size,0,none⟩) m m (half (upL zs) (k+1))):=⟨hs,u64_half (upL_bd zs) _⟩
    have HBN:Hid (Below w.heap.size w (w3.setCell ⟨w.heap.size,k,none⟩ (.int .u64 (upN zs k)))):=(keepT hbr hb37).setCell (Nat.le_refl _) _
    clear hs hor hb3 hb37 hbr HO hvl HST2 hal
    go_wp2
    go_roundw
    case rel=>exact ⟨k+1,by omega,by go_num,HN,HBN.out⟩
    case measure=>simp [intOf]; omega
  ·obtain rfl:k=m:=by omega
   have HR:Hid (OwnU w.heap.size wr (some ⟨w.heap.size,0,none⟩) k k (upL zs)):=by
    have:=HO.out
    have e:=half_all (upL zs)
    rw [upL_len,HL.out,← HM.out] at e
    rwa [e] at this
   clear HO HST hbl
   go_wp2
   go_ret
   exact ⟨_,rfl,HR.out,hbr⟩
end Go.Proofs.YtnmplldhdfingaaGreatDoor
