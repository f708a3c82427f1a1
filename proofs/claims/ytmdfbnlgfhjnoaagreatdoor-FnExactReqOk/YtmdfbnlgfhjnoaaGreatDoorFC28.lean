import Derived.OwnWalk
import Derived.Test.YtmdfbnlgfhjnoaaGreatDoorFC15
set_option maxRecDepth 10000
set_option maxHeartbeats 8000000
set_option linter.unusedVariables false
namespace Go.Proofs.YtmdfbnlgfhjnoaaGreatDoor
open Go.RowKit
def leW:List Int:=[108,101,97,102]
def ndW:List Int:=[110,111,100,101]
theorem leW_byte:∀ k,0≤leW.getD k 0∧leW.getD k 0≤255:=bytes_of_all (by decide)
theorem ndW_byte:∀ k,0≤ndW.getD k 0∧ndW.getD k 0≤255:=bytes_of_all (by decide)
theorem good_word (w:World)(bs:List Int)(fr:Nat × Nat)(h:∀ k,0≤bs.getD k 0∧bs.getD k 0≤255):Good (w.alloc (.cells (wordC bs) 5 fr)) (some ⟨w.heap.size,0,none⟩,bs.length,bs.length,bs) :=
 ⟨row_word w bs fr h,(fun h=>by cases h),fun b off s e=>by simp at e; obtain ⟨rfl,_⟩:=e; exact ⟨_,5,_,heap_alloc_new w _,by decide⟩⟩
theorem OwnP.mono {B B':Nat}{w:World}{a:Option Addr}{n cap:Nat}{ps:List Part}(h:OwnP B w a n cap ps)(hB:B'≤B):OwnP B' w a n cap ps :=
 ⟨⟨h.row.1,by rcases h.row.2 with h | ⟨g,cap,cur,hv,hb,r⟩; exact .inl h; exact .inr ⟨g,cap,cur,hv,by omega,r⟩⟩,h.get⟩
theorem l8Leaf_any (a:Option Addr)(n c:Nat)(ds:List Int)(w:World)(h:RowU w a n ds)(hn:n≤100000) :
  Calls Tryz.prog 168 #[.slice a n c] w fun e w'=>e=.returned (.int .u64 (hashD leW ds))∧Below w.heap.size w w':=by
 obtain ⟨i0,hi,hz0,hz1,hz2⟩:=info_parts Tryz.infoBytes
 have H0:Hid (RowU w a n ds):=h
 have HL:Hid (ds.length=n):=h.len
 clear h
 have hcv:=Lib.run_convert_bytes_const (P:=Tryz.prog) w 32 5 #[.int .u8 108,.int .u8 101,.int .u8 97,.int .u8 102] 4 4 Tryz.underlying32 Tryz.underlying5
 have hgd:Good (w.alloc (.cells #[.int .u8 108,.int .u8 101,.int .u8 97,.int .u8 102] 5 (4,5))) (some ⟨w.heap.size,0,none⟩,4,4,leW):=good_word w leW (4,5) leW_byte
 have hb0:Below w.heap.size w (w.alloc (.cells #[.int .u8 108,.int .u8 101,.int .u8 97,.int .u8 102] 5 (4,5))):=(Below.refl _ _).alloc (Nat.le_refl _) _
 obtain ⟨W,hW⟩:∃ W,W=w.alloc (.cells #[.int .u8 108,.int .u8 101,.int .u8 97,.int .u8 102] 5 (4,5)):=⟨_,rfl⟩
 have HWW:Hid (_=_):=hW
 have hsz:W.heap.size=w.heap.size+1:=by rw [hW]; simp
 rw [← hW] at hgd hb0
 clear hW
 have HO:Hid (OwnP W.heap.size (W.alloc (.cells #[.slice (some ⟨w.heap.size,0,none⟩) 4 4] 32)) (some ⟨W.heap.size,0,none⟩) 1 1 [(some ⟨w.heap.size,0,none⟩,4,4,leW)]):=ownP_one W _ hgd
 have hb1:Below w.heap.size w (W.alloc (.cells #[.slice (some ⟨w.heap.size,0,none⟩) 4 4] 32)):=hb0.alloc hb0.size _
 have hWs:w.heap.size≤w.heap.size+1:=Nat.le_succ _
 rw [hsz] at HO
 clear hsz
 go_enter Tryz.func168,Tryz.ntmps168
 rw [HWW.out] at HO hb1
 go_wp2
 clear hcv
 go_loopw [3,4] (fun o i wr=>∃ (k m cc:Nat) (ao:Option Addr) (ps:List Part),k≤n∧m=k+1∧i=.int .i64 k∧o=.slice ao m cc∧OwnP w.heap.size wr ao m cc ps∧Hid (bytesOfP ps=leW::(ds.take k).map eightI)∧Below w.heap.size w wr) (fun _ i _=>n - (intOf i).toNat)
 case atStart=>exact ⟨0,1,1,_,_,Nat.zero_le _,rfl,rfl,rfl,HO.out.mono hWs,rfl,hb1⟩
 case round =>
  obtain ⟨k,m,cc,ao,ps,hk,rfl,rfl,rfl,hor,HP,hbr⟩:=hrel
  have hws:=hbr.size
  by_cases hlt:k<n
  ·obtain ⟨b,off,rfl,hlb,hc0⟩:=H0.out.get k hlt
   have hcell:wr.cell? ⟨b,off+k,none⟩=some (.int .u64 (ds.getD k 0)):=(hbr.cell (p:=⟨b,off+k,none⟩) hlb).trans hc0
   obtain ⟨hd0,hd1⟩:=H0.out.rng k
   obtain ⟨d,hd⟩:∃ d,d=ds.getD k 0:=⟨_,rfl⟩
   rw [← hd] at hcell hd0 hd1
   have HN:Hid (leW::(ds.take (k+1)).map eightI=(leW::(ds.take k).map eightI)++[eightI d]):=by show _=_; rw [map_snoc ds k (by rw [HL.out]; exact hlt),hd]; rfl
   have hlti:(k:Int)<(n:Int):=by omega
   have HOR:Hid (_):=hor
   clear hd hc0 hor HO
   go_wp2_with fail
   refine (l1Eight_any d _ hd0 hd1).mono ?_
   rintro e w2 ⟨ag,cg,rfl,hown,hb2⟩
   have hgd2:Good w2 (ag,8,cg,eightI d):=⟨hown.toRow,hown.nil,hown.ty⟩
   have hor2:=HOR.out.kept hb2
   have hal:Below w2.heap.size w2 (w2.alloc (.cells #[.slice ag 8 cg] 32)):=(Below.refl _ _).alloc (Nat.le_refl _) _
   have hor3:=hor2.kept hal
   have hgd3:=hgd2.kept hal
   have hbr3:Below w.heap.size w (w2.alloc (.cells #[.slice ag 8 cg] 32)):=keepT (keepT hbr hb2) hal
   have hcl:∀ jj uu,([pval (ag,8,cg,eightI d)]:List Value)[jj]? = some uu→(w2.alloc (.cells #[.slice ag 8 cg] 32)).cell? ((⟨w2.heap.size,0,none⟩:Addr).add jj)=some uu:=by
    intro jj uu hju
    rw [Addr.add_lit,Nat.zero_add,cell_of_row _ w2.heap.size jj _ 32 _ (heap_alloc_new w2 _),← hju]
    simp [pval]
   clear hown hgd2 hor2 hal HOR
   go_wp2_with (first | (at_builtin; refine wpList_append_own _ rfl (.tmp 14) (.tmp 20) 191 rfl w.heap.size 32 i0 _ 1 24 Tryz.underlying191 hi hz0 hz1 hz2 rfl (by decide) _ (k+1) _ rfl hor3.row ⟨w2.heap.size,0,none⟩ 1 1 [pval (ag,8,cg,eightI d)] rfl rfl hcl (by intro u hu; simp at hu; subst hu; rfl) (by unfold maxLen; omega) (by omega) (by have:=hbr3.size; exact this) ?_; intro v4 w4 hv4 hg4 _))
   have he:ps.map pval++[pval (ag,8,cg,eightI d)]=(ps++[((ag,8,cg,eightI d):Part)]).map pval:=by rw [List.map_append]; rfl
   rw [he] at hv4
   obtain ⟨a4,c4,rfl,ho4⟩:=ownP_appended hor3.row hv4 hg4 hor3.get hgd3
   have hbr4:Below w.heap.size w w4:=hbr3.grown hg4 hbr3.size (fun k hk=>(hor3.row.lt k hk).1)
   have HN2:Hid (bytesOfP (ps++[((ag,8,cg,eightI d):Part)])=leW::(ds.take (k+1)).map eightI):=by show _=_; rw [HN.out,← HP.out]; unfold bytesOfP; rw [List.map_append]; rfl
   go_roundw
   case rel=>exact ⟨k+1,k+1+1,c4,a4,_,by omega,rfl,by go_num,rfl,ho4,HN2,hbr4⟩
   case measure=>simp [intOf]; omega
  ·obtain rfl:k=n:=by omega
   have HR:Hid (Rows2 wr ao (k+1) (leW::ds.map eightI)):=by
    have:=hor.rows
    have e:=HP.out
    rw [List.take_of_length_le (by rw [HL.out]; exact Nat.le_refl _)] at e
    rw [← e]
    exact this
   have HT:Hid (total (leW::ds.map eightI)≤2097152):=by show _≤_; rw [total_parts,HL.out]; show 4+_≤_; omega
   clear hor HO HP
   go_wp2_with fail
   refine (specHashAll_any ao (k+1) cc (leW::ds.map eightI) _ HR.out (by omega) HT.out).mono ?_
   rintro e w2 ⟨rfl,hb2⟩
   go_wp2
   go_ret
   exact ⟨rfl,keepT hbr hb2⟩
theorem l8Node_any (x y:Int)(w:World)(hx:U64 x)(hy:U64 y) :
  Calls Tryz.prog 169 #[.int .u64 x,.int .u64 y] w fun e w'=>e=.returned (.int .u64 (hashD ndW [x,y]))∧Below w.heap.size w w':=by
 have HT:Hid (total [ndW,eightI x,eightI y]≤2097152):=by show _≤_; rw [show [ndW,eightI x,eightI y]=ndW::[x,y].map eightI from rfl,total_parts]; show 4+_≤_; simp
 have hcv:=Lib.run_convert_bytes_const (P:=Tryz.prog) w 32 5 #[.int .u8 110,.int .u8 111,.int .u8 100,.int .u8 101] 4 4 Tryz.underlying32 Tryz.underlying5
 have hrw:Row (w.alloc (.cells #[.int .u8 110,.int .u8 111,.int .u8 100,.int .u8 101] 5 (4,5))) (some ⟨w.heap.size,0,none⟩) 4 ndW:=row_word w ndW (4,5) ndW_byte
 have hb0:Below w.heap.size w (w.alloc (.cells #[.int .u8 110,.int .u8 111,.int .u8 100,.int .u8 101] 5 (4,5))):=(Below.refl _ _).alloc (Nat.le_refl _) _
 go_enter Tryz.func169,Tryz.ntmps169
 go_wp2_with fail
 clear hcv
 obtain ⟨w0,hw0⟩:∃ w0,w0=w.alloc (.cells #[.int .u8 110,.int .u8 111,.int .u8 100,.int .u8 101] 5 (4,5)):=⟨_,rfl⟩
 rw [← hw0] at hrw hb0 ⊢
 clear hw0
 refine (l1Eight_any x _ hx.1 hx.2).mono ?_
 rintro e w1 ⟨a1,c1,rfl,ho1,hb1⟩
 go_wp2_with fail
 refine (l1Eight_any y _ hy.1 hy.2).mono ?_
 rintro e w2 ⟨a2,c2,rfl,ho2,hb2⟩
 have B2:Below w0.heap.size w0 w2:=keepT hb1 hb2
 have B2':Below w.heap.size w w2:=keepT hb0 B2
 have HRS:Hid (Rows2 (w2.alloc (.cells #[.slice (some ⟨w.heap.size,0,none⟩) 4 4,.slice a1 8 c1,.slice a2 8 c2] 32)) (some ⟨w2.heap.size,0,none⟩) 3 [ndW,eightI x,eightI y]):=by
  refine rows2_lit w2 [(some ⟨w.heap.size,0,none⟩,4,4,ndW),(a1,8,c1,eightI x),(a2,8,c2,eightI y)] 32 ?_
  intro p hp
  simp only [List.mem_cons,List.not_mem_nil,or_false] at hp
  rcases hp with rfl | rfl | rfl
  ·exact ⟨hrw.kept B2,fun h=>by cases h⟩
  ·exact ⟨(ho1.kept hb2).toRow,ho1.nil⟩
  ·exact ⟨ho2.toRow,ho2.nil⟩
 have B3:Below w.heap.size w (w2.alloc (.cells #[.slice (some ⟨w.heap.size,0,none⟩) 4 4,.slice a1 8 c1,.slice a2 8 c2] 32)):=B2'.alloc B2'.size _
 clear ho1 ho2 hrw
 go_wp2_with fail
 refine (specHashAll_any _ 3 3 [ndW,eightI x,eightI y] _ HRS.out (by decide) HT.out).mono ?_
 rintro e w3 ⟨rfl,hb3⟩
 go_wp2
 go_ret
 exact ⟨rfl,keepT B3 hb3⟩
def stepN (v:Int):Int:=hashL (eightI v)
def stepsN (v:Int):Nat→Int
 | 0=>v
 | k+1=>stepN (stepsN v k)
theorem stepsN_bd (v:Int)(hv:U64 v)(k:Nat):U64 (stepsN v k):=by
 cases k with
 | zero=>exact hv
 | succ k=>exact (hashL_bd (eightI (stepsN v k)):U64 (hashL (eightI (stepsN v k))))
theorem stepped_any (v:Int)(n:Nat)(w:World)(hv:U64 v)(hn:n≤1000) :
  Calls Tryz.prog 286 #[.int .u64 v,.int .i64 n] w fun e w'=>e=.returned (.int .u64 (stepsN v n))∧Below w.heap.size w w':=by
 have HV:Hid (U64 v):=hv
 clear hv
 go_enter Tryz.func286,Tryz.ntmps286
 go_wp2
 go_loopw [0,6] (fun d i wr=>∃ (k:Nat) (x:Int),k≤n∧i=.int .i64 k∧d=.int .u64 x∧Hid (x=stepsN v k)∧Below w.heap.size w wr) (fun _ i _=>n - (intOf i).toNat)
 case atStart=>exact ⟨0,v,Nat.zero_le _,rfl,rfl,rfl,Below.refl _ _⟩
 case round =>
  obtain ⟨k,x,hk,rfl,rfl,HX,hbr⟩:=hrel
  by_cases hlt:k<n
  ·have hx:U64 x:=by rw [HX.out]; exact stepsN_bd v HV.out k
   have HN:Hid (hashL (eightI x)=stepsN v (k+1)):=by show _=_; rw [stepsN,← HX.out]; rfl
   have hlti:(k:Int)<(n:Int):=by omega
   clear HX
   go_wp2_with fail
   refine (digestBytes_any x _ hx.1 hx.2).mono ?_
   rintro e w2 ⟨g,rfl,hrow,_,hb2⟩
   go_wp2_with fail
   refine (implHash_any _ 8 _ (eightI x) _ hrow (by decide)).mono ?_
   rintro e w3 ⟨rfl,hb3⟩
   rw [HN.out]
   go_wp2
   go_roundw
   case rel=>exact ⟨k+1,_,by omega,by go_num,rfl,rfl,keepT (keepT hbr hb2) hb3⟩
   case measure=>simp [intOf]; omega
  ·obtain rfl:k=n:=by omega
   go_wp2
   go_ret
   exact ⟨by rw [HX.out]; rfl,hbr⟩
theorem l8Steps_any (v:Int)(n:Nat)(w:World)(hv:U64 v)(hn:n≤1000) :
  Calls Tryz.prog 167 #[.int .u64 v,.int .i64 n] w fun e w'=>e=.returned (.int .u64 (stepsN v n))∧Below w.heap.size w w':=by
 have HV:Hid (U64 v):=hv
 clear hv
 go_enter Tryz.func167,Tryz.ntmps167
 go_wp2
 go_loopw [0,5] (fun d i wr=>∃ (k:Nat) (x:Int),k≤n∧i=.int .i64 k∧d=.int .u64 x∧Hid (x=stepsN v k)∧Below w.heap.size w wr) (fun _ i _=>n - (intOf i).toNat)
 case atStart=>exact ⟨0,v,Nat.zero_le _,rfl,rfl,rfl,Below.refl _ _⟩
 case round =>
  obtain ⟨k,x,hk,rfl,rfl,HX,hbr⟩:=hrel
  by_cases hlt:k<n
  ·have hx:U64 x:=by rw [HX.out]; exact stepsN_bd v HV.out k
   have HN:Hid (hashL (eightI x)=stepsN v (k+1)):=by show _=_; rw [stepsN,← HX.out]; rfl
   have hlti:(k:Int)<(n:Int):=by omega
   clear HX
   go_wp2_with fail
   refine (l1Eight_any x _ hx.1 hx.2).mono ?_
   rintro e w2 ⟨ag,cg,rfl,hown,hb2⟩
   go_wp2_with fail
   refine (specHash_any _ 8 _ (eightI x) _ hown.toRow (by decide)).mono ?_
   rintro e w3 ⟨rfl,rfl⟩
   rw [HN.out]
   go_wp2
   go_roundw
   case rel=>exact ⟨k+1,_,by omega,by go_num,rfl,rfl,keepT hbr hb2⟩
   case measure=>simp [intOf]; omega
  ·obtain rfl:k=n:=by omega
   go_wp2
   go_ret
   exact ⟨by rw [HX.out]; rfl,hbr⟩
open Go.RowKit
theorem step_append_ownT {P:Program}{ops:Array Oper}{o:Oper}{a:Act}{w:World}{K:Act→World→Prop}{Q:Exit→Act→World→Prop}{E:Prop}
  (hg:o.guard=none) (s x:Operand) (t:TypeId) (hop:o.op=Op.call { callee:=Callee.builtin Builtin.append,args:=#[s,x],argTypes:=#[t,t] })
  (base:Nat) (e:TypeId) (i:TypeInfo) (z:Value) (size bytes:Nat) (h1:P.underlying t=some (.slice e)) (h2:P.info? e=some i) (h3:i.zero=some z) (h4:i.size=size) (h5:i.bytes=bytes) (h6:z.cells.size=size) (h7:0<size)
  (v:Value) (n:Nat) (xs:List Value) (hs:a.eval s=v) (hown:w.ownsRow base e size v n xs)
  (ad:Addr) (m c:Nat) (news:List Value) (hx:a.eval x=.slice (some ad) m c) (hn:news.length=m * size) (hc:∀ j u,news[j]? = some u→w.cell? (ad.add j)=some u) (h1c:∀ u∈news,u.oneCell'=true)
  (b1:n+m≤maxLen) (b2:(n+m) * bytes≤140737488355328) (b3:base≤w.heap.size)
  (hK:∀ v' w',w'.ownsRow base e size v' (n+m) (xs++news)→w.grownBy w' v.ownBlock→K (a.put o.dst v') w') :
  if Region.wanted o (yielded ops a.tmps)=true then Oper.wp P o a w K Q else E:=by
 have hw:Region.wanted o (yielded ops a.tmps)=true:=by simp [Region.wanted,hg]
 rw [if_pos hw]
 obtain ⟨v',w',hrun,r1,r2,_⟩:=run_append_own (P:=P) w base t o.type e i z size bytes h1 h2 h3 h4 h5 h6 h7 v n xs hown ad m c news hn hc h1c b1 b2 b3
 unfold Oper.wp
 simp [execOp,hop,resolve,invoke,builtin,hs,hx,hrun,Result.andThen]
 exact hK v' w' r1 r2
theorem Tryz.infoU:(Tryz.prog.info? 25).map (fun i=>(i.zero,i.size,i.bytes))=some (some (.int .u64 0),1,8):=by kernel_rfl
theorem cell_oneU (w:World)(x:Int):∀ jj uu,([x].map (Value.int .u64))[jj]? = some uu→(w.alloc (.cells #[.int .u64 x] 25)).cell? ((⟨w.heap.size,0,none⟩:Addr).add jj)=some uu:=by
 intro jj uu hju
 rw [Addr.add_lit,Nat.zero_add,cell_of_row _ w.heap.size jj _ 25 _ (heap_alloc_new w _),← hju]
 simp
theorem madeU {B n:Nat}{w:World}{v:Value}(h:w.ownsRow B 25 1 v n (madeCells (Value.int .u64 0).cells (n * 1)).toList):w.ownsRow B 25 1 v n ((List.replicate n (0:Int)).map (Value.int .u64)):=by
 have e:(madeCells (Value.int .u64 0).cells (n * 1)).toList=(List.replicate n (0:Int)).map (Value.int .u64):=by
  rw [List.map_replicate,Nat.mul_one]; exact toList_madeCells_one _ _
 rwa [e] at h
theorem u64_take {zs:List Int}(h:∀ k,U64 (zs.getD k 0))(j:Nat):∀ k,U64 ((zs.take j).getD k 0):=by
 intro k
 have:=h k
 rw [List.getD_eq_getElem?_getD,List.getElem?_take]
 split
 ·simpa [List.getD_eq_getElem?_getD] using this
 ·simp [U64]
open Go.RowKit
theorem rowU_lit2 (w:World)(x y:Int)(hx:U64 x)(hy:U64 y):RowU (w.alloc (.cells #[.int .u64 x,.int .u64 y] 25)) (some ⟨w.heap.size,0,none⟩) 2 [x,y]:=by
 refine ⟨rfl,fun k hk=>⟨w.heap.size,0,rfl,by simp,?_⟩,fun k=>?_⟩
 ·rw [Nat.zero_add,cell_of_row _ w.heap.size k _ 25 _ (heap_alloc_new w _)]
  match k,hk with
  | 0,_=>rfl
  | 1,_=>rfl
 ·match k with
  | 0=>exact hx
  | 1=>exact hy
  | k+2=>simp [U64]
end Go.Proofs.YtmdfbnlgfhjnoaaGreatDoor
