/-
  Texts in one: RpT, ClM, ClT, ClK.
-/
import Derived.Test.YtjkfappkpopbdaaGreatSackL
set_option maxRecDepth 100000
set_option maxHeartbeats 16000000
set_option linter.unusedVariables false
set_option linter.unusedSimpArgs false
namespace Go.Proofs.YtjkfappkpopbdaaGreat
section
open Go.RowKit
theorem toReply_any (code app:Int) (xo:Option Addr) (xl xc:Nat) (yo:Option Addr) (yl yc:Nat) (cs:List Con) (kill:List Int) (w:World) (h:ConRow w xo xl cs) (h':NRow w yo yl kill) (hl:xl≤1048576) (hl':yl≤1048576) :
  Calls Tryz.prog 44 #[rplv code app xo xl xc yo yl yc] w fun e w'=>∃g1 g2,e=.returned (rplv code app (some ⟨g1,0,none⟩) xl xl (some ⟨g2,0,none⟩) yl yl)∧w.heap.size<g1∧w.heap.size<g2∧ConBlk w' 150 g1 xl xl cs∧IBlk w' 3 g2 yl yl kill∧Below w.heap.size w w':=by
 have HR:=hide h
 have HR':=hide h'
 clear h h'
 have HB0:=hide (yA (yA (yA (yH _ w) (.cells #[.int .i64 code,.int .i64 app,.slice xo xl xc,.slice yo yl yc] 74)) (.cells #[.int .i64 0,.int .i64 0,.slice none 0 0,.slice none 0 0] 91)) (.cells #[.int .i64 code,.int .i64 app,.slice none 0 0,.slice none 0 0] 91))
 have P0:=hide (((yD w #[.int .i64 code,.int .i64 app,.slice xo xl xc,.slice yo yl yc] 74).al (.cells #[.int .i64 0,.int .i64 0,.slice none 0 0,.slice none 0 0] 91)).al (.cells #[.int .i64 code,.int .i64 app,.slice none 0 0,.slice none 0 0] 91))
 have R0:=hide ((yD (w.alloc (.cells #[.int .i64 code,.int .i64 app,.slice xo xl xc,.slice yo yl yc] 74)) #[.int .i64 0,.int .i64 0,.slice none 0 0,.slice none 0 0] 91).al (.cells #[.int .i64 code,.int .i64 app,.slice none 0 0,.slice none 0 0] 91))
 have O0:=hide (yD ((w.alloc (.cells #[.int .i64 code,.int .i64 app,.slice xo xl xc,.slice yo yl yc] 74)).alloc (.cells #[.int .i64 0,.int .i64 0,.slice none 0 0,.slice none 0 0] 91)) #[.int .i64 code,.int .i64 app,.slice none 0 0,.slice none 0 0] 91)
 go_enter Tryz.func44,Tryz.ntmps44
 go_wp2_with fail
 refine (toContS_any xo xl xc cs _ ((uH HR).below (uH HB0)) hl).mono ?_
 rintro e w1 ⟨rfl,hq,hb⟩
 have P1:=hide ((uH P0).below hb)
 have r1:=(uH R0).below hb
 have o1:=(uH O0).below hb
 simp only [yE] at r1 o1 hq
 have R1:=hide r1
 have O1:=hide o1
 have HB1:=hide (yB (uH HB0) hb)
 have C1:=hide hq
 have z1:=hq.lt
 clear hb P0 R0 O0 HB0 HR hq r1 o1
 have p3:=(uH P1).at 3
 have o2:=(uH O1).at 2
 have of2:=(uH O1).f 2
 simp at p3 o2
 go_wp2_with fail
 refine (toIntS_any yo yl yc kill _ ((uH HR').below (yC (uH HB1) _ _ _ (by omega))) hl').mono ?_
 rintro e w2 ⟨rfl,hq,hb⟩
 simp only [set_size] at hq
 have HB2:=hide (yB (yC (uH HB1) _ _ _ (show w.heap.size≤w.heap.size+1+1 by omega)) hb)
 have R2:=hide (((uH R1).other _ _ _ (show w.heap.size+1≠w.heap.size+1+1 by omega)).below hb)
 have O2:=hide (show Blk w2 (w.heap.size+1+1) #[.int .i64 code,.int .i64 app,.slice (some ⟨w.heap.size+1+1+1,0,none⟩) xl xl,.slice none 0 0] 91 from ((uH O1).set 2 _).below hb)
 have C2:=hide (((uH C1).other _ _ _ (show w.heap.size+1+1+1≠w.heap.size+1+1 by omega)).below hb)
 obtain ⟨g2,hg2⟩:∃g,w1.heap.size=g:=⟨_,rfl⟩
 simp only [set_size]
 rw [hg2] at hq z1 ⊢
 have I2:=hide hq
 have z2:=hq.lt
 clear hb P1 R1 O1 HB1 HR' C1 hq p3 o2 of2 hg2
 have o3:=(uH O2).at 3
 have of3:=(uH O2).f 3
 simp at o3
 go_upto_region 6 with fail
 have HB3:=hide (yC (uH HB2) (w.heap.size+1+1) 3 (.slice (some ⟨g2,0,none⟩) yl yl) (by omega))
 have R3:=hide ((uH R2).other (w.heap.size+1+1) 3 (.slice (some ⟨g2,0,none⟩) yl yl) (by omega))
 have O3:=hide (show Blk (w2.setCell ⟨w.heap.size+1+1,3,none⟩ (.slice (some ⟨g2,0,none⟩) yl yl)) (w.heap.size+1+1) #[.int .i64 code,.int .i64 app,.slice (some ⟨w.heap.size+1+1+1,0,none⟩) xl xl,.slice (some ⟨g2,0,none⟩) yl yl] 91 from (uH O2).set 3 _)
 have C3:=hide ((uH C2).other (w.heap.size+1+1) 3 (.slice (some ⟨g2,0,none⟩) yl yl) (by omega))
 have I3:=hide (iblk_other (uH I2) (w.heap.size+1+1) 3 (.slice (some ⟨g2,0,none⟩) yl yl) (by omega))
 generalize w2.setCell ⟨w.heap.size+1+1,3,none⟩ (.slice (some ⟨g2,0,none⟩) yl yl)=w3 at HB3 R3 O3 C3 I3 ⊢
 clear o3 of3 HB2 R2 O2 C2 I2
 refine wp_region_lit ?_
 refine wpList_same (v:=.agg #[.int .i64 code,.int .i64 app,.slice (some ⟨w.heap.size+1+1+1,0,none⟩) xl xl,.slice (some ⟨g2,0,none⟩) yl yl]) (d:=some 18) rfl rfl (run_v (ns_load 91 (uH O3) Tryz.underlying91 rfl (by kernel_rfl))) ?_
 simp only [zW]
 refine wpList_none (d:=none) rfl rfl (run_u (ns_store 91 (uH R3) (by kernel_rfl) rfl (by kernel_rfl))) ?_
 simp only [Act.put]
 have M:=ns_mks (uH R3) #[.int .i64 code,.int .i64 app,.slice (some ⟨w.heap.size+1+1+1,0,none⟩) xl xl,.slice (some ⟨g2,0,none⟩) yl yl] rfl
 have R4:=hide (ns_blk (uH R3) #[.int .i64 code,.int .i64 app,.slice (some ⟨w.heap.size+1+1+1,0,none⟩) xl xl,.slice (some ⟨g2,0,none⟩) yl yl])
 have HB4:=hide ((uH HB3).trans (M.below (fun k e=>by subst e;omega) (uH HB3).size))
 have C4:=hide (conblk_mks (uH C3) M (by omega))
 have I4:=hide ((uH I3).mks M (by omega))
 clear M HB3 R3 O3 C3 I3
 generalize World.setRow w3 (w.heap.size+1) #[.int .i64 code,.int .i64 app,.slice (some ⟨w.heap.size+1+1+1,0,none⟩) xl xl,.slice (some ⟨g2,0,none⟩) yl yl]=w4 at R4 HB4 C4 I4 ⊢
 have r0:=(uH R4).at 0;have r1:=(uH R4).at 1;have r2:=(uH R4).at 2;have r3:=(uH R4).at 3
 simp at r0 r1 r2 r3
 clear R4
 go_wp2
 exact bodyPost_ret (v:=rplv code app (some ⟨w.heap.size+1+1+1,0,none⟩) xl xl (some ⟨g2,0,none⟩) yl yl) (by simp [results,Tryz.results44,go_sem,r0,r1,r2,r3]) rfl ⟨_,_,rfl,by omega,by omega,uH C4,uH I4,uH HB4⟩
theorem rplInfo:(Tryz.prog.info? 91).map (fun i=>(i.zero,i.size,i.bytes))=some (some (rplv 0 0 none 0 0 none 0 0),4,64):=by kernel_rfl
theorem make_rpls (n:Nat) (hn:n≤1048576) (w:World) :
  (Instr.makeSlice 38 (.int .i64 (n:Int)) (.int .i64 (n:Int))).run Tryz.prog w=.ok (.slice (some ⟨w.heap.size,0,none⟩) n n) (w.alloc (.cells (madeCells (rplv 0 0 none 0 0 none 0 0).cells (n*4)) 91)):=by
 obtain ⟨i,hi,hz⟩:=Option.map_eq_some_iff.1 rplInfo
 simp only [Prod.mk.injEq] at hz
 obtain ⟨hz,hs,hb⟩:=hz
 have hr:=run_make (P:=Tryz.prog) w 38 91 i _ Tryz.underlying38 hi hz .i64 .i64 n n (by omega) (Int.le_refl _) (by rw [hb];omega) (by omega)
 simp only [Int.toNat_natCast,hs] at hr
 exact hr
theorem toReplyS_any (ao:Option Addr) (len cap:Nat) (l:List Rpl) (w:World) (h:RplRow w ao len l) (hl:len≤1048576) (hk:∀q ∈ l,q.cs.length≤1048576∧q.kill.length≤1048576) :
  Calls Tryz.prog 17 #[.slice ao len cap] w fun e w'=>e=.returned (.slice (some ⟨w.heap.size,0,none⟩) len len)∧RplBlk w' 91 w.heap.size len len l∧Below w.heap.size w w':=by
 have HR:=hide h
 have HL:=hide h.1
 have HK:=hide hk
 have hmk:=make_rpls len hl w
 obtain ⟨zs,hzs⟩:∃z,z=(rplv 0 0 none 0 0 none 0 0).cells:=⟨_,rfl⟩
 rw [←hzs] at hmk
 clear h hzs hk
 go_enter Tryz.func17,Tryz.ntmps17
 go_wp2
 clear hmk
 go_loopw [4] (fun i wr=>∃k:Nat,k≤len∧i=.int .i64 k∧Hid (RplBlk wr 91 w.heap.size len k l)∧Hid (Below w.heap.size w wr)) (fun i _=>len - (intOf i).toNat)
 case atStart=>exact ⟨0,Nat.zero_le _,rfl,hide (rplblk_made w _ _ _ _),hide (yA (yH _ _) _)⟩
 case round=>
  obtain ⟨k,hk,rfl,HQ,HB⟩:=hrel
  by_cases hlt:k<len
  ·obtain ⟨b,off,rfl,hq⟩:=((uH HR).below (uH HB)).at hlt
   have hkl:k<l.length:=by have:=uH HL;omega
   have hkn:=uH HK l[k] (yM _)
   obtain ⟨xo,xl,xc,yo,yl,yc,c0,c1,c2,c3,hrow,hrow2⟩:=hq hkl
   have hst:=fun wx (hx:RplBlk wx 91 w.heap.size len k l) xo xl xc yo yl yc (h0:CsOwn wx w.heap.size xo xl xc l[k].cs) (h1:KlOwn wx w.heap.size yo yl yc l[k].kill)=>hx.step hlt hkl xo xl xc yo yl yc h0 h1
   obtain ⟨q,hs⟩:∃q,l[k]=q:=⟨_,rfl⟩
   rw [hs] at c0 c1 hst hrow hrow2 hkn
   obtain ⟨code,app,cs,kill⟩:=q
   simp only at c0 c1 hst hrow hrow2 hkn
   have HXL:=hide hrow.1
   have HYL:=hide hrow2.1
   have hxl:xl≤1048576:=by have:=hrow.1;omega
   have hyl:yl≤1048576:=by have:=hrow2.1;omega
   have HST:=hide hst
   have HROW:=hide hrow
   have HROW2:=hide hrow2
   have hsz:=(uH HQ).lt
   clear hst hq hs hkl hrow hrow2 hkn
   go_wp2_with fail
   refine (toReply_any code app xo xl xc yo yl yc cs kill _ (uH HROW) (uH HROW2) hxl hyl).mono ?_
   rintro e w1 ⟨g1,g2,rfl,hg1,hg2,hab,hib,hb⟩
   have HQ1:=hide ((uH HQ).below hb)
   have HB1:=hide (yB (uH HB) hb)
   have HO:=hide (show CsOwn w1 w.heap.size (some ⟨g1,0,none⟩) xl xl cs from ⟨hab.row (uH HXL),rfl,g1,rfl,by omega,conblk_any hab⟩)
   have HO2:=hide (show KlOwn w1 w.heap.size (some ⟨g2,0,none⟩) yl yl kill from ⟨hib.row (uH HYL),rfl,g2,rfl,by omega,iblk_any hib⟩)
   clear hb c0 c1 c2 c3 hab hib
   obtain ⟨v0,d0⟩:=(uH HQ1).cell (j:=k*4) (by omega)
   obtain ⟨v1,d1⟩:=(uH HQ1).cell (j:=k*4+1) (by omega)
   obtain ⟨v2,d2⟩:=(uH HQ1).cell (j:=k*4+2) (by omega)
   obtain ⟨v3,d3⟩:=(uH HQ1).cell (j:=k*4+3) (by omega)
   have f0:=(uH HQ1).frozen (k*4)
   have f1:=(uH HQ1).frozen (k*4+1)
   have f2:=(uH HQ1).frozen (k*4+2)
   have f3:=(uH HQ1).frozen (k*4+3)
   go_wp2
   go_roundw
   case rel=>exact ⟨k+1,by omega,by go_num,hide (uH HST _ (uH HQ1) _ _ _ _ _ _ (uH HO) (uH HO2)),hide (yC (yC (yC (yC (uH HB1) _ _ _ (by omega)) _ _ _ (by omega)) _ _ _ (by omega)) _ _ _ (by omega))⟩
   case measure=>simp [intOf];omega
  ·have hkk:k=len:=by omega
   subst hkk
   go_wp2
   go_ret
   exact ⟨rfl,uH HQ,uH HB⟩
theorem blk_part {g t:Nat}:∀(vs:List Value) (i:Nat) (w:World) (arr:Array Value),Blk w g arr t→i+vs.length≤arr.size→Blk (setsW w g i vs) g (arr.toList.take i++vs++arr.toList.drop (i+vs.length)).toArray t
 | [],i,w,arr,h,hn=>by
  have e:(arr.toList.take i++[]++arr.toList.drop (i+([]:List Value).length)).toArray=arr:=by simp
  rw [e];exact h
 | v::vs,i,w,arr,h,hn=>by
  have h1:=h.set i v
  have h2:=blk_part vs (i+1) _ _ h1 (by simp at hn ⊢;omega)
  have hi:i<arr.toList.length:=by simp at hn ⊢;omega
  have e:((arr.setIfInBounds i v).toList.take (i+1)++vs++(arr.setIfInBounds i v).toList.drop (i+1+vs.length))=arr.toList.take i++v::vs++arr.toList.drop (i+(v::vs).length):=by
   rw [Array.toList_setIfInBounds,List.take_succ_eq_append_getElem (by simpa using hi),List.take_set_of_le (yJ _),List.drop_set_of_lt (by omega)]
   simp [Nat.add_assoc,Nat.add_comm 1]
  rw [e] at h2
  exact h2
def Hi (b:Nat) (w w':World):Prop:=w.heap.size≤w'.heap.size∧∀k,b<k→k<w.heap.size→w'.heap[k]? = w.heap[k]?
theorem hi_sets (w:World) (b i:Nat) (vs:List Value):Hi b w (setsW w b i vs):=by
 refine sets_keep (P:=fun wx=>Hi b w wx) (fun wx j v hx=>⟨by rw [set_size];exact hx.1,fun k h1 h2=>?_⟩) vs i w ⟨yJ _,fun _ _ _=>rfl⟩
 rw [heap_setCell_other wx ⟨b,j,none⟩ k v (by show k≠b;omega)]
 exact hx.2 k h1 h2
theorem hi_row (w:World) (b:Nat) (arr:Array Value):Hi b w (w.setRow b arr):=⟨by rw [setRow_size];exact yJ _,fun k h1 _=>setRow_other w b k arr (by omega)⟩
theorem hi_cell {b:Nat} {w w':World} (h:Hi b w w') {k j:Nat} (hk:b<k) {v:Value} (hc:w.cell? ⟨k,j,none⟩=some v):w'.cell? ⟨k,j,none⟩=some v:=(World.cell?_of_block (w:=w) (h.2 k hk (yG hc))).trans hc
theorem Cel.hi {b:Nat} {w w':World} (h:Hi b w w') {t:TypeId} {g N:Nat} (hg:b<g) (hc:Cel w t g N):Cel w' t g N:=let ⟨arr,h1,h2⟩:=hc;⟨arr,(h.2 g hg (lt_of_block h1)).trans h1,h2⟩
theorem ConRow.hi {b:Nat} {w w':World} (h:Hi b w w') {ao:Option Addr} {len:Nat} {l:List Con} (hr:ConRow w ao len l) (hg:∀c o,ao=some ⟨c,o,none⟩→b<c):ConRow w' ao len l:=by
 obtain ⟨h1,h2⟩:=hr
 refine ⟨h1,?_⟩
 rcases h2 with h2 | ⟨c,off,h3,h4⟩
 ·exact .inl h2
 ·have hc:=hg c off h3
  exact .inr ⟨c,off,h3,fun i hi=>let ⟨a,b,c,d,e⟩:=h4 i hi;⟨hi_cell h hc a,hi_cell h hc b,hi_cell h hc c,hi_cell h hc d,hi_cell h hc e⟩⟩
theorem NRow.hi {b:Nat} {w w':World} (h:Hi b w w') {ao:Option Addr} {len:Nat} {l:List Int} (hr:NRow w ao len l) (hg:∀c o,ao=some ⟨c,o,none⟩→b<c):NRow w' ao len l:=by
 obtain ⟨h1,h2⟩:=hr
 refine ⟨h1,?_⟩
 rcases h2 with h2 | ⟨c,off,h3,h4⟩
 ·exact .inl h2
 ·exact .inr ⟨c,off,h3,fun i hi=>hi_cell h (hg c off h3) (h4 i hi)⟩
theorem AskRow.hi {b:Nat} {w w':World} (h:Hi b w w') {ao:Option Addr} {len:Nat} {l:List Ask} (hr:AskRow w ao len l) (hg:∀c o,ao=some ⟨c,o,none⟩→b<c):AskRow w' ao len l:=by
 obtain ⟨h1,h2⟩:=hr
 refine ⟨h1,?_⟩
 rcases h2 with h2 | ⟨c,off,h3,h4⟩
 ·exact .inl h2
 ·have hc:=hg c off h3
  exact .inr ⟨c,off,h3,fun i hi=>let ⟨a,b,c,d,e⟩:=h4 i hi;⟨hi_cell h hc a,hi_cell h hc b,hi_cell h hc c,hi_cell h hc d,hi_cell h hc e⟩⟩
theorem blk0_hi {b:Nat} {w w':World} (h:Hi b w w') {t:TypeId} {g n:Nat} (hg:b<g) (hc:ConBlk w t g n 0 []):ConBlk w' t g n 0 []:=let ⟨arr,h1,h2⟩:=hc;⟨arr,(h.2 g hg (lt_of_block h1)).trans h1,h2⟩
theorem iblk0_hi {b:Nat} {w w':World} (h:Hi b w w') {t:TypeId} {g n:Nat} (hg:b<g) (hc:IBlk w t g n 0 []):IBlk w' t g n 0 []:=let ⟨arr,h1,h2⟩:=hc;⟨arr,(h.2 g hg (lt_of_block h1)).trans h1,h2⟩
theorem CsOwn.hi {b g:Nat} {w w':World} (h:Hi b w w') {ao:Option Addr} {len cap:Nat} {l:List Con} (hg:b<g) (ho:CsOwn w g ao len cap l):CsOwn w' g ao len cap l:=by
 obtain ⟨h1,h2,c,rfl,h3,h4⟩:=ho
 exact ⟨h1.hi h (fun c' o e=>by cases e;omega),h2,c,rfl,h3,blk0_hi h (by omega) h4⟩
theorem KlOwn.hi {b g:Nat} {w w':World} (h:Hi b w w') {ao:Option Addr} {len cap:Nat} {l:List Int} (hg:b<g) (ho:KlOwn w g ao len cap l):KlOwn w' g ao len cap l:=by
 obtain ⟨h1,h2,c,rfl,h3,h4⟩:=ho
 exact ⟨h1.hi h (fun c' o e=>by cases e;omega),h2,c,rfl,h3,iblk0_hi h (by omega) h4⟩
theorem RplBlk.hi {b:Nat} {w w':World} (hh:Hi b w w') {t:TypeId} {g n k:Nat} {l:List Rpl} (hb:b<g) (h:RplBlk w t g n k l):RplBlk w' t g n k l:=by
 obtain ⟨arr,h1,h2,h3⟩:=h
 exact ⟨arr,(hh.2 g hb (lt_of_block h1)).trans h1,h2,fun i hi hk=>let ⟨s0,s1,xo,xl,xc,yo,yl,yc,t0,t1,o0,o1⟩:=h3 i hi hk;⟨s0,s1,xo,xl,xc,yo,yl,yc,t0,t1,o0.hi hh hb,o1.hi hh hb⟩⟩
theorem AgtBlk.hi {b:Nat} {w w':World} (hh:Hi b w w') {t:TypeId} {g n k:Nat} {l:List Agt} (hb:b<g) (h:AgtBlk w t g n k l):AgtBlk w' t g n k l:=by
 obtain ⟨arr,h1,h2,h3⟩:=h
 exact ⟨arr,(hh.2 g hb (lt_of_block h1)).trans h1,h2,fun i hi hk=>let ⟨s0,s1,s2,xo,xl,xc,t0,o0⟩:=h3 i hi hk;⟨s0,s1,s2,xo,xl,xc,t0,o0.hi hh hb⟩⟩
theorem askblk0_hi {b:Nat} {w w':World} (h:Hi b w w') {t:TypeId} {g n:Nat} (hg:b<g) (hc:AskBlk w t g n 0 []):AskBlk w' t g n 0 []:=let ⟨arr,h1,h2⟩:=hc;⟨arr,(h.2 g hg (lt_of_block h1)).trans h1,h2⟩
theorem AskOwn.hi {b g:Nat} {w w':World} (h:Hi b w w') {ao:Option Addr} {len cap:Nat} {l:List Ask} (hg:b<g) (ho:AskOwn w g ao len cap l):AskOwn w' g ao len cap l:=
 ⟨ho.1.hi h (fun c o e=>by have:=ho.2.2.1 c o e;omega),ho.2.1,ho.2.2.1,let ⟨c,e,d,f⟩:=ho.2.2.2;⟨c,e,d,askblk0_hi h (by have:=ho.2.2.1 c 0 e;omega) f⟩⟩
theorem SOwn4.hi {b:Nat} {w w':World} (hh:Hi b w w') {g1 g2 g3 g4 ql al ml cl:Nat} {s:St} (hb:b<g1∧b<g2∧b<g3∧b<g4) (h:SOwn4 w g1 g2 g3 g4 ql al ml cl s):SOwn4 w' g1 g2 g3 g4 ql al ml cl s:=by
 obtain ⟨⟨q1,q2,q3⟩,⟨a1,a2,a3,a4⟩,⟨m1,m2,m3⟩,⟨c1,c2,c3⟩⟩:=h
 exact ⟨⟨q1,(hh.2 _ hb.1 (lt_of_block q2)).trans q2,q3⟩,⟨a1,(hh.2 _ hb.2.1 (lt_of_block a2)).trans a2,a3,fun i hi hk=>let ⟨x,y,ao,len,cap,e,o⟩:=a4 i hi hk;⟨x,y,ao,len,cap,e,o.hi hh hb.2.1⟩⟩,⟨m1,(hh.2 _ hb.2.2.1 (lt_of_block m2)).trans m2,m3⟩,⟨c1,(hh.2 _ hb.2.2.2 (lt_of_block c2)).trans c2,c3⟩⟩
theorem AWh.hi {b:Nat} {w w':World} (hh:Hi b w w') {B E g n:Nat} (hb:b<g∧b<B) (h:AWh w B E g n):AWh w' B E g n:=
 ⟨h.1.hi hh hb.1,fun i hi=>let ⟨c,len,a,k,d⟩:=h.2 i hi;⟨c,len,hi_cell hh hb.1 a,k.hi hh (by omega),d⟩⟩
theorem RWh.hi {b:Nat} {w w':World} (hh:Hi b w w') {B E g n:Nat} (hb:b<g∧b<B) (h:RWh w B E g n):RWh w' B E g n:=
 ⟨h.1.hi hh hb.1,fun i hi=>let ⟨c,xl,d,yl,a1,a2,k1,k2,e⟩:=h.2 i hi;⟨c,xl,d,yl,hi_cell hh hb.1 a1,hi_cell hh hb.1 a2,k1.hi hh (by omega),k2.hi hh (by omega),e⟩⟩
def MMd (w:World) (B E:Nat) (y:Mgs) (m:Mgr):Prop:=∃M g1 g2 g3 g4 gw,y.x=own4 g1 g2 g3 g4 y.x.ql y.x.al y.x.ml y.x.cl∧y.wo=some ⟨gw,0,none⟩∧y.wc=y.wl∧SLen y.x m.s∧y.wl=m.wait.length∧SOwn4 w g1 g2 g3 g4 y.x.ql y.x.al y.x.ml y.x.cl m.s∧AWh w B M g2 y.x.al∧(B≤g1∧g1<g2∧g2<g3∧g3<g4∧g4<M)∧RplBlk w 91 gw y.wl y.wl m.wait∧RWh w M E gw y.wl∧M≤gw∧gw<E
theorem MMd.hi {b:Nat} {w w':World} (hh:Hi b w w') {B E:Nat} {y:Mgs} {m:Mgr} (hb:b<B) (h:MMd w B E y m):MMd w' B E y m:=by
 obtain ⟨M,g1,g2,g3,g4,gw,e1,e2,e3,e4,e5,h1,h2,h3,h4,h5,h6,h7⟩:=h
 exact ⟨M,g1,g2,g3,g4,gw,e1,e2,e3,e4,e5,h1.hi hh ⟨by omega,by omega,by omega,by omega⟩,h2.hi hh ⟨by omega,by omega⟩,h3,h4.hi hh (by omega),h5.hi hh ⟨by omega,by omega⟩,h6,h7⟩
theorem MMd.below {w w':World} {B E:Nat} {y:Mgs} {m:Mgr} (h:MMd w B E y m) (hb:Below w.heap.size w w'):MMd w' B E y m:=by
 obtain ⟨M,g1,g2,g3,g4,gw,e1,e2,e3,e4,e5,h1,h2,h3,h4,h5,h6,h7⟩:=h
 exact ⟨M,g1,g2,g3,g4,gw,e1,e2,e3,e4,e5,h1.below hb,h2.below hb,h3,h4.below hb,h5.below hb,h6,h7⟩
theorem MMd.row {w:World} {B E:Nat} {y:Mgs} {m:Mgr} (h:MMd w B E y m):MRow w y m:=by
 obtain ⟨M,g1,g2,g3,g4,gw,e1,e2,e3,e4,e5,h1,h2,h3,h4,h5,h6,h7⟩:=h
 refine ⟨by rw [e1];exact h1.row e4,?_⟩
 rw [e2]
 exact h4.row e5
theorem MMd.base {w:World} {B B' E:Nat} {y:Mgs} {m:Mgr} (h:MMd w B E y m) (hb:B'≤B):MMd w B' E y m:=by
 obtain ⟨M,g1,g2,g3,g4,gw,e1,e2,e3,e4,e5,h1,h2,h3,h4,h5,h6,h7⟩:=h
 exact ⟨M,g1,g2,g3,g4,gw,e1,e2,e3,e4,e5,h1,h2.mono hb (yJ _),⟨by omega,h3.2⟩,h4,h5,h6,h7⟩
theorem toManager_any (y:Mgs) (m:Mgr) (w:World) (h:MRow w y m) (hf:FitMgr m) :
  Calls Tryz.prog 6 #[mgrv y m] w fun e w'=>∃y',e=.returned (mgrv y' m)∧MMd w' w.heap.size w'.heap.size y' m∧Below w.heap.size w w':=by
 have HLEN:=hide h.1.len
 have HWL:=hide h.2.1
 obtain ⟨⟨qa,ql,qc,aa,al,ac,ma,ml,mc,ca,cl,cc⟩,wo,wl,wc⟩:=y
 obtain ⟨⟨qs,clock,epoch,next,serial,apps,ms,cs⟩,log,safe,wait⟩:=m
 obtain ⟨a1,a2⟩:=h
 simp only at a1 a2 HLEN HWL
 have hwl:wl≤1048576:=by have:=hf.2.2.1;have:=uH HWL;simp only at *;omega
 have HK:=hide (show ∀q ∈ apps,q.asks.length≤1048576 from fun q hq=>(hf.1.2.1.2 q hq).2.1)
 have HTWO:=hide hf.2.2.two
 have HB0:=hide (yA (yA (yA (yH _ w) (.cells #[.slice qa ql qc,.int .i64 clock,.int .i64 epoch,.int .i64 next,.int .i64 serial,.slice aa al ac,.slice ma ml mc,.slice ca cl cc,.string (bs log),.int .i64 safe,.slice wo wl wc] 30)) (.cells #[.slice none 0 0,.int .i64 0,.int .i64 0,.int .i64 0,.int .i64 0,.slice none 0 0,.slice none 0 0,.slice none 0 0,.string ⟨#[]⟩,.int .i64 0,.slice none 0 0] 40)) (.cells #[.slice none 0 0,.int .i64 0,.int .i64 0,.int .i64 0,.int .i64 0,.slice none 0 0,.slice none 0 0,.slice none 0 0,.string ⟨#[]⟩,.int .i64 0,.slice none 0 0] 40))
 have P0:=hide (((yD w #[.slice qa ql qc,.int .i64 clock,.int .i64 epoch,.int .i64 next,.int .i64 serial,.slice aa al ac,.slice ma ml mc,.slice ca cl cc,.string (bs log),.int .i64 safe,.slice wo wl wc] 30).al (.cells #[.slice none 0 0,.int .i64 0,.int .i64 0,.int .i64 0,.int .i64 0,.slice none 0 0,.slice none 0 0,.slice none 0 0,.string ⟨#[]⟩,.int .i64 0,.slice none 0 0] 40)).al (.cells #[.slice none 0 0,.int .i64 0,.int .i64 0,.int .i64 0,.int .i64 0,.slice none 0 0,.slice none 0 0,.slice none 0 0,.string ⟨#[]⟩,.int .i64 0,.slice none 0 0] 40))
 have R0:=hide (show Blk _ (w.heap.size+1) #[.slice none 0 0,.int .i64 0,.int .i64 0,.int .i64 0,.int .i64 0,.slice none 0 0,.slice none 0 0,.slice none 0 0,.string ⟨#[]⟩,.int .i64 0,.slice none 0 0] 40 by have:=(yD (w.alloc (.cells #[.slice qa ql qc,.int .i64 clock,.int .i64 epoch,.int .i64 next,.int .i64 serial,.slice aa al ac,.slice ma ml mc,.slice ca cl cc,.string (bs log),.int .i64 safe,.slice wo wl wc] 30)) #[.slice none 0 0,.int .i64 0,.int .i64 0,.int .i64 0,.int .i64 0,.slice none 0 0,.slice none 0 0,.slice none 0 0,.string ⟨#[]⟩,.int .i64 0,.slice none 0 0] 40).al (.cells #[.slice none 0 0,.int .i64 0,.int .i64 0,.int .i64 0,.int .i64 0,.slice none 0 0,.slice none 0 0,.slice none 0 0,.string ⟨#[]⟩,.int .i64 0,.slice none 0 0] 40);rwa [yE] at this)
 have O0:=hide (show Blk _ (w.heap.size+1+1) #[.slice none 0 0,.int .i64 0,.int .i64 0,.int .i64 0,.int .i64 0,.slice none 0 0,.slice none 0 0,.slice none 0 0,.string ⟨#[]⟩,.int .i64 0,.slice none 0 0] 40 by have:=yD ((w.alloc (.cells #[.slice qa ql qc,.int .i64 clock,.int .i64 epoch,.int .i64 next,.int .i64 serial,.slice aa al ac,.slice ma ml mc,.slice ca cl cc,.string (bs log),.int .i64 safe,.slice wo wl wc] 30)).alloc (.cells #[.slice none 0 0,.int .i64 0,.int .i64 0,.int .i64 0,.int .i64 0,.slice none 0 0,.slice none 0 0,.slice none 0 0,.string ⟨#[]⟩,.int .i64 0,.slice none 0 0] 40)) #[.slice none 0 0,.int .i64 0,.int .i64 0,.int .i64 0,.int .i64 0,.slice none 0 0,.slice none 0 0,.slice none 0 0,.string ⟨#[]⟩,.int .i64 0,.slice none 0 0] 40;rwa [yE,yE] at this)
 have CS:=hide (toState_any ⟨qa,ql,qc,aa,al,ac,ma,ml,mc,ca,cl,cc⟩ ⟨qs,clock,epoch,next,serial,apps,ms,cs⟩ _ (a1.below (uH HB0)) hf.1)
 have HW:=hide a2
 clear a1 a2 hf
 have p0:=(uH P0).at 0;have p1:=(uH P0).at 1;have p2:=(uH P0).at 2;have p3:=(uH P0).at 3;have p4:=(uH P0).at 4;have p5:=(uH P0).at 5;have p6:=(uH P0).at 6;have p7:=(uH P0).at 7
 simp at p0 p1 p2 p3 p4 p5 p6 p7
 go_enter Tryz.func6,Tryz.ntmps6
 go_wp2_with fail
 refine (uH CS).mono ?_
 rintro e w1 ⟨g1,g2,g3,g4,rfl,hq,hgs,hb⟩
 simp only [yE] at hgs
 obtain ⟨b1,b2,b3,b4⟩:=hgs
 have HB1:=hide (yB (uH HB0) hb)
 have P1:=hide ((uH P0).below hb)
 have R1:=hide ((uH R0).below hb)
 have O1:=hide ((uH O0).below hb)
 have SO1:=hide hq
 have AW1:=hide ((hq.2.1.wh (uH HLEN).2.1 (uH HK)).mono (show w.heap.size+1+1+1≤g2+1 by omega) (yJ _))
 have b5:g4<w1.heap.size:=hq.2.2.2.lt
 clear hb hq CS P0 R0 O0 HB0 HK p0 p1 p2 p3 p4 p5 p6 p7
 have p8:=(uH P1).at 8;have p9:=(uH P1).at 9
 simp at p8 p9
 have o0:=(uH O1).at 0;have o1:=(uH O1).at 1;have o2:=(uH O1).at 2;have o3:=(uH O1).at 3;have o4:=(uH O1).at 4;have o5:=(uH O1).at 5;have o6:=(uH O1).at 6;have o7:=(uH O1).at 7;have o8:=(uH O1).at 8;have o9:=(uH O1).at 9
 simp at o0 o1 o2 o3 o4 o5 o6 o7 o8 o9
 have of0:=(uH O1).f 0;have of1:=(uH O1).f 1;have of2:=(uH O1).f 2;have of3:=(uH O1).f 3;have of4:=(uH O1).f 4;have of5:=(uH O1).f 5;have of6:=(uH O1).f 6;have of7:=(uH O1).f 7;have of8:=(uH O1).f 8;have of9:=(uH O1).f 9
 go_upto_region 5 with fail
 have hh:Hi (w.heap.size+1+1) w1 ((((((((((w1.setCell ⟨w.heap.size+1+1,0,none⟩ (.slice (some ⟨g1,0,none⟩) ql ql)).setCell ⟨w.heap.size+1+1,1,none⟩ (.int .i64 clock)).setCell ⟨w.heap.size+1+1,2,none⟩ (.int .i64 epoch)).setCell ⟨w.heap.size+1+1,3,none⟩ (.int .i64 next)).setCell ⟨w.heap.size+1+1,4,none⟩ (.int .i64 serial)).setCell ⟨w.heap.size+1+1,5,none⟩ (.slice (some ⟨g2,0,none⟩) al al)).setCell ⟨w.heap.size+1+1,6,none⟩ (.slice (some ⟨g3,0,none⟩) ml ml)).setCell ⟨w.heap.size+1+1,7,none⟩ (.slice (some ⟨g4,0,none⟩) cl cl)).setCell ⟨w.heap.size+1+1,8,none⟩ (.string (bs log))).setCell ⟨w.heap.size+1+1,9,none⟩ (.int .i64 safe)):=hi_sets w1 (w.heap.size+1+1) 0 [.slice (some ⟨g1,0,none⟩) ql ql,.int .i64 clock,.int .i64 epoch,.int .i64 next,.int .i64 serial,.slice (some ⟨g2,0,none⟩) al al,.slice (some ⟨g3,0,none⟩) ml ml,.slice (some ⟨g4,0,none⟩) cl cl,.string (bs log),.int .i64 safe]
 have HB2:=hide (show Below w.heap.size w ((((((((((w1.setCell ⟨w.heap.size+1+1,0,none⟩ (.slice (some ⟨g1,0,none⟩) ql ql)).setCell ⟨w.heap.size+1+1,1,none⟩ (.int .i64 clock)).setCell ⟨w.heap.size+1+1,2,none⟩ (.int .i64 epoch)).setCell ⟨w.heap.size+1+1,3,none⟩ (.int .i64 next)).setCell ⟨w.heap.size+1+1,4,none⟩ (.int .i64 serial)).setCell ⟨w.heap.size+1+1,5,none⟩ (.slice (some ⟨g2,0,none⟩) al al)).setCell ⟨w.heap.size+1+1,6,none⟩ (.slice (some ⟨g3,0,none⟩) ml ml)).setCell ⟨w.heap.size+1+1,7,none⟩ (.slice (some ⟨g4,0,none⟩) cl cl)).setCell ⟨w.heap.size+1+1,8,none⟩ (.string (bs log))).setCell ⟨w.heap.size+1+1,9,none⟩ (.int .i64 safe)) from below_sets (uH HB1) (by omega) 0 [.slice (some ⟨g1,0,none⟩) ql ql,.int .i64 clock,.int .i64 epoch,.int .i64 next,.int .i64 serial,.slice (some ⟨g2,0,none⟩) al al,.slice (some ⟨g3,0,none⟩) ml ml,.slice (some ⟨g4,0,none⟩) cl cl,.string (bs log),.int .i64 safe])
 have P2:=hide (show Blk ((((((((((w1.setCell ⟨w.heap.size+1+1,0,none⟩ (.slice (some ⟨g1,0,none⟩) ql ql)).setCell ⟨w.heap.size+1+1,1,none⟩ (.int .i64 clock)).setCell ⟨w.heap.size+1+1,2,none⟩ (.int .i64 epoch)).setCell ⟨w.heap.size+1+1,3,none⟩ (.int .i64 next)).setCell ⟨w.heap.size+1+1,4,none⟩ (.int .i64 serial)).setCell ⟨w.heap.size+1+1,5,none⟩ (.slice (some ⟨g2,0,none⟩) al al)).setCell ⟨w.heap.size+1+1,6,none⟩ (.slice (some ⟨g3,0,none⟩) ml ml)).setCell ⟨w.heap.size+1+1,7,none⟩ (.slice (some ⟨g4,0,none⟩) cl cl)).setCell ⟨w.heap.size+1+1,8,none⟩ (.string (bs log))).setCell ⟨w.heap.size+1+1,9,none⟩ (.int .i64 safe)) w.heap.size #[.slice qa ql qc,.int .i64 clock,.int .i64 epoch,.int .i64 next,.int .i64 serial,.slice aa al ac,.slice ma ml mc,.slice ca cl cc,.string (bs log),.int .i64 safe,.slice wo wl wc] 30 from (uH P1).other_sets (by omega) 0 [.slice (some ⟨g1,0,none⟩) ql ql,.int .i64 clock,.int .i64 epoch,.int .i64 next,.int .i64 serial,.slice (some ⟨g2,0,none⟩) al al,.slice (some ⟨g3,0,none⟩) ml ml,.slice (some ⟨g4,0,none⟩) cl cl,.string (bs log),.int .i64 safe])
 have R2:=hide (show Blk ((((((((((w1.setCell ⟨w.heap.size+1+1,0,none⟩ (.slice (some ⟨g1,0,none⟩) ql ql)).setCell ⟨w.heap.size+1+1,1,none⟩ (.int .i64 clock)).setCell ⟨w.heap.size+1+1,2,none⟩ (.int .i64 epoch)).setCell ⟨w.heap.size+1+1,3,none⟩ (.int .i64 next)).setCell ⟨w.heap.size+1+1,4,none⟩ (.int .i64 serial)).setCell ⟨w.heap.size+1+1,5,none⟩ (.slice (some ⟨g2,0,none⟩) al al)).setCell ⟨w.heap.size+1+1,6,none⟩ (.slice (some ⟨g3,0,none⟩) ml ml)).setCell ⟨w.heap.size+1+1,7,none⟩ (.slice (some ⟨g4,0,none⟩) cl cl)).setCell ⟨w.heap.size+1+1,8,none⟩ (.string (bs log))).setCell ⟨w.heap.size+1+1,9,none⟩ (.int .i64 safe)) (w.heap.size+1) #[.slice none 0 0,.int .i64 0,.int .i64 0,.int .i64 0,.int .i64 0,.slice none 0 0,.slice none 0 0,.slice none 0 0,.string ⟨#[]⟩,.int .i64 0,.slice none 0 0] 40 from (uH R1).other_sets (by omega) 0 [.slice (some ⟨g1,0,none⟩) ql ql,.int .i64 clock,.int .i64 epoch,.int .i64 next,.int .i64 serial,.slice (some ⟨g2,0,none⟩) al al,.slice (some ⟨g3,0,none⟩) ml ml,.slice (some ⟨g4,0,none⟩) cl cl,.string (bs log),.int .i64 safe])
 have O2:=hide (show Blk ((((((((((w1.setCell ⟨w.heap.size+1+1,0,none⟩ (.slice (some ⟨g1,0,none⟩) ql ql)).setCell ⟨w.heap.size+1+1,1,none⟩ (.int .i64 clock)).setCell ⟨w.heap.size+1+1,2,none⟩ (.int .i64 epoch)).setCell ⟨w.heap.size+1+1,3,none⟩ (.int .i64 next)).setCell ⟨w.heap.size+1+1,4,none⟩ (.int .i64 serial)).setCell ⟨w.heap.size+1+1,5,none⟩ (.slice (some ⟨g2,0,none⟩) al al)).setCell ⟨w.heap.size+1+1,6,none⟩ (.slice (some ⟨g3,0,none⟩) ml ml)).setCell ⟨w.heap.size+1+1,7,none⟩ (.slice (some ⟨g4,0,none⟩) cl cl)).setCell ⟨w.heap.size+1+1,8,none⟩ (.string (bs log))).setCell ⟨w.heap.size+1+1,9,none⟩ (.int .i64 safe)) (w.heap.size+1+1) #[.slice (some ⟨g1,0,none⟩) ql ql,.int .i64 clock,.int .i64 epoch,.int .i64 next,.int .i64 serial,.slice (some ⟨g2,0,none⟩) al al,.slice (some ⟨g3,0,none⟩) ml ml,.slice (some ⟨g4,0,none⟩) cl cl,.string (bs log),.int .i64 safe,.slice none 0 0] 40 from blk_part [.slice (some ⟨g1,0,none⟩) ql ql,.int .i64 clock,.int .i64 epoch,.int .i64 next,.int .i64 serial,.slice (some ⟨g2,0,none⟩) al al,.slice (some ⟨g3,0,none⟩) ml ml,.slice (some ⟨g4,0,none⟩) cl cl,.string (bs log),.int .i64 safe] 0 w1 _ (uH O1) (by simp))
 have SO2:=hide ((uH SO1).hi hh ⟨by omega,by omega,by omega,by omega⟩)
 have AW2:=hide ((uH AW1).hi hh ⟨by omega,by omega⟩)
 have hs2:((((((((((w1.setCell ⟨w.heap.size+1+1,0,none⟩ (.slice (some ⟨g1,0,none⟩) ql ql)).setCell ⟨w.heap.size+1+1,1,none⟩ (.int .i64 clock)).setCell ⟨w.heap.size+1+1,2,none⟩ (.int .i64 epoch)).setCell ⟨w.heap.size+1+1,3,none⟩ (.int .i64 next)).setCell ⟨w.heap.size+1+1,4,none⟩ (.int .i64 serial)).setCell ⟨w.heap.size+1+1,5,none⟩ (.slice (some ⟨g2,0,none⟩) al al)).setCell ⟨w.heap.size+1+1,6,none⟩ (.slice (some ⟨g3,0,none⟩) ml ml)).setCell ⟨w.heap.size+1+1,7,none⟩ (.slice (some ⟨g4,0,none⟩) cl cl)).setCell ⟨w.heap.size+1+1,8,none⟩ (.string (bs log))).setCell ⟨w.heap.size+1+1,9,none⟩ (.int .i64 safe)).heap.size=w1.heap.size:=by simp only [set_size]
 clear hh HB1 P1 R1 O1 SO1 AW1 p8 p9 o0 o1 o2 o3 o4 o5 o6 o7 o8 o9 of0 of1 of2 of3 of4 of5 of6 of7 of8 of9
 generalize ((((((((((w1.setCell ⟨w.heap.size+1+1,0,none⟩ (.slice (some ⟨g1,0,none⟩) ql ql)).setCell ⟨w.heap.size+1+1,1,none⟩ (.int .i64 clock)).setCell ⟨w.heap.size+1+1,2,none⟩ (.int .i64 epoch)).setCell ⟨w.heap.size+1+1,3,none⟩ (.int .i64 next)).setCell ⟨w.heap.size+1+1,4,none⟩ (.int .i64 serial)).setCell ⟨w.heap.size+1+1,5,none⟩ (.slice (some ⟨g2,0,none⟩) al al)).setCell ⟨w.heap.size+1+1,6,none⟩ (.slice (some ⟨g3,0,none⟩) ml ml)).setCell ⟨w.heap.size+1+1,7,none⟩ (.slice (some ⟨g4,0,none⟩) cl cl)).setCell ⟨w.heap.size+1+1,8,none⟩ (.string (bs log))).setCell ⟨w.heap.size+1+1,9,none⟩ (.int .i64 safe))=w2 at HB2 P2 R2 O2 SO2 AW2 hs2 ⊢
 obtain ⟨M,hM⟩:∃M,w1.heap.size=M:=⟨_,rfl⟩
 rw [hM] at AW2 b5 hs2
 clear hM
 have p10:=(uH P2).at 10
 simp at p10
 go_wp2_with fail
 refine (toReplyS_any wo wl wc wait _ ((uH HW).below (uH HB2)) hwl (uH HTWO)).mono ?_
 rintro e w3 ⟨rfl,hq,hb⟩
 rw [hs2] at hq
 rw [hs2]
 have HB3:=hide (yB (uH HB2) hb)
 have R3:=hide ((uH R2).below hb)
 have O3:=hide ((uH O2).below hb)
 have SO3:=hide ((uH SO2).below hb)
 have AW3:=hide ((uH AW2).below hb)
 have RB3:=hide hq
 have RW3:=hide ((hq.wh (uH HWL) (uH HTWO)).mono (show M≤M+1 by omega) (yJ _))
 have b6:M<w3.heap.size:=hq.lt
 clear hb hq HB2 P2 R2 O2 SO2 AW2 hs2 HW p10
 have o10:=(uH O3).at 10
 have of10:=(uH O3).f 10
 simp at o10
 go_upto_region 6 with fail
 have hh:Hi (w.heap.size+1+1) w3 (w3.setCell ⟨w.heap.size+1+1,10,none⟩ (.slice (some ⟨M,0,none⟩) wl wl)):=hi_sets w3 (w.heap.size+1+1) 10 [.slice (some ⟨M,0,none⟩) wl wl]
 have HB4:=hide (yC (uH HB3) (w.heap.size+1+1) 10 (.slice (some ⟨M,0,none⟩) wl wl) (by omega))
 have R4:=hide ((uH R3).other (w.heap.size+1+1) 10 (.slice (some ⟨M,0,none⟩) wl wl) (by omega))
 have O4:=hide (show Blk (w3.setCell ⟨w.heap.size+1+1,10,none⟩ (.slice (some ⟨M,0,none⟩) wl wl)) (w.heap.size+1+1) #[.slice (some ⟨g1,0,none⟩) ql ql,.int .i64 clock,.int .i64 epoch,.int .i64 next,.int .i64 serial,.slice (some ⟨g2,0,none⟩) al al,.slice (some ⟨g3,0,none⟩) ml ml,.slice (some ⟨g4,0,none⟩) cl cl,.string (bs log),.int .i64 safe,.slice (some ⟨M,0,none⟩) wl wl] 40 from (uH O3).set 10 _)
 have SO4:=hide ((uH SO3).hi hh ⟨by omega,by omega,by omega,by omega⟩)
 have AW4:=hide ((uH AW3).hi hh ⟨by omega,by omega⟩)
 have RB4:=hide ((uH RB3).hi hh (by omega))
 have RW4:=hide ((uH RW3).hi hh ⟨by omega,by omega⟩)
 have hs4:(w3.setCell ⟨w.heap.size+1+1,10,none⟩ (.slice (some ⟨M,0,none⟩) wl wl)).heap.size=w3.heap.size:=by rw [set_size]
 clear hh HB3 R3 O3 SO3 AW3 RB3 RW3 o10 of10
 generalize w3.setCell ⟨w.heap.size+1+1,10,none⟩ (.slice (some ⟨M,0,none⟩) wl wl)=w4 at HB4 R4 O4 SO4 AW4 RB4 RW4 hs4 ⊢
 refine wp_region_lit ?_
 refine wpList_same (v:=.agg #[.slice (some ⟨g1,0,none⟩) ql ql,.int .i64 clock,.int .i64 epoch,.int .i64 next,.int .i64 serial,.slice (some ⟨g2,0,none⟩) al al,.slice (some ⟨g3,0,none⟩) ml ml,.slice (some ⟨g4,0,none⟩) cl cl,.string (bs log),.int .i64 safe,.slice (some ⟨M,0,none⟩) wl wl]) (d:=some 18) rfl rfl (run_v (ns_load 40 (uH O4) Tryz.underlying40 rfl (by kernel_rfl))) ?_
 simp only [zW]
 refine wpList_none (d:=none) rfl rfl (run_u (ns_store 40 (uH R4) (by kernel_rfl) rfl (by kernel_rfl))) ?_
 simp only [Act.put]
 have MM:=ns_mks (uH R4) #[.slice (some ⟨g1,0,none⟩) ql ql,.int .i64 clock,.int .i64 epoch,.int .i64 next,.int .i64 serial,.slice (some ⟨g2,0,none⟩) al al,.slice (some ⟨g3,0,none⟩) ml ml,.slice (some ⟨g4,0,none⟩) cl cl,.string (bs log),.int .i64 safe,.slice (some ⟨M,0,none⟩) wl wl] rfl
 have hh:=hi_row w4 (w.heap.size+1) #[.slice (some ⟨g1,0,none⟩) ql ql,.int .i64 clock,.int .i64 epoch,.int .i64 next,.int .i64 serial,.slice (some ⟨g2,0,none⟩) al al,.slice (some ⟨g3,0,none⟩) ml ml,.slice (some ⟨g4,0,none⟩) cl cl,.string (bs log),.int .i64 safe,.slice (some ⟨M,0,none⟩) wl wl]
 have R5:=hide (ns_blk (uH R4) #[.slice (some ⟨g1,0,none⟩) ql ql,.int .i64 clock,.int .i64 epoch,.int .i64 next,.int .i64 serial,.slice (some ⟨g2,0,none⟩) al al,.slice (some ⟨g3,0,none⟩) ml ml,.slice (some ⟨g4,0,none⟩) cl cl,.string (bs log),.int .i64 safe,.slice (some ⟨M,0,none⟩) wl wl])
 have HB5:=hide ((uH HB4).trans (MM.below (fun k e=>by subst e;omega) (uH HB4).size))
 have SO5:=hide ((uH SO4).hi hh ⟨by omega,by omega,by omega,by omega⟩)
 have AW5:=hide ((uH AW4).hi hh ⟨by omega,by omega⟩)
 have RB5:=hide ((uH RB4).hi hh (by omega))
 have RW5:=hide ((uH RW4).hi hh ⟨by omega,by omega⟩)
 have hs5:(World.setRow w4 (w.heap.size+1) #[.slice (some ⟨g1,0,none⟩) ql ql,.int .i64 clock,.int .i64 epoch,.int .i64 next,.int .i64 serial,.slice (some ⟨g2,0,none⟩) al al,.slice (some ⟨g3,0,none⟩) ml ml,.slice (some ⟨g4,0,none⟩) cl cl,.string (bs log),.int .i64 safe,.slice (some ⟨M,0,none⟩) wl wl]).heap.size=w3.heap.size:=by rw [setRow_size];exact hs4
 clear MM hh HB4 R4 O4 SO4 AW4 RB4 RW4 hs4
 generalize World.setRow w4 (w.heap.size+1) #[.slice (some ⟨g1,0,none⟩) ql ql,.int .i64 clock,.int .i64 epoch,.int .i64 next,.int .i64 serial,.slice (some ⟨g2,0,none⟩) al al,.slice (some ⟨g3,0,none⟩) ml ml,.slice (some ⟨g4,0,none⟩) cl cl,.string (bs log),.int .i64 safe,.slice (some ⟨M,0,none⟩) wl wl]=w5 at R5 HB5 SO5 AW5 RB5 RW5 hs5 ⊢
 have r0:=(uH R5).at 0;have r1:=(uH R5).at 1;have r2:=(uH R5).at 2;have r3:=(uH R5).at 3;have r4:=(uH R5).at 4;have r5:=(uH R5).at 5;have r6:=(uH R5).at 6;have r7:=(uH R5).at 7;have r8:=(uH R5).at 8;have r9:=(uH R5).at 9;have r10:=(uH R5).at 10
 simp at r0 r1 r2 r3 r4 r5 r6 r7 r8 r9 r10
 have HMD:=hide (show MMd w5 w.heap.size w5.heap.size ⟨⟨some ⟨g1,0,none⟩,ql,ql,some ⟨g2,0,none⟩,al,al,some ⟨g3,0,none⟩,ml,ml,some ⟨g4,0,none⟩,cl,cl⟩,some ⟨M,0,none⟩,wl,wl⟩ ⟨⟨qs,clock,epoch,next,serial,apps,ms,cs⟩,log,safe,wait⟩ from ⟨M,g1,g2,g3,g4,M,rfl,rfl,rfl,uH HLEN,uH HWL,uH SO5,(uH AW5).mono (by omega) (yJ _),⟨by omega,b2,b3,b4,b5⟩,uH RB5,by rw [hs5];exact uH RW5,yJ _,by rw [hs5];exact b6⟩)
 clear R5 SO5 AW5 RB5 RW5 hs5
 go_wp2
 exact bodyPost_ret (v:=mgrv ⟨⟨some ⟨g1,0,none⟩,ql,ql,some ⟨g2,0,none⟩,al,al,some ⟨g3,0,none⟩,ml,ml,some ⟨g4,0,none⟩,cl,cl⟩,some ⟨M,0,none⟩,wl,wl⟩ ⟨⟨qs,clock,epoch,next,serial,apps,ms,cs⟩,log,safe,wait⟩) (by simp [results,Tryz.results6,go_sem,r0,r1,r2,r3,r4,r5,r6,r7,r8,r9,r10]) rfl ⟨_,rfl,uH HMD,uH HB5⟩
theorem markManager_made (B E:Nat) (y:Mgs) (m:Mgr) (w:World) (h:MMd w B E y m) (hE:E≤w.heap.size) (hf:FitMgr m) :
  Calls Tryz.prog 9 #[mgrv y m,.int .i64 1] w fun e w'=>∃k,e=.returned (.int .i64 k)∧(0<k∧k≤30000000000000)∧Mkd B E w w':=by
 obtain ⟨M,g1,g2,g3,g4,gw,e1,e2,e3,e4,e5,h1,h2,h3,h4,h5,h6,h7⟩:=h
 obtain ⟨x,wo,wl,wc⟩:=y
 simp only at e1 e2 e3 e4 e5 h1 h2 h4 h5
 obtain ⟨l1,l2,l3,l4⟩:=e4
 obtain ⟨ql,hql⟩:∃n,x.ql=n:=⟨_,rfl⟩
 obtain ⟨al,hal⟩:∃n,x.al=n:=⟨_,rfl⟩
 obtain ⟨ml,hml⟩:∃n,x.ml=n:=⟨_,rfl⟩
 obtain ⟨cl,hcl⟩:∃n,x.cl=n:=⟨_,rfl⟩
 rw [hql,hal,hml,hcl] at e1 h1
 rw [hql] at l1
 rw [hal] at l2 h2
 rw [hml] at l3
 rw [hcl] at l4
 clear hql hal hml hcl
 subst e1 e2 e3
 have kq:ql≤1048576:=by have:=hf.1.1.1;omega
 have ka:al≤1048576:=by have:=hf.1.2.1.1;omega
 have km:ml≤1048576:=by have:=hf.1.2.2.1.1;omega
 have kc:cl≤1048576:=by have:=hf.1.2.2.2.1;omega
 have kw:wc≤1048576:=by have:=hf.2.2.1;omega
 have hb0:=yA (yH _ w) (.cells (mgrc ⟨own4 g1 g2 g3 g4 ql al ml cl,some ⟨gw,0,none⟩,wc,wc⟩ m) 40)
 have P0:=hide (yD w (mgrc ⟨own4 g1 g2 g3 g4 ql al ml cl,some ⟨gw,0,none⟩,wc,wc⟩ m) 40)
 have HG0:=hide (show Mkd B E w _ from .of_below hb0)
 have hM:M≤w.heap.size:=by have:=h5.1.lt;omega
 have CS:=hide (markState_le B M g1 g2 g3 g4 ql al ml cl m.s _ (h1.1.cel.below hb0) (h2.below hb0) (h1.2.2.1.cel.below hb0) (h1.2.2.2.cel.below hb0) h3 (by rw [yE];omega) kq ka km kc)
 have RW0:=hide (h5.below hb0)
 obtain ⟨⟨qs,clock,epoch,next,serial,apps,ms,cs⟩,log,safe,wait⟩:=m
 have hBM:B≤M:=by omega
 have hMg:M≤gw:=h6
 have hgE:gw<E:=h7
 clear h1 h2 h3 h4 h5 h6 h7 hf hb0 e5 l1 l2 l3 l4 kq ka km kc
 have p0:=(uH P0).at 0;have p1:=(uH P0).at 1;have p2:=(uH P0).at 2;have p3:=(uH P0).at 3;have p4:=(uH P0).at 4;have p5:=(uH P0).at 5;have p6:=(uH P0).at 6;have p7:=(uH P0).at 7
 simp at p0 p1 p2 p3 p4 p5 p6 p7
 go_enter Tryz.func9,Tryz.ntmps9
 go_wp2_with fail
 refine (uH CS).mono ?_
 rintro e w1 ⟨k,rfl,⟨k0,k1⟩,hm⟩
 have P1:=hide (hm.blk (uH P0) (.inr (by omega)))
 have RW1:=hide ((uH RW0).mkdo hm (.inr hMg))
 have HG1:=hide ((uH HG0).trans (hm.mono (yJ _) (by omega)))
 clear hm CS P0 RW0 HG0 p0 p1 p2 p3 p4 p5 p6 p7
 have p10:=(uH P1).at 10
 simp at p10
 go_wp2_with fail
 refine (markReplyS_from M E gw wc k _ (uH RW1) hMg hgE kw k0 (by omega)).mono ?_
 rintro e w2 ⟨k2,rfl,j0,j1,hm⟩
 have HG2:=hide ((uH HG1).trans (hm.mono hBM (yJ _)))
 clear hm P1 RW1 HG1 p10
 go_wp2
 go_ret
 exact ⟨_,rfl,⟨by omega,by omega⟩,uH HG2⟩
end
end Go.Proofs.YtjkfappkpopbdaaGreat
