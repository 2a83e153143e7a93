/-
  Texts in one: RpZ, ClV, RpK, AgK, AgT, ClM, RpE, AgE, ClE.
-/
import Derived.Test.YtmkedfdnokmglaaGreatSackE
import Derived.Test.YtmkedfdnokmglaaGreatSackH
set_option maxRecDepth 100000
set_option maxHeartbeats 16000000
set_option linter.unusedVariables false
set_option linter.unusedSimpArgs false
namespace Go.Proofs.YtmkedfdnokmglaaGreat
section
open Go.RowKit
def FitRpl1 (q:Rpl):Prop:=FitCon q.cs∧q.kill.length≤1048576
def FitRpl (l:List Rpl):Prop:=l.length≤1048576∧∀q ∈ l,FitRpl1 q
structure Mgr where
 s:St
 log:List UInt8
 safe:Int
 wait:List Rpl
structure Mgs where
 x:Sls
 wo:Option Addr
 wl:Nat
 wc:Nat
structure Clu where
 m:Mgr
 ags:List Agt
 told:List Rpl
structure Cls where
 y:Mgs
 go:Option Addr
 gl:Nat
 gc:Nat
 eo:Option Addr
 tl:Nat
 tc:Nat
abbrev mgrc (y:Mgs) (m:Mgr):Array Value:=#[.slice y.x.qa y.x.ql y.x.qc,.int .i64 m.s.clock,.int .i64 m.s.epoch,.int .i64 m.s.next,.int .i64 m.s.serial,.slice y.x.aa y.x.al y.x.ac,.slice y.x.ma y.x.ml y.x.mc,.slice y.x.ca y.x.cl y.x.cc,.string (bs m.log),.int .i64 m.safe,.slice y.wo y.wl y.wc]
abbrev mgrv (y:Mgs) (m:Mgr):Value:=.agg (mgrc y m)
abbrev cluc (z:Cls) (c:Clu):Array Value:=#[.slice z.y.x.qa z.y.x.ql z.y.x.qc,.int .i64 c.m.s.clock,.int .i64 c.m.s.epoch,.int .i64 c.m.s.next,.int .i64 c.m.s.serial,.slice z.y.x.aa z.y.x.al z.y.x.ac,.slice z.y.x.ma z.y.x.ml z.y.x.mc,.slice z.y.x.ca z.y.x.cl z.y.x.cc,.string (bs c.m.log),.int .i64 c.m.safe,.slice z.y.wo z.y.wl z.y.wc,.slice z.go z.gl z.gc,.slice z.eo z.tl z.tc]
abbrev cluv (z:Cls) (c:Clu):Value:=.agg (cluc z c)
def MRow (w:World) (y:Mgs) (m:Mgr):Prop:=SRow w y.x m.s∧RplRow w y.wo y.wl m.wait
def CRow (w:World) (z:Cls) (c:Clu):Prop:=MRow w z.y c.m∧AgtRow w z.go z.gl c.ags∧RplRow w z.eo z.tl c.told
theorem MRow.below {w w':World} {y:Mgs} {m:Mgr} (h:MRow w y m) (hb:Below w.heap.size w w'):MRow w' y m:=⟨h.1.below hb,h.2.below hb⟩
theorem CRow.below {w w':World} {z:Cls} {c:Clu} (h:CRow w z c) (hb:Below w.heap.size w w'):CRow w' z c:=⟨h.1.below hb,h.2.1.below hb,h.2.2.below hb⟩
def FitMgr (m:Mgr):Prop:=FitSt m.s∧m.log.length≤1048576∧FitRpl m.wait
def FitClu (c:Clu):Prop:=FitMgr c.m∧FitAgt c.ags∧FitRpl c.told
theorem FitRpl.two {l:List Rpl} (h:FitRpl l):∀q ∈ l,q.cs.length≤1048576∧q.kill.length≤1048576:=fun q hq=>⟨(h.2 q hq).1.1,(h.2 q hq).2⟩
theorem FitAgt.one {l:List Agt} (h:FitAgt l):∀q ∈ l,q.cs.length≤1048576:=fun q hq=>(h.2 q hq).2.1
def RWh (w:World) (B E g n:Nat):Prop:=Cel w 110 g (n*4)∧∀i,i<n→∃b xl c yl,w.cell? ⟨g,i*4+2,none⟩=some (.slice (some ⟨b,0,none⟩) xl xl)∧w.cell? ⟨g,i*4+3,none⟩=some (.slice (some ⟨c,0,none⟩) yl yl)∧Cel w 74 b (xl*5)∧Cel w 3 c yl∧xl≤1048576∧yl≤1048576∧B≤b∧b<E∧b≠g∧B≤c∧c<E∧c≠g
theorem RWh.below {w w':World} {B E g n:Nat} (h:RWh w B E g n) (hb:Below w.heap.size w w'):RWh w' B E g n:=
 ⟨h.1.below hb,fun i hi=>let ⟨b,xl,c,yl,a1,a2,k1,k2,d⟩:=h.2 i hi;⟨b,xl,c,yl,cellBel a1 hb,cellBel a2 hb,k1.below hb,k2.below hb,d⟩⟩
theorem RWh.sc {w:World} {B E g n:Nat} (h:RWh w B E g n) (j:Nat) (v:Value) (hj:∀i,j≠i*4+2∧j≠i*4+3):RWh (w.setCell ⟨g,j,none⟩ v) B E g n:=
 ⟨h.1.set _ _ _,fun i hi=>let ⟨b,xl,c,yl,a1,a2,k1,k2,d⟩:=h.2 i hi;⟨b,xl,c,yl,cellKeep a1 (hj i).1,cellKeep a2 (hj i).2,k1.set _ _ _,k2.set _ _ _,d⟩⟩
theorem RWh.mkd {w w':World} {B E g n b:Nat} (h:RWh w B E g n) (hm:Mkd b (b+1) w w') (hn:b≠g):RWh w' B E g n:=
 ⟨hm.cel _ _ _ h.1,fun i hi=>let ⟨b,xl,c,yl,a1,a2,k1,k2,d⟩:=h.2 i hi;⟨b,xl,c,yl,(World.cell?_of_block (w:=w) (a:=⟨g,i*4+2,none⟩) (hm.block g h.1.lt (by omega))).trans a1,(World.cell?_of_block (w:=w) (a:=⟨g,i*4+3,none⟩) (hm.block g h.1.lt (by omega))).trans a2,hm.cel _ _ _ k1,hm.cel _ _ _ k2,d⟩⟩
theorem RWh.mono {w:World} {B E B' E' g n:Nat} (h:RWh w B E g n) (h1:B'≤B) (h2:E≤E'):RWh w B' E' g n:=
 ⟨h.1,fun i hi=>let ⟨b,xl,c,yl,a1,a2,k1,k2,d⟩:=h.2 i hi;⟨b,xl,c,yl,a1,a2,k1,k2,d.1,d.2.1,by have:=d.2.2.1;omega,by have:=d.2.2.2.1;omega,d.2.2.2.2.1,by have:=d.2.2.2.2.2.1;omega,by have:=d.2.2.2.2.2.2.1;omega,d.2.2.2.2.2.2.2⟩⟩
theorem RplBlk.wh {w:World} {g n:Nat} {l:List Rpl} (h:RplBlk w 110 g n n l) (hl:n=l.length) (hk:∀q ∈ l,q.cs.length≤1048576∧q.kill.length≤1048576):RWh w (g+1) w.heap.size g n:=by
 refine ⟨let ⟨arr,h1,h2,_⟩:=h;⟨arr,h1,h2⟩,fun i hi=>?_⟩
 obtain ⟨arr,h1,h2,h3⟩:=h
 have hil:i<l.length:=by omega
 obtain ⟨_,_,xo,xl,xc,yo,yl,yc,t0,t1,o0,o1⟩:=h3 i hil hi
 have hlen:=hk l[i] (yM _)
 obtain ⟨r0,rfl,b,rfl,hb,kb⟩:=o0
 obtain ⟨r1,rfl,c,rfl,hc,kc⟩:=o1
 have e0:=r0.1
 have e1:=r1.1
 exact ⟨b,_,c,_,by simp [World.cell?,h1,t0],by simp [World.cell?,h1,t1],conblk_cel kb,iblk_cel kc,by omega,by omega,by omega,kb.lt,by omega,by omega,kc.lt,by omega⟩
def GWh (w:World) (B E g n:Nat):Prop:=Cel w 71 g (n*4)∧∀i,i<n→∃b xl,w.cell? ⟨g,i*4+3,none⟩=some (.slice (some ⟨b,0,none⟩) xl xl)∧Cel w 74 b (xl*5)∧xl≤1048576∧B≤b∧b<E∧b≠g
theorem GWh.below {w w':World} {B E g n:Nat} (h:GWh w B E g n) (hb:Below w.heap.size w w'):GWh w' B E g n:=
 ⟨h.1.below hb,fun i hi=>let ⟨b,xl,a1,k1,d⟩:=h.2 i hi;⟨b,xl,cellBel a1 hb,k1.below hb,d⟩⟩
theorem GWh.sc {w:World} {B E g n:Nat} (h:GWh w B E g n) (j:Nat) (v:Value) (hj:∀i,j≠i*4+3):GWh (w.setCell ⟨g,j,none⟩ v) B E g n:=
 ⟨h.1.set _ _ _,fun i hi=>let ⟨b,xl,a1,k1,d⟩:=h.2 i hi;⟨b,xl,cellKeep a1 (hj i),k1.set _ _ _,d⟩⟩
theorem GWh.mkd {w w':World} {B E g n b:Nat} (h:GWh w B E g n) (hm:Mkd b (b+1) w w') (hn:b≠g):GWh w' B E g n:=
 ⟨hm.cel _ _ _ h.1,fun i hi=>let ⟨b,xl,a1,k1,d⟩:=h.2 i hi;⟨b,xl,(World.cell?_of_block (w:=w) (a:=⟨g,i*4+3,none⟩) (hm.block g h.1.lt (by omega))).trans a1,hm.cel _ _ _ k1,d⟩⟩
theorem GWh.mono {w:World} {B E B' E' g n:Nat} (h:GWh w B E g n) (h1:B'≤B) (h2:E≤E'):GWh w B' E' g n:=
 ⟨h.1,fun i hi=>let ⟨b,xl,a1,k1,d⟩:=h.2 i hi;⟨b,xl,a1,k1,d.1,by have:=d.2.1;omega,by have:=d.2.2.1;omega,d.2.2.2⟩⟩
theorem AgtBlk.wh {w:World} {g n:Nat} {l:List Agt} (h:AgtBlk w 71 g n n l) (hl:n=l.length) (hk:∀q ∈ l,q.cs.length≤1048576):GWh w (g+1) w.heap.size g n:=by
 refine ⟨let ⟨arr,h1,h2,_⟩:=h;⟨arr,h1,h2⟩,fun i hi=>?_⟩
 obtain ⟨arr,h1,h2,h3⟩:=h
 have hil:i<l.length:=by omega
 obtain ⟨_,_,_,xo,xl,xc,t0,o0⟩:=h3 i hil hi
 have hlen:=hk l[i] (yM _)
 obtain ⟨r0,rfl,b,rfl,hb,kb⟩:=o0
 have e0:=r0.1
 exact ⟨b,_,by simp [World.cell?,h1,t0],conblk_cel kb,by omega,by omega,kb.lt,by omega⟩
theorem markAgentS_from (B E g n:Nat) (k0:Int) (w:World) (h:GWh w B E g n) (hB:B≤g) (hE:g<E) (hn:n≤1048576) (h0:0<k0) (h1:k0≤200000000000000) :
  Calls Tryz.prog 23 #[.slice (some ⟨g,0,none⟩) n n,.int .i64 k0] w fun e w'=>∃k',e=.returned (.int .i64 k')∧k0≤k'∧k'≤k0+5242883*(n:Int)∧Mkd B E w w':=by
 have HQ0:=hide h
 clear h
 go_enter Tryz.func23,Tryz.ntmps23
 go_wp2
 go_loopw [1,5] (fun s i wr=>∃(j:Nat) (k:Int),j≤n∧i=.int .i64 j∧s=.int .i64 k∧k0≤k∧k≤k0+5242883*(j:Int)∧Hid (GWh wr B E g n)∧Hid (Mkd B E w wr)) (fun _ i _=>n - (intOf i).toNat)
 case atStart=>exact ⟨0,k0,Nat.zero_le _,rfl,rfl,by omega,by omega,HQ0,hide (Mkd.refl _ _ _)⟩
 case round=>
  obtain ⟨j,k,hj,rfl,rfl,hk,hk',HQ,HG⟩:=hrel
  by_cases hlt:j<n
  ·have hk0:0<k:=by omega
   have hk1:k≤210000000000000:=by omega
   have HK:=hide hk'
   clear hk'
   go_wp2_with fail
   refine (markText_int k _ (by omega) (by omega)).mono ?_
   rintro e w1 ⟨rfl,hb⟩
   have HQ0:=hide ((uH HQ).below hb)
   have HG0:=hide ((uH HG).on hb)
   clear hb HQ HG
   obtain ⟨v0,d0⟩:=(uH HQ0).1.cell (j:=j*4) (by omega)
   have f0:=(uH HQ0).1.frozen (j*4)
   have HQ1:=hide ((uH HQ0).sc (j*4) (.string (mk k.toNat)) (by omega))
   have HG1:=hide ((uH HG0).sc g (j*4) (.string (mk k.toNat)) hB hE)
   obtain ⟨v1,d1⟩:=(uH HQ1).1.cell (j:=j*4+1) (by omega)
   have f1:=(uH HQ1).1.frozen (j*4+1)
   have HQ2:=hide ((uH HQ1).sc (j*4+1) (.int .i64 (k+1)) (by omega))
   have HG2:=hide ((uH HG1).sc g (j*4+1) (.int .i64 (k+1)) hB hE)
   obtain ⟨v2,d2⟩:=(uH HQ2).1.cell (j:=j*4+2) (by omega)
   have f2:=(uH HQ2).1.frozen (j*4+2)
   have HQ3:=hide ((uH HQ2).sc (j*4+2) (.int .i64 (k+1+1)) (by omega))
   have HG3:=hide ((uH HG2).sc g (j*4+2) (.int .i64 (k+1+1)) hB hE)
   obtain ⟨b,xl,d3,hcx,hxl,hb1,hb2,hbg⟩:=(uH HQ3).2 j hlt
   have CA:=hide (markContS_from b xl xl (k+1+1+1) _ hcx (yJ _) hxl (by omega) (by omega))
   clear HQ0 HG0 HQ1 HG1 HQ2 HG2 hcx
   go_wp2_with fail
   refine (uH CA).mono ?_
   rintro e w2 ⟨rfl,hm⟩
   have HQ4:=hide ((uH HQ3).mkd hm hbg)
   have HG4:=hide ((uH HG3).trans (hm.mono hb1 (by omega)))
   clear hm CA HQ3 HG3 d0 f0 d1 f1 d2 f2 d3
   go_wp2
   go_roundw
   case rel=>exact ⟨j+1,k+1+1+1+5*(xl:Int),by omega,by go_num,by go_num,by omega,by have:=uH HK;omega,HQ4,HG4⟩
   case measure=>simp [intOf];omega
  ·have hjn:j=n:=by omega
   subst hjn
   go_wp2
   go_ret
   exact ⟨k,rfl,hk,hk',uH HG⟩
theorem toAgent_any (name:List UInt8) (mem cpu:Int) (xo:Option Addr) (xl xc:Nat) (cs:List Con) (w:World) (h:ConRow w xo xl cs) (hl:xl≤1048576) :
  Calls Tryz.prog 44 #[agtv name mem cpu xo xl xc] w fun e w'=>∃g1,e=.returned (agtv name mem cpu (some ⟨g1,0,none⟩) xl xl)∧w.heap.size<g1∧ConBlk w' 74 g1 xl xl cs∧Below w.heap.size w w':=by
 have HR:=hide h
 clear h
 have HB0:=hide (yA (yA (yA (yH _ w) (.cells #[.string (bs name),.int .i64 mem,.int .i64 cpu,.slice xo xl xc] 89)) (.cells #[.string ⟨#[]⟩,.int .i64 0,.int .i64 0,.slice none 0 0] 71)) (.cells #[.string (bs name),.int .i64 0,.int .i64 0,.slice none 0 0] 71))
 have P0:=hide (((yD w #[.string (bs name),.int .i64 mem,.int .i64 cpu,.slice xo xl xc] 89).al (.cells #[.string ⟨#[]⟩,.int .i64 0,.int .i64 0,.slice none 0 0] 71)).al (.cells #[.string (bs name),.int .i64 0,.int .i64 0,.slice none 0 0] 71))
 have R0:=hide (show Blk _ (w.heap.size+1) #[.string ⟨#[]⟩,.int .i64 0,.int .i64 0,.slice none 0 0] 71 by have:=(yD (w.alloc (.cells #[.string (bs name),.int .i64 mem,.int .i64 cpu,.slice xo xl xc] 89)) #[.string ⟨#[]⟩,.int .i64 0,.int .i64 0,.slice none 0 0] 71).al (.cells #[.string (bs name),.int .i64 0,.int .i64 0,.slice none 0 0] 71);rwa [yE] at this)
 have O0:=hide (show Blk _ (w.heap.size+1+1) #[.string (bs name),.int .i64 0,.int .i64 0,.slice none 0 0] 71 by have:=yD ((w.alloc (.cells #[.string (bs name),.int .i64 mem,.int .i64 cpu,.slice xo xl xc] 89)).alloc (.cells #[.string ⟨#[]⟩,.int .i64 0,.int .i64 0,.slice none 0 0] 71)) #[.string (bs name),.int .i64 0,.int .i64 0,.slice none 0 0] 71;rwa [yE,yE] at this)
 go_enter Tryz.func44,Tryz.ntmps44
 go_wp2_with fail
 refine (toRes_ex _ _ _).mono ?_
 rintro e w1 ⟨rfl,o1,o2,o3,rfl⟩
 have HB1:=hide (yA (yA (yA (uH HB0) o1) o2) o3)
 have P1:=hide ((((uH P0).al o1).al o2).al o3)
 have R1:=hide ((((uH R0).al o1).al o2).al o3)
 have O1:=hide ((((uH O0).al o1).al o2).al o3)
 generalize ((((((w.alloc (.cells #[.string (bs name),.int .i64 mem,.int .i64 cpu,.slice xo xl xc] 89)).alloc (.cells #[.string ⟨#[]⟩,.int .i64 0,.int .i64 0,.slice none 0 0] 71)).alloc (.cells #[.string (bs name),.int .i64 0,.int .i64 0,.slice none 0 0] 71)).alloc o1).alloc o2).alloc o3)=w1 at HB1 P1 R1 O1 ⊢
 clear HB0 P0 R0 O0 o1 o2 o3
 have p3:=(uH P1).at 3
 have o1:=(uH O1).at 1;have o2:=(uH O1).at 2
 have of1:=(uH O1).f 1;have of2:=(uH O1).f 2
 simp at p3 o1 o2
 go_wp2_with fail
 refine (toContS_any xo xl xc cs _ ((uH HR).below (yC (yC (uH HB1) _ _ _ (by omega)) _ _ _ (by omega))) hl).mono ?_
 rintro e w2 ⟨rfl,hq,hb⟩
 simp only [set_size] at hq
 have hz1:=(uH O1).lt
 have HB2:=hide (yB (yC (yC (uH HB1) _ _ _ (show w.heap.size≤w.heap.size+1+1 by omega)) _ _ _ (show w.heap.size≤w.heap.size+1+1 by omega)) hb)
 have R2:=hide ((((uH R1).other _ _ _ (show w.heap.size+1≠w.heap.size+1+1 by omega)).other _ _ _ (show w.heap.size+1≠w.heap.size+1+1 by omega)).below hb)
 have O2:=hide (show Blk w2 (w.heap.size+1+1) #[.string (bs name),.int .i64 mem,.int .i64 cpu,.slice none 0 0] 71 from (((uH O1).set 1 _).set 2 _).below hb)
 obtain ⟨g2,hg2⟩:∃g,w1.heap.size=g:=⟨_,rfl⟩
 simp only [set_size]
 rw [hg2] at hq hz1 ⊢
 have C2:=hide hq
 have z2:=hq.lt
 clear hb P1 R1 O1 HB1 HR hq p3 o1 o2 of1 of2 hg2
 have o3:=(uH O2).at 3
 have of3:=(uH O2).f 3
 simp at o3
 go_upto_region 5 with fail
 have HB3:=hide (yC (uH HB2) (w.heap.size+1+1) 3 (.slice (some ⟨g2,0,none⟩) xl xl) (by omega))
 have R3:=hide ((uH R2).other (w.heap.size+1+1) 3 (.slice (some ⟨g2,0,none⟩) xl xl) (by omega))
 have O3:=hide (show Blk (w2.setCell ⟨w.heap.size+1+1,3,none⟩ (.slice (some ⟨g2,0,none⟩) xl xl)) (w.heap.size+1+1) #[.string (bs name),.int .i64 mem,.int .i64 cpu,.slice (some ⟨g2,0,none⟩) xl xl] 71 from (uH O2).set 3 _)
 have C3:=hide ((uH C2).other (w.heap.size+1+1) 3 (.slice (some ⟨g2,0,none⟩) xl xl) (by omega))
 generalize w2.setCell ⟨w.heap.size+1+1,3,none⟩ (.slice (some ⟨g2,0,none⟩) xl xl)=w3 at HB3 R3 O3 C3 ⊢
 clear o3 of3 HB2 R2 O2 C2
 refine wp_region_lit ?_
 refine wpList_same (v:=.agg #[.string (bs name),.int .i64 mem,.int .i64 cpu,.slice (some ⟨g2,0,none⟩) xl xl]) (d:=some 15) rfl rfl (run_v (ns_load 71 (uH O3) Tryz.underlying71 rfl (by kernel_rfl))) ?_
 simp only [zW]
 refine wpList_none (d:=none) rfl rfl (run_u (ns_store 71 (uH R3) (by kernel_rfl) rfl (by kernel_rfl))) ?_
 simp only [Act.put]
 have M:=ns_mks (uH R3) #[.string (bs name),.int .i64 mem,.int .i64 cpu,.slice (some ⟨g2,0,none⟩) xl xl] rfl
 have R4:=hide (ns_blk (uH R3) #[.string (bs name),.int .i64 mem,.int .i64 cpu,.slice (some ⟨g2,0,none⟩) xl xl])
 have HB4:=hide ((uH HB3).trans (M.below (fun k e=>by subst e;omega) (uH HB3).size))
 have C4:=hide (conblk_mks (uH C3) M (by omega))
 clear M HB3 R3 O3 C3
 generalize World.setRow w3 (w.heap.size+1) #[.string (bs name),.int .i64 mem,.int .i64 cpu,.slice (some ⟨g2,0,none⟩) xl xl]=w4 at R4 HB4 C4 ⊢
 have r0:=(uH R4).at 0;have r1:=(uH R4).at 1;have r2:=(uH R4).at 2;have r3:=(uH R4).at 3
 simp at r0 r1 r2 r3
 clear R4
 go_wp2
 exact bodyPost_ret (v:=agtv name mem cpu (some ⟨g2,0,none⟩) xl xl) (by simp [results,Tryz.results44,go_sem,r0,r1,r2,r3]) rfl ⟨_,rfl,by omega,uH C4,uH HB4⟩
theorem agtInfo:(Tryz.prog.info? 71).map (fun i=>(i.zero,i.size,i.bytes))=some (some (agtv [] 0 0 none 0 0),4,56):=by kernel_rfl
theorem make_agts (n:Nat) (hn:n≤1048576) (w:World) :
  (Instr.makeSlice 46 (.int .i64 (n:Int)) (.int .i64 (n:Int))).run Tryz.prog w=.ok (.slice (some ⟨w.heap.size,0,none⟩) n n) (w.alloc (.cells (madeCells (agtv [] 0 0 none 0 0).cells (n*4)) 71)):=by
 obtain ⟨i,hi,hz⟩:=Option.map_eq_some_iff.1 agtInfo
 simp only [Prod.mk.injEq] at hz
 obtain ⟨hz,hs,hb⟩:=hz
 have hr:=run_make (P:=Tryz.prog) w 46 71 i _ Tryz.underlying46 hi hz .i64 .i64 n n (by omega) (Int.le_refl _) (by rw [hb];omega) (by omega)
 simp only [Int.toNat_natCast,hs] at hr
 exact hr
theorem toAgentS_any (ao:Option Addr) (len cap:Nat) (l:List Agt) (w:World) (h:AgtRow w ao len l) (hl:len≤1048576) (hk:∀q ∈ l,q.cs.length≤1048576) :
  Calls Tryz.prog 18 #[.slice ao len cap] w fun e w'=>e=.returned (.slice (some ⟨w.heap.size,0,none⟩) len len)∧AgtBlk w' 71 w.heap.size len len l∧Below w.heap.size w w':=by
 have HR:=hide h
 have HL:=hide h.1
 have HK:=hide hk
 have hmk:=make_agts len hl w
 obtain ⟨zs,hzs⟩:∃z,z=(agtv [] 0 0 none 0 0).cells:=⟨_,rfl⟩
 rw [←hzs] at hmk
 clear h hzs hk
 go_enter Tryz.func18,Tryz.ntmps18
 go_wp2
 clear hmk
 go_loopw [4] (fun i wr=>∃k:Nat,k≤len∧i=.int .i64 k∧Hid (AgtBlk wr 71 w.heap.size len k l)∧Hid (Below w.heap.size w wr)) (fun i _=>len - (intOf i).toNat)
 case atStart=>exact ⟨0,Nat.zero_le _,rfl,hide (agtblk_made w _ _ _ _),hide (yA (yH _ _) _)⟩
 case round=>
  obtain ⟨k,hk,rfl,HQ,HB⟩:=hrel
  by_cases hlt:k<len
  ·obtain ⟨b,off,rfl,hq⟩:=((uH HR).below (uH HB)).at hlt
   have hkl:k<l.length:=by have:=uH HL;omega
   have hkn:=uH HK l[k] (yM _)
   obtain ⟨xo,xl,xc,c0,c1,c2,c3,hrow⟩:=hq hkl
   have hst:=fun wx (hx:AgtBlk wx 71 w.heap.size len k l) xo xl xc (h0:CsOwn wx w.heap.size xo xl xc l[k].cs)=>hx.step hlt hkl xo xl xc h0
   obtain ⟨q,hs⟩:∃q,l[k]=q:=⟨_,rfl⟩
   rw [hs] at c0 c1 c2 hst hrow hkn
   obtain ⟨name,mem,cpu,cs⟩:=q
   simp only at c0 c1 c2 hst hrow hkn
   have HXL:=hide hrow.1
   have hxl:xl≤1048576:=by have:=hrow.1;omega
   have HST:=hide hst
   have HROW:=hide hrow
   have hsz:=(uH HQ).lt
   clear hst hq hs hkl hrow hkn
   go_wp2_with fail
   refine (toAgent_any name mem cpu xo xl xc cs _ (uH HROW) hxl).mono ?_
   rintro e w1 ⟨g1,rfl,hg1,hab,hb⟩
   have HQ1:=hide ((uH HQ).below hb)
   have HB1:=hide (yB (uH HB) hb)
   have HO:=hide (show CsOwn w1 w.heap.size (some ⟨g1,0,none⟩) xl xl cs from ⟨hab.row (uH HXL),rfl,g1,rfl,by omega,conblk_any hab⟩)
   clear hb c0 c1 c2 c3 hab
   obtain ⟨v0,d0⟩:=(uH HQ1).cell (j:=k*4) (by omega)
   obtain ⟨v1,d1⟩:=(uH HQ1).cell (j:=k*4+1) (by omega)
   obtain ⟨v2,d2⟩:=(uH HQ1).cell (j:=k*4+2) (by omega)
   obtain ⟨v3,d3⟩:=(uH HQ1).cell (j:=k*4+3) (by omega)
   have f0:=(uH HQ1).frozen (k*4)
   have f1:=(uH HQ1).frozen (k*4+1)
   have f2:=(uH HQ1).frozen (k*4+2)
   have f3:=(uH HQ1).frozen (k*4+3)
   go_wp2
   go_roundw
   case rel=>exact ⟨k+1,by omega,by go_num,hide (uH HST _ (uH HQ1) _ _ _ (uH HO)),hide (yC (yC (yC (yC (uH HB1) _ _ _ (by omega)) _ _ _ (by omega)) _ _ _ (by omega)) _ _ _ (by omega))⟩
   case measure=>simp [intOf];omega
  ·have hkk:k=len:=by omega
   subst hkk
   go_wp2
   go_ret
   exact ⟨rfl,uH HQ,uH HB⟩
def Hi (b:Nat) (w w':World):Prop:=w.heap.size≤w'.heap.size∧∀k,b<k→k<w.heap.size→w'.heap[k]? = w.heap[k]?
theorem hi_row (w:World) (b:Nat) (arr:Array Value):Hi b w (w.setRow b arr):=⟨by rw [setRow_size];exact yJ _,fun k h1 _=>setRow_other w b k arr (by omega)⟩
theorem hi_cell {b:Nat} {w w':World} (h:Hi b w w') {k j:Nat} (hk:b<k) {v:Value} (hc:w.cell? ⟨k,j,none⟩=some v):w'.cell? ⟨k,j,none⟩=some v:=(World.cell?_of_block (w:=w) (h.2 k hk (yG hc))).trans hc
theorem Cel.hi {b:Nat} {w w':World} (h:Hi b w w') {t:TypeId} {g N:Nat} (hg:b<g) (hc:Cel w t g N):Cel w' t g N:=let ⟨arr,h1,h2⟩:=hc;⟨arr,(h.2 g hg (lt_of_block h1)).trans h1,h2⟩
theorem ConRow.hi {b:Nat} {w w':World} (h:Hi b w w') {ao:Option Addr} {len:Nat} {l:List Con} (hr:ConRow w ao len l) (hg:∀c o,ao=some ⟨c,o,none⟩→b<c):ConRow w' ao len l:=by
 obtain ⟨h1,h2⟩:=hr
 refine ⟨h1,?_⟩
 rcases h2 with h2 | ⟨c,off,h3,h4⟩
 ·exact .inl h2
 ·have hc:=hg c off h3
  exact .inr ⟨c,off,h3,fun i hi=>let ⟨a,b,c,d,e⟩:=h4 i hi;⟨hi_cell h hc a,hi_cell h hc b,hi_cell h hc c,hi_cell h hc d,hi_cell h hc e⟩⟩
theorem NRow.hi {b:Nat} {w w':World} (h:Hi b w w') {ao:Option Addr} {len:Nat} {l:List Int} (hr:NRow w ao len l) (hg:∀c o,ao=some ⟨c,o,none⟩→b<c):NRow w' ao len l:=by
 obtain ⟨h1,h2⟩:=hr
 refine ⟨h1,?_⟩
 rcases h2 with h2 | ⟨c,off,h3,h4⟩
 ·exact .inl h2
 ·exact .inr ⟨c,off,h3,fun i hi=>hi_cell h (hg c off h3) (h4 i hi)⟩
theorem AskRow.hi {b:Nat} {w w':World} (h:Hi b w w') {ao:Option Addr} {len:Nat} {l:List Ask} (hr:AskRow w ao len l) (hg:∀c o,ao=some ⟨c,o,none⟩→b<c):AskRow w' ao len l:=by
 obtain ⟨h1,h2⟩:=hr
 refine ⟨h1,?_⟩
 rcases h2 with h2 | ⟨c,off,h3,h4⟩
 ·exact .inl h2
 ·have hc:=hg c off h3
  exact .inr ⟨c,off,h3,fun i hi=>let ⟨a,b,c,d,e⟩:=h4 i hi;⟨hi_cell h hc a,hi_cell h hc b,hi_cell h hc c,hi_cell h hc d,hi_cell h hc e⟩⟩
theorem blk0_hi {b:Nat} {w w':World} (h:Hi b w w') {t:TypeId} {g n:Nat} (hg:b<g) (hc:ConBlk w t g n 0 []):ConBlk w' t g n 0 []:=let ⟨arr,h1,h2⟩:=hc;⟨arr,(h.2 g hg (lt_of_block h1)).trans h1,h2⟩
theorem iblk0_hi {b:Nat} {w w':World} (h:Hi b w w') {t:TypeId} {g n:Nat} (hg:b<g) (hc:IBlk w t g n 0 []):IBlk w' t g n 0 []:=let ⟨arr,h1,h2⟩:=hc;⟨arr,(h.2 g hg (lt_of_block h1)).trans h1,h2⟩
theorem CsOwn.hi {b g:Nat} {w w':World} (h:Hi b w w') {ao:Option Addr} {len cap:Nat} {l:List Con} (hg:b<g) (ho:CsOwn w g ao len cap l):CsOwn w' g ao len cap l:=by
 obtain ⟨h1,h2,c,rfl,h3,h4⟩:=ho
 exact ⟨h1.hi h (fun c' o e=>by cases e;omega),h2,c,rfl,h3,blk0_hi h (by omega) h4⟩
theorem KlOwn.hi {b g:Nat} {w w':World} (h:Hi b w w') {ao:Option Addr} {len cap:Nat} {l:List Int} (hg:b<g) (ho:KlOwn w g ao len cap l):KlOwn w' g ao len cap l:=by
 obtain ⟨h1,h2,c,rfl,h3,h4⟩:=ho
 exact ⟨h1.hi h (fun c' o e=>by cases e;omega),h2,c,rfl,h3,iblk0_hi h (by omega) h4⟩
theorem RplBlk.hi {b:Nat} {w w':World} (hh:Hi b w w') {t:TypeId} {g n k:Nat} {l:List Rpl} (hb:b<g) (h:RplBlk w t g n k l):RplBlk w' t g n k l:=by
 obtain ⟨arr,h1,h2,h3⟩:=h
 exact ⟨arr,(hh.2 g hb (lt_of_block h1)).trans h1,h2,fun i hi hk=>let ⟨s0,s1,xo,xl,xc,yo,yl,yc,t0,t1,o0,o1⟩:=h3 i hi hk;⟨s0,s1,xo,xl,xc,yo,yl,yc,t0,t1,o0.hi hh hb,o1.hi hh hb⟩⟩
theorem AgtBlk.hi {b:Nat} {w w':World} (hh:Hi b w w') {t:TypeId} {g n k:Nat} {l:List Agt} (hb:b<g) (h:AgtBlk w t g n k l):AgtBlk w' t g n k l:=by
 obtain ⟨arr,h1,h2,h3⟩:=h
 exact ⟨arr,(hh.2 g hb (lt_of_block h1)).trans h1,h2,fun i hi hk=>let ⟨s0,s1,s2,xo,xl,xc,t0,o0⟩:=h3 i hi hk;⟨s0,s1,s2,xo,xl,xc,t0,o0.hi hh hb⟩⟩
theorem askblk0_hi {b:Nat} {w w':World} (h:Hi b w w') {t:TypeId} {g n:Nat} (hg:b<g) (hc:AskBlk w t g n 0 []):AskBlk w' t g n 0 []:=let ⟨arr,h1,h2⟩:=hc;⟨arr,(h.2 g hg (lt_of_block h1)).trans h1,h2⟩
theorem AskOwn.hi {b g:Nat} {w w':World} (h:Hi b w w') {ao:Option Addr} {len cap:Nat} {l:List Ask} (hg:b<g) (ho:AskOwn w g ao len cap l):AskOwn w' g ao len cap l:=
 ⟨ho.1.hi h (fun c o e=>by have:=ho.2.2.1 c o e;omega),ho.2.1,ho.2.2.1,let ⟨c,e,d,f⟩:=ho.2.2.2;⟨c,e,d,askblk0_hi h (by have:=ho.2.2.1 c 0 e;omega) f⟩⟩
theorem SOwn4.hi {b:Nat} {w w':World} (hh:Hi b w w') {g1 g2 g3 g4 ql al ml cl:Nat} {s:St} (hb:b<g1∧b<g2∧b<g3∧b<g4) (h:SOwn4 w g1 g2 g3 g4 ql al ml cl s):SOwn4 w' g1 g2 g3 g4 ql al ml cl s:=by
 obtain ⟨⟨q1,q2,q3⟩,⟨a1,a2,a3,a4⟩,⟨m1,m2,m3⟩,⟨c1,c2,c3⟩⟩:=h
 exact ⟨⟨q1,(hh.2 _ hb.1 (lt_of_block q2)).trans q2,q3⟩,⟨a1,(hh.2 _ hb.2.1 (lt_of_block a2)).trans a2,a3,fun i hi hk=>let ⟨x,y,ao,len,cap,e,o⟩:=a4 i hi hk;⟨x,y,ao,len,cap,e,o.hi hh hb.2.1⟩⟩,⟨m1,(hh.2 _ hb.2.2.1 (lt_of_block m2)).trans m2,m3⟩,⟨c1,(hh.2 _ hb.2.2.2 (lt_of_block c2)).trans c2,c3⟩⟩
theorem AWh.hi {b:Nat} {w w':World} (hh:Hi b w w') {B E g n:Nat} (hb:b<g∧b<B) (h:AWh w B E g n):AWh w' B E g n:=
 ⟨h.1.hi hh hb.1,fun i hi=>let ⟨c,len,a,k,d⟩:=h.2 i hi;⟨c,len,hi_cell hh hb.1 a,k.hi hh (by omega),d⟩⟩
theorem RWh.hi {b:Nat} {w w':World} (hh:Hi b w w') {B E g n:Nat} (hb:b<g∧b<B) (h:RWh w B E g n):RWh w' B E g n:=
 ⟨h.1.hi hh hb.1,fun i hi=>let ⟨c,xl,d,yl,a1,a2,k1,k2,e⟩:=h.2 i hi;⟨c,xl,d,yl,hi_cell hh hb.1 a1,hi_cell hh hb.1 a2,k1.hi hh (by omega),k2.hi hh (by omega),e⟩⟩
theorem GWh.hi {b:Nat} {w w':World} (hh:Hi b w w') {B E g n:Nat} (hb:b<g∧b<B) (h:GWh w B E g n):GWh w' B E g n:=
 ⟨h.1.hi hh hb.1,fun i hi=>let ⟨c,xl,a1,k1,e⟩:=h.2 i hi;⟨c,xl,hi_cell hh hb.1 a1,k1.hi hh (by omega),e⟩⟩
def MMd (w:World) (B E:Nat) (y:Mgs) (m:Mgr):Prop:=∃M g1 g2 g3 g4 gw,y.x=own4 g1 g2 g3 g4 y.x.ql y.x.al y.x.ml y.x.cl∧y.wo=some ⟨gw,0,none⟩∧y.wc=y.wl∧SLen y.x m.s∧y.wl=m.wait.length∧SOwn4 w g1 g2 g3 g4 y.x.ql y.x.al y.x.ml y.x.cl m.s∧AWh w B M g2 y.x.al∧(B≤g1∧g1<g2∧g2<g3∧g3<g4∧g4<M)∧RplBlk w 110 gw y.wl y.wl m.wait∧RWh w M E gw y.wl∧M≤gw∧gw<E
theorem MMd.hi {b:Nat} {w w':World} (hh:Hi b w w') {B E:Nat} {y:Mgs} {m:Mgr} (hb:b<B) (h:MMd w B E y m):MMd w' B E y m:=by
 obtain ⟨M,g1,g2,g3,g4,gw,e1,e2,e3,e4,e5,h1,h2,h3,h4,h5,h6,h7⟩:=h
 exact ⟨M,g1,g2,g3,g4,gw,e1,e2,e3,e4,e5,h1.hi hh ⟨by omega,by omega,by omega,by omega⟩,h2.hi hh ⟨by omega,by omega⟩,h3,h4.hi hh (by omega),h5.hi hh ⟨by omega,by omega⟩,h6,h7⟩
theorem MMd.below {w w':World} {B E:Nat} {y:Mgs} {m:Mgr} (h:MMd w B E y m) (hb:Below w.heap.size w w'):MMd w' B E y m:=by
 obtain ⟨M,g1,g2,g3,g4,gw,e1,e2,e3,e4,e5,h1,h2,h3,h4,h5,h6,h7⟩:=h
 exact ⟨M,g1,g2,g3,g4,gw,e1,e2,e3,e4,e5,h1.below hb,h2.below hb,h3,h4.below hb,h5.below hb,h6,h7⟩
theorem MMd.row {w:World} {B E:Nat} {y:Mgs} {m:Mgr} (h:MMd w B E y m):MRow w y m:=by
 obtain ⟨M,g1,g2,g3,g4,gw,e1,e2,e3,e4,e5,h1,h2,h3,h4,h5,h6,h7⟩:=h
 refine ⟨by rw [e1];exact h1.row e4,?_⟩
 rw [e2]
 exact h4.row e5
theorem MMd.base {w:World} {B B' E:Nat} {y:Mgs} {m:Mgr} (h:MMd w B E y m) (hb:B'≤B):MMd w B' E y m:=by
 obtain ⟨M,g1,g2,g3,g4,gw,e1,e2,e3,e4,e5,h1,h2,h3,h4,h5,h6,h7⟩:=h
 exact ⟨M,g1,g2,g3,g4,gw,e1,e2,e3,e4,e5,h1,h2.mono hb (yJ _),⟨by omega,h3.2⟩,h4,h5,h6,h7⟩
def CMd (w:World) (B E:Nat) (z:Cls) (c:Clu):Prop:=∃M1 M2 ga gt,MMd w B M1 z.y c.m∧z.go=some ⟨ga,0,none⟩∧z.gc=z.gl∧z.gl=c.ags.length∧AgtBlk w 71 ga z.gl z.gl c.ags∧GWh w M1 M2 ga z.gl∧M1≤ga∧ga<M2∧z.eo=some ⟨gt,0,none⟩∧z.tc=z.tl∧z.tl=c.told.length∧RplBlk w 110 gt z.tl z.tl c.told∧RWh w M2 E gt z.tl∧M2≤gt∧gt<E∧B≤M1
theorem CMd.below {w w':World} {B E:Nat} {z:Cls} {c:Clu} (h:CMd w B E z c) (hb:Below w.heap.size w w'):CMd w' B E z c:=by
 obtain ⟨M1,M2,ga,gt,h1,e1,e2,e3,h2,h3,h4,h5,e4,e5,e6,h6,h7,h8⟩:=h
 exact ⟨M1,M2,ga,gt,h1.below hb,e1,e2,e3,h2.below hb,h3.below hb,h4,h5,e4,e5,e6,h6.below hb,h7.below hb,h8⟩
theorem CMd.hi {b:Nat} {w w':World} (hh:Hi b w w') {B E:Nat} {z:Cls} {c:Clu} (hb:b<B) (h:CMd w B E z c):CMd w' B E z c:=by
 obtain ⟨M1,M2,ga,gt,h1,e1,e2,e3,h2,h3,h4,h5,e4,e5,e6,h6,h7,h8⟩:=h
 exact ⟨M1,M2,ga,gt,h1.hi hh hb,e1,e2,e3,h2.hi hh (by omega),h3.hi hh ⟨by omega,by omega⟩,h4,h5,e4,e5,e6,h6.hi hh (by omega),h7.hi hh ⟨by omega,by omega⟩,h8⟩
theorem CMd.row {w:World} {B E:Nat} {z:Cls} {c:Clu} (h:CMd w B E z c):CRow w z c:=by
 obtain ⟨M1,M2,ga,gt,h1,e1,e2,e3,h2,h3,h4,h5,e4,e5,e6,h6,h7,h8⟩:=h
 refine ⟨h1.row,?_,?_⟩
 ·rw [e1];exact h2.row e3
 ·rw [e4];exact h6.row e6
theorem eqReply_same (code app:Int) (xo xo':Option Addr) (xl xc xc':Nat) (yo yo':Option Addr) (yl yc yc':Nat) (cs:List Con) (kill:List Int) (w:World) (h:ConRow w xo xl cs) (h':ConRow w xo' xl cs) (k:NRow w yo yl kill) (k':NRow w yo' yl kill) (hl:xl≤1048576) (hl':yl≤1048576) :
  Calls Tryz.prog 62 #[rplv code app xo xl xc yo yl yc,rplv code app xo' xl xc' yo' yl yc'] w fun e w'=>e=.returned (.bool true)∧Below w.heap.size w w':=by
 have HB0:=hide (yA (yA (yH _ w) (.cells #[.int .i64 code,.int .i64 app,.slice xo xl xc,.slice yo yl yc] 110)) (.cells #[.int .i64 code,.int .i64 app,.slice xo' xl xc',.slice yo' yl yc'] 110))
 have P0:=hide ((yD w #[.int .i64 code,.int .i64 app,.slice xo xl xc,.slice yo yl yc] 110).al (.cells #[.int .i64 code,.int .i64 app,.slice xo' xl xc',.slice yo' yl yc'] 110))
 have P1:=hide (show Blk _ (w.heap.size+1) #[.int .i64 code,.int .i64 app,.slice xo' xl xc',.slice yo' yl yc'] 110 by have:=yD (w.alloc (.cells #[.int .i64 code,.int .i64 app,.slice xo xl xc,.slice yo yl yc] 110)) #[.int .i64 code,.int .i64 app,.slice xo' xl xc',.slice yo' yl yc'] 110;rwa [yE] at this)
 have C:=hide (fun wx (hb:Below w.heap.size w wx)=>eqContS_same xo xo' xl xc xc' cs wx (h.below hb) (h'.below hb) hl)
 have C2:=hide (fun wx (hb:Below w.heap.size w wx)=>eqIntS_same yo yo' yl yc yc' kill wx (k.below hb) (k'.below hb) hl')
 clear h h' k k'
 go_enter Tryz.func62,Tryz.ntmps62
 go_wp2_with fail
 refine (uH C _ ?_).mono ?_
 ·first | exact uH HB0 | exact (uH HB0).drew | exact (uH HB0).drew.drew | exact below_dn (uH HB0) _
 rintro e w1 ⟨rfl,hb⟩
 have HB1:=hide (show Below w.heap.size w w1 by first | exact yB (uH HB0) hb | exact yB (uH HB0).drew hb | exact yB (uH HB0).drew.drew hb | exact yB (below_dn (uH HB0) _) hb)
 have Q0:=hide (show Blk w1 w.heap.size _ _ from by first | exact (uH P0).below hb | exact Blk.below (w:=_) (uH P0) hb)
 have Q1:=hide (show Blk w1 (w.heap.size+1) _ _ from by first | exact (uH P1).below hb | exact Blk.below (w:=_) (uH P1) hb)
 clear hb C HB0 P0 P1
 have a3:=(uH Q0).at 3
 have b3:=(uH Q1).at 3
 simp at a3 b3
 go_wp2_with fail
 refine (uH C2 _ (uH HB1)).mono ?_
 rintro e w2 ⟨rfl,hb⟩
 have HB2:=hide (yB (uH HB1) hb)
 clear hb C2 HB1 Q0 Q1 a3 b3
 go_wp2
 go_ret
 exact ⟨rfl,uH HB2⟩
def RplTwo (w0:World) (b p c r:Nat) (q:Rpl) (xo:Option Addr) (xl xc:Nat) (yo:Option Addr) (yl yc:Nat) (xo':Option Addr) (xc':Nat) (yo':Option Addr) (yc':Nat) (w:World):Prop:=RplAt w b p q xo xl xc yo yl yc∧RplAt w c r q xo' xl xc' yo' yl yc'∧Below w0.heap.size w0 w
theorem RplTwo.call {w0 w w':World} {b p c r:Nat} {q:Rpl} {xo:Option Addr} {xl xc:Nat} {yo:Option Addr} {yl yc:Nat} {xo':Option Addr} {xc':Nat} {yo':Option Addr} {yc':Nat} (h:RplTwo w0 b p c r q xo xl xc yo yl yc xo' xc' yo' yc' w) (hb:Below w.heap.size w w'):RplTwo w0 b p c r q xo xl xc yo yl yc xo' xc' yo' yc' w':=⟨h.1.below hb,h.2.1.below hb,yB h.2.2 hb⟩
theorem RplTwo.drew {w0 w:World} {b p c r:Nat} {q:Rpl} {xo:Option Addr} {xl xc:Nat} {yo:Option Addr} {yl yc:Nat} {xo':Option Addr} {xc':Nat} {yo':Option Addr} {yc':Nat} (h:RplTwo w0 b p c r q xo xl xc yo yl yc xo' xc' yo' yc' w):RplTwo w0 b p c r q xo xl xc yo yl yc xo' xc' yo' yc' w.drew:=h.call (yH _ _).drew
theorem RplTwo.read (w0:World) (b p c r:Nat) (q:Rpl) (xo:Option Addr) (xl xc:Nat) (yo:Option Addr) (yl yc:Nat) (xo':Option Addr) (xc':Nat) (yo':Option Addr) (yc':Nat):∀wx,RplTwo w0 b p c r q xo xl xc yo yl yc xo' xc' yo' yc' wx→wx.cell? ⟨b,p,none⟩=some (.int .i64 q.code)∧wx.cell? ⟨b,p+1,none⟩=some (.int .i64 q.app)∧wx.cell? ⟨b,p+2,none⟩=some (.slice xo xl xc)∧wx.cell? ⟨b,p+3,none⟩=some (.slice yo yl yc)∧wx.cell? ⟨c,r,none⟩=some (.int .i64 q.code)∧wx.cell? ⟨c,r+1,none⟩=some (.int .i64 q.app)∧wx.cell? ⟨c,r+2,none⟩=some (.slice xo' xl xc')∧wx.cell? ⟨c,r+3,none⟩=some (.slice yo' yl yc'):=
 fun wx h=>⟨h.1.1,h.1.2.1,h.1.2.2.1,h.1.2.2.2.1,h.2.1.1,h.2.1.2.1,h.2.1.2.2.1,h.2.1.2.2.2.1⟩
theorem eqReplyS_same (ao bo:Option Addr) (len cap ccap:Nat) (l:List Rpl) (w:World) (h:RplRow w ao len l) (h':RplRow w bo len l) (hl:len≤1048576) (hk:∀q ∈ l,q.cs.length≤1048576∧q.kill.length≤1048576) :
  Calls Tryz.prog 34 #[.slice ao len cap,.slice bo len ccap] w fun e w'=>e=.returned (.bool true)∧Below w.heap.size w w':=by
 have HR:=hide h
 have HR':=hide h'
 have HL:=hide h.1
 have HK:=hide hk
 clear h h' hk
 go_enter Tryz.func34,Tryz.ntmps34
 go_wp2
 go_loopw [5] (fun i wr=>∃k:Nat,k≤len∧i=.int .i64 k∧Hid (Below w.heap.size w wr)) (fun i _=>len - (intOf i).toNat)
 case atStart=>exact ⟨0,Nat.zero_le _,rfl,hide (yH _ _)⟩
 case round=>
  obtain ⟨k,hk,rfl,HB⟩:=hrel
  by_cases hlt:k<len
  ·obtain ⟨b,off,rfl,hq⟩:=((uH HR).below (uH HB)).at hlt
   obtain ⟨c,coff,rfl,hq'⟩:=((uH HR').below (uH HB)).at hlt
   have hkl:k<l.length:=by have:=uH HL;omega
   obtain ⟨xo,xl,xc,yo,yl,yc,hx⟩:=hq hkl
   obtain ⟨xo',xl',xc',yo',yl',yc',hy⟩:=hq' hkl
   obtain rfl:xl=xl':=hx.2.2.2.2.1.1.trans hy.2.2.2.2.1.1.symm
   obtain rfl:yl=yl':=hx.2.2.2.2.2.1.trans hy.2.2.2.2.2.1.symm
   have hxl:xl≤1048576:=by have:=(uH HK l[k] (yM _)).1;have:=hx.2.2.2.2.1.1;omega
   have hyl:yl≤1048576:=by have:=(uH HK l[k] (yM _)).2;have:=hx.2.2.2.2.2.1;omega
   have A0:=hide (show RplTwo w b (off+k*4) c (coff+k*4) l[k] xo xl xc yo yl yc xo' xc' yo' yc' wr from ⟨hx,hy,uH HB⟩)
   obtain ⟨q,hs⟩:∃q,l[k]=q:=⟨_,rfl⟩
   rw [hs] at A0
   have R:=RplTwo.read w b (off+k*4) c (coff+k*4) q xo xl xc yo yl yc xo' xc' yo' yc'
   have k0:(0:Int)≤k:=by omega
   have k1:(k:Int)<len:=by omega
   clear hq hq' hs hkl hx hy
   go_wp2_with fail
   go_region_held3 (fun wx=>RplTwo w b (off+k*4) c (coff+k*4) q xo xl xc yo yl yc xo' xc' yo' yc' wx)
    (first | (with_reducible assumption) | exact (uH A0).drew | exact RplTwo.call (by assumption) (by assumption))
    (first
    | (go_at_call 62;refine (eqReply_same _ _ xo xo' xl xc xc' yo yo' yl yc yc' q.cs q.kill _ ?_ ?_ ?_ ?_ hxl hyl).mono ?_;(exact (show RplTwo w b (off+k*4) c (coff+k*4) q xo xl xc yo yl yc xo' xc' yo' yc' _ by assumption).1.2.2.2.2.1);(exact (show RplTwo w b (off+k*4) c (coff+k*4) q xo xl xc yo yl yc xo' xc' yo' yc' _ by assumption).2.1.2.2.2.2.1);(exact (show RplTwo w b (off+k*4) c (coff+k*4) q xo xl xc yo yl yc xo' xc' yo' yc' _ by assumption).1.2.2.2.2.2);(exact (show RplTwo w b (off+k*4) c (coff+k*4) q xo xl xc yo yl yc xo' xc' yo' yc' _ by assumption).2.1.2.2.2.2.2);rintro e wt ⟨rfl,hb⟩;have SA:=RplTwo.call (w0:=w) (b:=b) (p:=off+k*4) (c:=c) (r:=coff+k*4) (q:=q) (xo:=xo) (xl:=xl) (xc:=xc) (yo:=yo) (yl:=yl) (yc:=yc) (xo':=xo') (xc':=xc') (yo':=yo') (yc':=yc') (by assumption) hb))
   all_goals
    have HB2:=hide SA.2.2
    clear SA R A0
    go_wp2
    go_roundw
    case rel=>exact ⟨k+1,by omega,by go_num,HB2⟩
    case measure=>simp [intOf];omega
  ·go_wp2
   go_ret
   exact ⟨rfl,uH HB⟩
theorem eqAgent_same (name:List UInt8) (mem cpu:Int) (xo xo':Option Addr) (xl xc xc':Nat) (cs:List Con) (w:World) (h:ConRow w xo xl cs) (h':ConRow w xo' xl cs) (hl:xl≤1048576) :
  Calls Tryz.prog 49 #[agtv name mem cpu xo xl xc,agtv name mem cpu xo' xl xc'] w fun e w'=>e=.returned (.bool true)∧Below w.heap.size w w':=by
 have HB0:=hide (yA (yA (yH _ w) (.cells #[.string (bs name),.int .i64 mem,.int .i64 cpu,.slice xo xl xc] 71)) (.cells #[.string (bs name),.int .i64 mem,.int .i64 cpu,.slice xo' xl xc'] 71))
 have P0:=hide ((yD w #[.string (bs name),.int .i64 mem,.int .i64 cpu,.slice xo xl xc] 71).al (.cells #[.string (bs name),.int .i64 mem,.int .i64 cpu,.slice xo' xl xc'] 71))
 have P1:=hide (show Blk _ (w.heap.size+1) #[.string (bs name),.int .i64 mem,.int .i64 cpu,.slice xo' xl xc'] 71 by have:=yD (w.alloc (.cells #[.string (bs name),.int .i64 mem,.int .i64 cpu,.slice xo xl xc] 71)) #[.string (bs name),.int .i64 mem,.int .i64 cpu,.slice xo' xl xc'] 71;rwa [yE] at this)
 have C:=hide (fun wx (hb:Below w.heap.size w wx)=>eqContS_same xo xo' xl xc xc' cs wx (h.below hb) (h'.below hb) hl)
 clear h h'
 go_enter Tryz.func49,Tryz.ntmps49
 go_wp2_with fail
 refine (eqRes_ex _ _ _).mono ?_
 rintro e w1 ⟨rfl,o1,o2,n,rfl⟩
 have HB1:=hide (below_dn (yA (yA (uH HB0) o1) o2) n)
 have hbn:=below_dn (yA (yA (yH _ ((w.alloc (.cells #[.string (bs name),.int .i64 mem,.int .i64 cpu,.slice xo xl xc] 71)).alloc (.cells #[.string (bs name),.int .i64 mem,.int .i64 cpu,.slice xo' xl xc'] 71))) o1) o2) n
 have Q0:=hide ((uH P0).below hbn)
 have Q1:=hide ((uH P1).below hbn)
 generalize ((((w.alloc (.cells #[.string (bs name),.int .i64 mem,.int .i64 cpu,.slice xo xl xc] 71)).alloc (.cells #[.string (bs name),.int .i64 mem,.int .i64 cpu,.slice xo' xl xc'] 71)).alloc o1).alloc o2).drewN n=w1 at HB1 Q0 Q1 ⊢
 clear HB0 P0 P1 hbn o1 o2 n
 have a3:=(uH Q0).at 3
 have b3:=(uH Q1).at 3
 simp at a3 b3
 go_wp2_with fail
 refine (uH C _ (uH HB1)).mono ?_
 rintro e w2 ⟨rfl,hb⟩
 have HB2:=hide (yB (uH HB1) hb)
 clear hb C HB1 Q0 Q1 a3 b3
 go_wp2
 go_ret
 exact ⟨rfl,uH HB2⟩
def AgtTwo (w0:World) (b p c r:Nat) (q:Agt) (xo:Option Addr) (xl xc:Nat) (xo':Option Addr) (xc':Nat) (w:World):Prop:=AgtAt w b p q xo xl xc∧AgtAt w c r q xo' xl xc'∧Below w0.heap.size w0 w
theorem AgtTwo.call {w0 w w':World} {b p c r:Nat} {q:Agt} {xo:Option Addr} {xl xc:Nat} {xo':Option Addr} {xc':Nat} (h:AgtTwo w0 b p c r q xo xl xc xo' xc' w) (hb:Below w.heap.size w w'):AgtTwo w0 b p c r q xo xl xc xo' xc' w':=⟨h.1.below hb,h.2.1.below hb,yB h.2.2 hb⟩
theorem AgtTwo.drew {w0 w:World} {b p c r:Nat} {q:Agt} {xo:Option Addr} {xl xc:Nat} {xo':Option Addr} {xc':Nat} (h:AgtTwo w0 b p c r q xo xl xc xo' xc' w):AgtTwo w0 b p c r q xo xl xc xo' xc' w.drew:=h.call (yH _ _).drew
theorem AgtTwo.read (w0:World) (b p c r:Nat) (q:Agt) (xo:Option Addr) (xl xc:Nat) (xo':Option Addr) (xc':Nat):∀wx,AgtTwo w0 b p c r q xo xl xc xo' xc' wx→wx.cell? ⟨b,p,none⟩=some (.string (bs q.name))∧wx.cell? ⟨b,p+1,none⟩=some (.int .i64 q.mem)∧wx.cell? ⟨b,p+2,none⟩=some (.int .i64 q.cpu)∧wx.cell? ⟨b,p+3,none⟩=some (.slice xo xl xc)∧wx.cell? ⟨c,r,none⟩=some (.string (bs q.name))∧wx.cell? ⟨c,r+1,none⟩=some (.int .i64 q.mem)∧wx.cell? ⟨c,r+2,none⟩=some (.int .i64 q.cpu)∧wx.cell? ⟨c,r+3,none⟩=some (.slice xo' xl xc'):=
 fun wx h=>⟨h.1.1,h.1.2.1,h.1.2.2.1,h.1.2.2.2.1,h.2.1.1,h.2.1.2.1,h.2.1.2.2.1,h.2.1.2.2.2.1⟩
theorem eqAgentS_same (ao bo:Option Addr) (len cap ccap:Nat) (l:List Agt) (w:World) (h:AgtRow w ao len l) (h':AgtRow w bo len l) (hl:len≤1048576) (hk:∀q ∈ l,q.cs.length≤1048576) :
  Calls Tryz.prog 21 #[.slice ao len cap,.slice bo len ccap] w fun e w'=>e=.returned (.bool true)∧Below w.heap.size w w':=by
 have HR:=hide h
 have HR':=hide h'
 have HL:=hide h.1
 have HK:=hide hk
 clear h h' hk
 go_enter Tryz.func21,Tryz.ntmps21
 go_wp2
 go_loopw [5] (fun i wr=>∃k:Nat,k≤len∧i=.int .i64 k∧Hid (Below w.heap.size w wr)) (fun i _=>len - (intOf i).toNat)
 case atStart=>exact ⟨0,Nat.zero_le _,rfl,hide (yH _ _)⟩
 case round=>
  obtain ⟨k,hk,rfl,HB⟩:=hrel
  by_cases hlt:k<len
  ·obtain ⟨b,off,rfl,hq⟩:=((uH HR).below (uH HB)).at hlt
   obtain ⟨c,coff,rfl,hq'⟩:=((uH HR').below (uH HB)).at hlt
   have hkl:k<l.length:=by have:=uH HL;omega
   obtain ⟨xo,xl,xc,hx⟩:=hq hkl
   obtain ⟨xo',xl',xc',hy⟩:=hq' hkl
   obtain rfl:xl=xl':=hx.2.2.2.2.1.trans hy.2.2.2.2.1.symm
   have hxl:xl≤1048576:=by have:=uH HK l[k] (yM _);have:=hx.2.2.2.2.1;omega
   have A0:=hide (show AgtTwo w b (off+k*4) c (coff+k*4) l[k] xo xl xc xo' xc' wr from ⟨hx,hy,uH HB⟩)
   obtain ⟨q,hs⟩:∃q,l[k]=q:=⟨_,rfl⟩
   rw [hs] at A0
   have R:=AgtTwo.read w b (off+k*4) c (coff+k*4) q xo xl xc xo' xc'
   have k0:(0:Int)≤k:=by omega
   have k1:(k:Int)<len:=by omega
   clear hq hq' hs hkl hx hy
   go_wp2_with fail
   go_region_held3 (fun wx=>AgtTwo w b (off+k*4) c (coff+k*4) q xo xl xc xo' xc' wx)
    (first | (with_reducible assumption) | exact (uH A0).drew | exact AgtTwo.call (by assumption) (by assumption))
    (first
    | (go_at_call 49;refine (eqAgent_same _ _ _ xo xo' xl xc xc' q.cs _ ?_ ?_ hxl).mono ?_;(exact (show AgtTwo w b (off+k*4) c (coff+k*4) q xo xl xc xo' xc' _ by assumption).1.2.2.2.2);(exact (show AgtTwo w b (off+k*4) c (coff+k*4) q xo xl xc xo' xc' _ by assumption).2.1.2.2.2.2);rintro e wt ⟨rfl,hb⟩;have SA:=AgtTwo.call (w0:=w) (b:=b) (p:=off+k*4) (c:=c) (r:=coff+k*4) (q:=q) (xo:=xo) (xl:=xl) (xc:=xc) (xo':=xo') (xc':=xc') (by assumption) hb))
   all_goals
    have HB2:=hide SA.2.2
    clear SA R A0
    go_wp2
    go_roundw
    case rel=>exact ⟨k+1,by omega,by go_num,HB2⟩
    case measure=>simp [intOf];omega
  ·go_wp2
   go_ret
   exact ⟨rfl,uH HB⟩
theorem eqManager_two (y y':Mgs) (m:Mgr) (w:World) (h:MRow w y m) (h':MRow w y' m) (hf:FitMgr m) :
  Calls Tryz.prog 33 #[mgrv y m,mgrv y' m] w fun e w'=>e=.returned (.bool true)∧Below w.heap.size w w':=by
 obtain ⟨k1,k2,k3,k4⟩:=h.1.len
 obtain ⟨l1,l2,l3,l4⟩:=h'.1.len
 have k5:=h.2.1
 have l5:=h'.2.1
 obtain ⟨⟨qa,ql,qc,aa,al,ac,ma,ml,mc,ca,cl,cc⟩,wo,wl,wc⟩:=y
 obtain ⟨⟨qs,clock,epoch,next,serial,apps,ms,cs⟩,log,safe,wait⟩:=m
 obtain ⟨⟨ra,rl,rc,ba,bl,bc,na,nl,nc,da,dl,dc⟩,vo,vl,vc⟩:=y'
 simp only at k1 k2 k3 k4 k5 l1 l2 l3 l4 l5
 obtain rfl:ql=rl:=k1.trans l1.symm
 obtain rfl:al=bl:=k2.trans l2.symm
 obtain rfl:ml=nl:=k3.trans l3.symm
 obtain rfl:cl=dl:=k4.trans l4.symm
 obtain rfl:wl=vl:=k5.trans l5.symm
 obtain ⟨a1,a2⟩:=h
 obtain ⟨b1,b2⟩:=h'
 simp only at a1 a2 b1 b2
 have hwl:wl≤1048576:=by have:=hf.2.2.1;simp only at this k5;omega
 have CS:=hide (fun wx (hb:Below w.heap.size w wx)=>eqState_same ⟨qa,ql,qc,aa,al,ac,ma,ml,mc,ca,cl,cc⟩ ⟨ra,ql,rc,ba,al,bc,na,ml,nc,da,cl,dc⟩ ⟨qs,clock,epoch,next,serial,apps,ms,cs⟩ wx (a1.below hb) (b1.below hb) hf.1)
 have CR:=hide (fun wx (hb:Below w.heap.size w wx)=>eqReplyS_same wo vo wl wc vc wait wx (a2.below hb) (b2.below hb) hwl hf.2.2.two)
 clear a1 a2 b1 b2 hf k1 k2 k3 k4 k5 l1 l2 l3 l4 l5 hwl
 have HB0:=hide (yA (yA (yH _ w) (.cells #[.slice qa ql qc,.int .i64 clock,.int .i64 epoch,.int .i64 next,.int .i64 serial,.slice aa al ac,.slice ma ml mc,.slice ca cl cc,.string (bs log),.int .i64 safe,.slice wo wl wc] 45)) (.cells #[.slice ra ql rc,.int .i64 clock,.int .i64 epoch,.int .i64 next,.int .i64 serial,.slice ba al bc,.slice na ml nc,.slice da cl dc,.string (bs log),.int .i64 safe,.slice vo wl vc] 45))
 have P0:=hide ((yD w #[.slice qa ql qc,.int .i64 clock,.int .i64 epoch,.int .i64 next,.int .i64 serial,.slice aa al ac,.slice ma ml mc,.slice ca cl cc,.string (bs log),.int .i64 safe,.slice wo wl wc] 45).al (.cells #[.slice ra ql rc,.int .i64 clock,.int .i64 epoch,.int .i64 next,.int .i64 serial,.slice ba al bc,.slice na ml nc,.slice da cl dc,.string (bs log),.int .i64 safe,.slice vo wl vc] 45))
 have Q0:=hide (show Blk _ (w.heap.size+1) #[.slice ra ql rc,.int .i64 clock,.int .i64 epoch,.int .i64 next,.int .i64 serial,.slice ba al bc,.slice na ml nc,.slice da cl dc,.string (bs log),.int .i64 safe,.slice vo wl vc] 45 by have:=yD (w.alloc (.cells #[.slice qa ql qc,.int .i64 clock,.int .i64 epoch,.int .i64 next,.int .i64 serial,.slice aa al ac,.slice ma ml mc,.slice ca cl cc,.string (bs log),.int .i64 safe,.slice wo wl wc] 45)) #[.slice ra ql rc,.int .i64 clock,.int .i64 epoch,.int .i64 next,.int .i64 serial,.slice ba al bc,.slice na ml nc,.slice da cl dc,.string (bs log),.int .i64 safe,.slice vo wl vc] 45;rwa [yE] at this)
 have p0:=(uH P0).at 0;have p1:=(uH P0).at 1;have p2:=(uH P0).at 2;have p3:=(uH P0).at 3;have p4:=(uH P0).at 4;have p5:=(uH P0).at 5;have p6:=(uH P0).at 6;have p7:=(uH P0).at 7
 simp at p0 p1 p2 p3 p4 p5 p6 p7
 have q0:=(uH Q0).at 0;have q1:=(uH Q0).at 1;have q2:=(uH Q0).at 2;have q3:=(uH Q0).at 3;have q4:=(uH Q0).at 4;have q5:=(uH Q0).at 5;have q6:=(uH Q0).at 6;have q7:=(uH Q0).at 7
 simp at q0 q1 q2 q3 q4 q5 q6 q7
 go_enter Tryz.func33,Tryz.ntmps33
 go_wp2_with fail
 refine (uH CS _ (uH HB0)).mono ?_
 rintro e w1 ⟨rfl,hb⟩
 have HB1:=hide (yB (uH HB0) hb)
 have P1:=hide ((uH P0).below hb)
 have Q1:=hide ((uH Q0).below hb)
 clear hb CS P0 Q0 HB0 p0 p1 p2 p3 p4 p5 p6 p7 q0 q1 q2 q3 q4 q5 q6 q7
 have p8:=(uH P1).at 8;have p9:=(uH P1).at 9;have p10:=(uH P1).at 10
 simp at p8 p9 p10
 have q8:=(uH Q1).at 8;have q9:=(uH Q1).at 9;have q10:=(uH Q1).at 10
 simp at q8 q9 q10
 go_wp2_with fail
 refine (uH CR _ (uH HB1)).mono ?_
 rintro e w2 ⟨rfl,hb⟩
 have HB2:=hide (yB (uH HB1) hb)
 clear hb CR P1 Q1 HB1 p8 p9 p10 q8 q9 q10
 go_wp2
 go_ret
 exact ⟨rfl,uH HB2⟩
theorem eqCluster_same (z z':Cls) (c:Clu) (w:World) (h:CRow w z c) (h':CRow w z' c) (hf:FitClu c) :
  Calls Tryz.prog 10 #[cluv z c,cluv z' c] w fun e w'=>e=.returned (.bool true)∧Below w.heap.size w w':=by
 obtain ⟨k1,k2,k3,k4⟩:=h.1.1.len
 obtain ⟨l1,l2,l3,l4⟩:=h'.1.1.len
 have k5:=h.1.2.1
 have l5:=h'.1.2.1
 have k6:=h.2.1.1
 have l6:=h'.2.1.1
 have k7:=h.2.2.1
 have l7:=h'.2.2.1
 obtain ⟨⟨⟨qa,ql,qc,aa,al,ac,ma,ml,mc,ca,cl,cc⟩,wo,wl,wc⟩,go,gl,gc,eo,tl,tc⟩:=z
 obtain ⟨⟨⟨qs,clock,epoch,next,serial,apps,ms,cs⟩,log,safe,wait⟩,ags,told⟩:=c
 obtain ⟨⟨⟨ra,rl,rc,ba,bl,bc,na,nl,nc,da,dl,dc⟩,vo,vl,vc⟩,ho,hl,hc,uo,ul,uc⟩:=z'
 simp only at k1 k2 k3 k4 k5 k6 k7 l1 l2 l3 l4 l5 l6 l7
 obtain rfl:ql=rl:=k1.trans l1.symm
 obtain rfl:al=bl:=k2.trans l2.symm
 obtain rfl:ml=nl:=k3.trans l3.symm
 obtain rfl:cl=dl:=k4.trans l4.symm
 obtain rfl:wl=vl:=k5.trans l5.symm
 obtain rfl:gl=hl:=k6.trans l6.symm
 obtain rfl:tl=ul:=k7.trans l7.symm
 obtain ⟨a1,a2,a3⟩:=h
 obtain ⟨b1,b2,b3⟩:=h'
 simp only at a1 a2 a3 b1 b2 b3
 have hgl:gl≤1048576:=by have:=hf.2.1.1;simp only at this k6;omega
 have htl:tl≤1048576:=by have:=hf.2.2.1;simp only at this k7;omega
 have CS:=hide (fun wx (hb:Below w.heap.size w wx)=>eqManager_two ⟨⟨qa,ql,qc,aa,al,ac,ma,ml,mc,ca,cl,cc⟩,wo,wl,wc⟩ ⟨⟨ra,ql,rc,ba,al,bc,na,ml,nc,da,cl,dc⟩,vo,wl,vc⟩ ⟨⟨qs,clock,epoch,next,serial,apps,ms,cs⟩,log,safe,wait⟩ wx (a1.below hb) (b1.below hb) hf.1)
 have CA:=hide (fun wx (hb:Below w.heap.size w wx)=>eqAgentS_same go ho gl gc hc ags wx (a2.below hb) (b2.below hb) hgl hf.2.1.one)
 have CR:=hide (fun wx (hb:Below w.heap.size w wx)=>eqReplyS_same eo uo tl tc uc told wx (a3.below hb) (b3.below hb) htl hf.2.2.two)
 clear a1 a2 a3 b1 b2 b3 hf k1 k2 k3 k4 k5 k6 k7 l1 l2 l3 l4 l5 l6 l7 hgl htl
 have HB0:=hide (yA (yA (yH _ w) (.cells #[.slice qa ql qc,.int .i64 clock,.int .i64 epoch,.int .i64 next,.int .i64 serial,.slice aa al ac,.slice ma ml mc,.slice ca cl cc,.string (bs log),.int .i64 safe,.slice wo wl wc,.slice go gl gc,.slice eo tl tc] 48)) (.cells #[.slice ra ql rc,.int .i64 clock,.int .i64 epoch,.int .i64 next,.int .i64 serial,.slice ba al bc,.slice na ml nc,.slice da cl dc,.string (bs log),.int .i64 safe,.slice vo wl vc,.slice ho gl hc,.slice uo tl uc] 48))
 have P0:=hide ((yD w #[.slice qa ql qc,.int .i64 clock,.int .i64 epoch,.int .i64 next,.int .i64 serial,.slice aa al ac,.slice ma ml mc,.slice ca cl cc,.string (bs log),.int .i64 safe,.slice wo wl wc,.slice go gl gc,.slice eo tl tc] 48).al (.cells #[.slice ra ql rc,.int .i64 clock,.int .i64 epoch,.int .i64 next,.int .i64 serial,.slice ba al bc,.slice na ml nc,.slice da cl dc,.string (bs log),.int .i64 safe,.slice vo wl vc,.slice ho gl hc,.slice uo tl uc] 48))
 have Q0:=hide (show Blk _ (w.heap.size+1) #[.slice ra ql rc,.int .i64 clock,.int .i64 epoch,.int .i64 next,.int .i64 serial,.slice ba al bc,.slice na ml nc,.slice da cl dc,.string (bs log),.int .i64 safe,.slice vo wl vc,.slice ho gl hc,.slice uo tl uc] 48 by have:=yD (w.alloc (.cells #[.slice qa ql qc,.int .i64 clock,.int .i64 epoch,.int .i64 next,.int .i64 serial,.slice aa al ac,.slice ma ml mc,.slice ca cl cc,.string (bs log),.int .i64 safe,.slice wo wl wc,.slice go gl gc,.slice eo tl tc] 48)) #[.slice ra ql rc,.int .i64 clock,.int .i64 epoch,.int .i64 next,.int .i64 serial,.slice ba al bc,.slice na ml nc,.slice da cl dc,.string (bs log),.int .i64 safe,.slice vo wl vc,.slice ho gl hc,.slice uo tl uc] 48;rwa [yE] at this)
 have p0:=(uH P0).at 0;have p1:=(uH P0).at 1;have p2:=(uH P0).at 2;have p3:=(uH P0).at 3;have p4:=(uH P0).at 4;have p5:=(uH P0).at 5;have p6:=(uH P0).at 6;have p7:=(uH P0).at 7;have p8:=(uH P0).at 8;have p9:=(uH P0).at 9;have p10:=(uH P0).at 10
 simp at p0 p1 p2 p3 p4 p5 p6 p7 p8 p9 p10
 have q0:=(uH Q0).at 0;have q1:=(uH Q0).at 1;have q2:=(uH Q0).at 2;have q3:=(uH Q0).at 3;have q4:=(uH Q0).at 4;have q5:=(uH Q0).at 5;have q6:=(uH Q0).at 6;have q7:=(uH Q0).at 7;have q8:=(uH Q0).at 8;have q9:=(uH Q0).at 9;have q10:=(uH Q0).at 10
 simp at q0 q1 q2 q3 q4 q5 q6 q7 q8 q9 q10
 go_enter Tryz.func10,Tryz.ntmps10
 go_wp2_with fail
 refine (uH CS _ (uH HB0)).mono ?_
 rintro e w1 ⟨rfl,hb⟩
 have HB1:=hide (yB (uH HB0) hb)
 have P1:=hide ((uH P0).below hb)
 have Q1:=hide ((uH Q0).below hb)
 clear hb CS P0 Q0 HB0 p0 p1 p2 p3 p4 p5 p6 p7 p8 p9 p10 q0 q1 q2 q3 q4 q5 q6 q7 q8 q9 q10
 have p11:=(uH P1).at 11
 simp at p11
 have q11:=(uH Q1).at 11
 simp at q11
 go_wp2_with fail
 refine (uH CA _ (uH HB1)).mono ?_
 rintro e w2 ⟨rfl,hb⟩
 have HB2:=hide (yB (uH HB1) hb)
 have P2:=hide ((uH P1).below hb)
 have Q2:=hide ((uH Q1).below hb)
 clear hb CA P1 Q1 HB1 p11 q11
 have p12:=(uH P2).at 12
 simp at p12
 have q12:=(uH Q2).at 12
 simp at q12
 go_wp2_with fail
 refine (uH CR _ (uH HB2)).mono ?_
 rintro e w3 ⟨rfl,hb⟩
 have HB3:=hide (yB (uH HB2) hb)
 clear hb CR P2 Q2 HB2 p12 q12
 go_wp2
 go_ret
 exact ⟨rfl,uH HB3⟩
end
end Go.Proofs.YtmkedfdnokmglaaGreat
