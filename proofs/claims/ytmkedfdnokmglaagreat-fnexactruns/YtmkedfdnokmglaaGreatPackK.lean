/-
  The laws' own markReplyS over what toReplyS made: what it leaves alone; walks over the dump.
-/
import Derived.Test.YtmkedfdnokmglaaGreatPackG
set_option maxRecDepth 100000
set_option maxHeartbeats 16000000
set_option linter.unusedVariables false
set_option linter.unusedSimpArgs false
namespace Go.Proofs.YtmkedfdnokmglaaGreat
section
open Go.RowKit
def RWh (w:World) (B E g n:Nat):Prop:=Cel w 110 g (n*4)∧∀i,i<n→∃b xl c yl,w.cell? ⟨g,i*4+2,none⟩=some (.slice (some ⟨b,0,none⟩) xl xl)∧w.cell? ⟨g,i*4+3,none⟩=some (.slice (some ⟨c,0,none⟩) yl yl)∧Cel w 74 b (xl*5)∧Cel w 3 c yl∧xl≤1048576∧yl≤1048576∧B≤b∧b<E∧b≠g∧B≤c∧c<E∧c≠g
theorem RWh.below {w w':World} {B E g n:Nat} (h:RWh w B E g n) (hb:Below w.heap.size w w'):RWh w' B E g n:=
 ⟨h.1.below hb,fun i hi=>let ⟨b,xl,c,yl,a1,a2,k1,k2,d⟩:=h.2 i hi;⟨b,xl,c,yl,cellBel a1 hb,cellBel a2 hb,k1.below hb,k2.below hb,d⟩⟩
theorem RWh.sc {w:World} {B E g n:Nat} (h:RWh w B E g n) (j:Nat) (v:Value) (hj:∀i,j≠i*4+2∧j≠i*4+3):RWh (w.setCell ⟨g,j,none⟩ v) B E g n:=
 ⟨h.1.set _ _ _,fun i hi=>let ⟨b,xl,c,yl,a1,a2,k1,k2,d⟩:=h.2 i hi;⟨b,xl,c,yl,cellKeep a1 (hj i).1,cellKeep a2 (hj i).2,k1.set _ _ _,k2.set _ _ _,d⟩⟩
theorem RWh.mkd {w w':World} {B E g n b:Nat} (h:RWh w B E g n) (hm:Mkd b (b+1) w w') (hn:b≠g):RWh w' B E g n:=
 ⟨hm.cel _ _ _ h.1,fun i hi=>let ⟨b,xl,c,yl,a1,a2,k1,k2,d⟩:=h.2 i hi;⟨b,xl,c,yl,(World.cell?_of_block (w:=w) (a:=⟨g,i*4+2,none⟩) (hm.block g h.1.lt (by omega))).trans a1,(World.cell?_of_block (w:=w) (a:=⟨g,i*4+3,none⟩) (hm.block g h.1.lt (by omega))).trans a2,hm.cel _ _ _ k1,hm.cel _ _ _ k2,d⟩⟩
theorem RWh.mkdo {w w':World} {B E B' E' g n:Nat} (h:RWh w B E g n) (hm:Mkd B' E' w w') (hn:g<B'∨E'≤g):RWh w' B E g n:=
 ⟨hm.cel _ _ _ h.1,fun i hi=>let ⟨b,xl,c,yl,a1,a2,k1,k2,d⟩:=h.2 i hi;⟨b,xl,c,yl,(World.cell?_of_block (w:=w) (a:=⟨g,i*4+2,none⟩) (hm.block g h.1.lt (by omega))).trans a1,(World.cell?_of_block (w:=w) (a:=⟨g,i*4+3,none⟩) (hm.block g h.1.lt (by omega))).trans a2,hm.cel _ _ _ k1,hm.cel _ _ _ k2,d⟩⟩
theorem RWh.mono {w:World} {B E B' E' g n:Nat} (h:RWh w B E g n) (h1:B'≤B) (h2:E≤E'):RWh w B' E' g n:=
 ⟨h.1,fun i hi=>let ⟨b,xl,c,yl,a1,a2,k1,k2,d⟩:=h.2 i hi;⟨b,xl,c,yl,a1,a2,k1,k2,d.1,d.2.1,by have:=d.2.2.1;omega,by have:=d.2.2.2.1;omega,d.2.2.2.2.1,by have:=d.2.2.2.2.2.1;omega,by have:=d.2.2.2.2.2.2.1;omega,d.2.2.2.2.2.2.2⟩⟩
theorem RplBlk.wh {w:World} {g n:Nat} {l:List Rpl} (h:RplBlk w 110 g n n l) (hl:n=l.length) (hk:∀q ∈ l,q.cs.length≤1048576∧q.kill.length≤1048576):RWh w (g+1) w.heap.size g n:=by
 refine ⟨let ⟨arr,h1,h2,_⟩:=h;⟨arr,h1,h2⟩,fun i hi=>?_⟩
 obtain ⟨arr,h1,h2,h3⟩:=h
 have hil:i<l.length:=by omega
 obtain ⟨_,_,xo,xl,xc,yo,yl,yc,t0,t1,o0,o1⟩:=h3 i hil hi
 have hlen:=hk l[i] (yM _)
 obtain ⟨r0,rfl,b,rfl,hb,kb⟩:=o0
 obtain ⟨r1,rfl,c,rfl,hc,kc⟩:=o1
 have e0:=r0.1
 have e1:=r1.1
 exact ⟨b,_,c,_,by simp [World.cell?,h1,t0],by simp [World.cell?,h1,t1],conblk_cel kb,iblk_cel kc,by omega,by omega,by omega,kb.lt,by omega,by omega,kc.lt,by omega⟩
theorem markIntS_from (g n:Nat) (k0:Int) (w:World) (h:Cel w 3 g n) (hn:n≤1048576) (h0:0<k0) (h1:k0≤1000000000000000) :
  Calls Tryz.prog 12 #[.slice (some ⟨g,0,none⟩) n n,.int .i64 k0] w fun e w'=>e=.returned (.int .i64 (k0+(n:Int)))∧Mkd g (g+1) w w':=by
 obtain ⟨K,rfl⟩:=Int.eq_ofNat_of_zero_le (a:=k0) (by omega)
 refine (markI_own g n n n K [] w (let ⟨arr,h1,h2⟩:=h;⟨arr,h1,h2,fun i hi=>absurd hi (by simp)⟩) (yJ _) (by omega) (by omega)).mono ?_
 rintro e w' ⟨rfl,_,hm⟩
 exact ⟨rfl,hm.os,hm.tape,hm.output,hm.size,fun k hk ho=>hm.block k hk (by omega),hm.cel⟩
theorem markReplyS_from (B E g n:Nat) (k0:Int) (w:World) (h:RWh w B E g n) (hB:B≤g) (hE:g<E) (hn:n≤1048576) (h0:0<k0) (h1:k0≤200000000000000) :
  Calls Tryz.prog 36 #[.slice (some ⟨g,0,none⟩) n n,.int .i64 k0] w fun e w'=>∃k',e=.returned (.int .i64 k')∧k0≤k'∧k'≤k0+6291458*(n:Int)∧Mkd B E w w':=by
 have HQ0:=hide h
 clear h
 go_enter Tryz.func36,Tryz.ntmps36
 go_wp2
 go_loopw [1,5] (fun s i wr=>∃(j:Nat) (k:Int),j≤n∧i=.int .i64 j∧s=.int .i64 k∧k0≤k∧k≤k0+6291458*(j:Int)∧Hid (RWh wr B E g n)∧Hid (Mkd B E w wr)) (fun _ i _=>n - (intOf i).toNat)
 case atStart=>exact ⟨0,k0,Nat.zero_le _,rfl,rfl,by omega,by omega,HQ0,hide (Mkd.refl _ _ _)⟩
 case round=>
  obtain ⟨j,k,hj,rfl,rfl,hk,hk',HQ,HG⟩:=hrel
  by_cases hlt:j<n
  ·have hk0:0<k:=by omega
   have hk1:k≤210000000000000:=by omega
   have HK:=hide hk'
   clear hk'
   obtain ⟨v0,d0⟩:=(uH HQ).1.cell (j:=j*4) (by omega)
   have f0:=(uH HQ).1.frozen (j*4)
   have HQ1:=hide ((uH HQ).sc (j*4) (.int .i64 k) (by omega))
   have HG1:=hide ((uH HG).sc g (j*4) (.int .i64 k) hB hE)
   obtain ⟨v1,d1⟩:=(uH HQ1).1.cell (j:=j*4+1) (by omega)
   have f1:=(uH HQ1).1.frozen (j*4+1)
   have HQ2:=hide ((uH HQ1).sc (j*4+1) (.int .i64 (k+1)) (by omega))
   have HG2:=hide ((uH HG1).sc g (j*4+1) (.int .i64 (k+1)) hB hE)
   obtain ⟨b,xl,c,yl,d2,d3,hcx,hcy,hxl,hyl,hb1,hb2,hbg,hc1,hc2,hcg⟩:=(uH HQ2).2 j hlt
   have CA:=hide (markContS_from b xl xl (k+1+1) _ hcx (yJ _) hxl (by omega) (by omega))
   clear HQ HG HQ1 HG1 hcx hcy d3
   go_wp2_with fail
   refine (uH CA).mono ?_
   rintro e w2 ⟨rfl,hm⟩
   have HQ3:=hide ((uH HQ2).mkd hm hbg)
   have HG3:=hide ((uH HG2).trans (hm.mono hb1 (by omega)))
   clear hm CA HQ2 HG2 d0 f0 d1 f1 d2 hb1 hb2 hbg hc1 hc2 hcg
   obtain ⟨b',xl',c',yl',d2',d3',hcx',hcy',hxl',hyl',hb1',hb2',hbg',hc1',hc2',hcg'⟩:=(uH HQ3).2 j hlt
   have CI:=hide (markIntS_from c' yl' (k+1+1+5*(xl:Int)) _ hcy' hyl' (by omega) (by omega))
   clear hcx' hcy' d2' hb1' hb2' hbg'
   go_wp2_with fail
   refine (uH CI).mono ?_
   rintro e w3 ⟨rfl,hm⟩
   have HQ4:=hide ((uH HQ3).mkd hm hcg')
   have HG4:=hide ((uH HG3).trans (hm.mono hc1' (by omega)))
   clear hm CI HQ3 HG3 d3' hc1' hc2' hcg'
   go_wp2
   go_roundw
   case rel=>exact ⟨j+1,k+1+1+5*(xl:Int)+(yl':Int),by omega,by go_num,by go_num,by omega,by have:=uH HK;omega,HQ4,HG4⟩
   case measure=>simp [intOf];omega
  ·have hjn:j=n:=by omega
   subst hjn
   go_wp2
   go_ret
   exact ⟨k,rfl,hk,hk',uH HG⟩
end
end Go.Proofs.YtmkedfdnokmglaaGreat
