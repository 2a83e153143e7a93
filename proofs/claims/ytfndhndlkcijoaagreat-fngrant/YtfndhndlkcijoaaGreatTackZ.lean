/-
  Texts in one: OfQD, StdS.
-/
import Derived.Test.YtfndhndlkcijoaaGreatTackX
import Derived.Test.YtfndhndlkcijoaaGreatTackP
import Derived.Test.YtfndhndlkcijoaaGreatTackU
set_option maxRecDepth 100000
set_option maxHeartbeats 16000000
set_option linter.unusedVariables false
set_option linter.unusedSimpArgs false
open Go.Proofs.Tryz
namespace Go.Proofs.YtfndhndlkcijoaaGreat
section
open Go.RowKit
theorem aGq (w:World) (q:Q) :
  cP 157 #[qv q] w fun e w'=>e=.returned (.int .i64 (dQ false q))∧Bw w w':=by
 go_enter func157,ntmps157
 go_wp2;go_ret;exact ⟨rfl,yA (yH _ _) _⟩
theorem aAv (ao:Option Addr) (len cap:Nat) (l:List Q) (nm:List UInt8) (a b:Int) (w:World) (h:gH w ao len l) (hl:len≤1048576) (hn:∀q ∈ l,q.name.length≤1048576) (hc:len≤cap) :
  cP 99 #[.slice ao len cap,.string (bs nm),rv a b] w fun e w'=>e=.returned (rv (ofR l nm a b false).1 (ofR l nm a b false).2)∧Bw w w':=by
 have ZE:∀(fn:Fn) (first cap:Array Value) (w:World),(Instr.makeFunc fn first cap).run Tryz.prog w=.ok (.func fn first cap) w:=fun _ _ _ _=>rfl
 have HB0:=aA (yA (yA (yH _ w) (.cells #[.int .i64 a,.int .i64 b] 33)) (.cells #[.int .i64 0,.int .i64 0] 33));have GR:=aA (iB w 33 33 a b 0 0);have C:=aA (aAH 157 (enters_of func157 (by kernel_rfl) rfl) false (fun wx q=>aGq wx q) ao len cap l nm a b _ (h.below (uH HB0)) hl hn hc);obtain ⟨⟨x,y⟩,hxy⟩:∃p,ofR l nm a b false=p:=⟨_,rfl⟩;rw [hxy] at C ⊢;clear hxy h hn;go_enter func99,ntmps99;go_wp2_with fail
 refine (uH C).mono ?_;rintro e w1 ⟨rfl,hb⟩;have V2:=(uH GR).below hb;have k0:=V2.c0;have k1:=V2.c1;have k2:=V2.f 0;have k3:=V2.f 1;have k4:=V2.s0 (.int .i64 x);have k5:=V2.s1 (.int .i64 x) (.int .i64 y);have HB:=aA (yB (uH HB0) hb);clear hb V2 GR HB0 C;go_wp2;refine bodyPost_ret (v:=rv x y) (by simp [results,results99,go_sem,k4,k5]) rfl ⟨rfl,?_⟩;repeat (first | exact uH HB | refine yA ?_ _ | refine Below.drew ?_ | refine yC ?_ _ _ _ (by omega))
end
section
open Go.RowKit Go.Maps
def zT (s:St) (nm:List UInt8):SE:=(nm,(aJ s nm).1,(aJ s nm).2,(rC s nm).1,(rC s nm).2)
def SB (w:World) (c:Array Value) (wx:World):Prop:=Blk wx w.heap.size c 29∧Bw w wx
theorem SB.call {w wx wy:World} {c:Array Value} (h:SB w c wx) (hb:Bw wx wy):SB w c wy:=⟨h.1.below hb,yB h.2 hb⟩
theorem yT (x:Sls) (s:St) (nm:List UInt8) (w:World) (h:gW w x s) (hf:dB s) (hc:x.ql≤x.qc) (hw:yQ s) :
  cP 52 #[sv x s,.string (bs nm)] w fun e w'=>e=.returned (stv (zT s nm))∧Bw w w':=by
 have Gw:x.ql≤1048576:=h.ql hf;have GN:x.ml≤1048576:=h.ml hf;have CT:=aA (fun wx (hb:Bw w wx)=>show cP 30 #[sv x s] wx (fun e w'=>e=.returned (rv (cZ s).1 (cZ s).2)∧Bw wx w') from mQ x s wx (h.2.2.1.below hb) GN);have CD:=aA (fun wx (hb:Bw w wx)=>show cP 99 #[.slice x.qa x.ql x.qc,.string (bs nm),rv (cZ s).1 (cZ s).2] wx (fun e w'=>e=.returned (rv (rC s nm).1 (rC s nm).2)∧Bw wx w') from aAv x.qa x.ql x.qc s.qs nm (cZ s).1 (cZ s).2 wx (h.1.below hb) Gw (fun q hq=>(hf.1.2 q hq).1) hc);have CU:=aA (fun wx (hb:Bw w wx)=>lJ x s nm wx (h.below hb) hf hc hw);obtain ⟨⟨tx,ty⟩,ht⟩:∃t,cZ s=t:=⟨_,rfl⟩;obtain ⟨⟨dx,dy⟩,hd⟩:∃t,rC s nm=t:=⟨_,rfl⟩;obtain ⟨⟨ux,uy⟩,hu⟩:∃t,aJ s nm=t:=⟨_,rfl⟩;have HO:zT s nm=(nm,ux,uy,dx,dy):=by rw [zT,hd,hu]
 rw [HO];rw [ht] at CT;rw [ht,hd] at CD;rw [hu] at CU;clear h hf hc hw ht hd hu HO;obtain ⟨qa,ql,qc,aa,al,ac,ma,ml,mc,ca,cl,cc⟩:=x;obtain ⟨qs,cv,ez,ny,sj,aj,ms,cs⟩:=s;simp only at CT CD CU Gw GN;have hb0:=(yA (yA (yH _ w) (.cells (svc ⟨qa,ql,qc,aa,al,ac,ma,ml,mc,ca,cl,cc⟩ ⟨qs,cv,ez,ny,sj,aj,ms,cs⟩) 29)) (.cells #[.string ⟨#[]⟩,.int .i64 0,.int .i64 0,.int .i64 0,.int .i64 0] 91)).drew;have SS0:=aA (show SB w (svc ⟨qa,ql,qc,aa,al,ac,ma,ml,mc,ca,cl,cc⟩ ⟨qs,cv,ez,ny,sj,aj,ms,cs⟩) _ from ⟨((yD w (svc ⟨qa,ql,qc,aa,al,ac,ma,ml,mc,ca,cl,cc⟩ ⟨qs,cv,ez,ny,sj,aj,ms,cs⟩) 29).al (.cells #[.string ⟨#[]⟩,.int .i64 0,.int .i64 0,.int .i64 0,.int .i64 0] 91)).drew,hb0⟩);have V0:=aA (show Blk ((w.alloc (.cells (svc ⟨qa,ql,qc,aa,al,ac,ma,ml,mc,ca,cl,cc⟩ ⟨qs,cv,ez,ny,sj,aj,ms,cs⟩) 29)).alloc (.cells #[.string ⟨#[]⟩,.int .i64 0,.int .i64 0,.int .i64 0,.int .i64 0] 91)).drew (w.heap.size+1) #[.string ⟨#[]⟩,.int .i64 0,.int .i64 0,.int .i64 0,.int .i64 0] 91 from by have:=yD (w.alloc (.cells (svc ⟨qa,ql,qc,aa,al,ac,ma,ml,mc,ca,cl,cc⟩ ⟨qs,cv,ez,ny,sj,aj,ms,cs⟩) 29)) #[.string ⟨#[]⟩,.int .i64 0,.int .i64 0,.int .i64 0,.int .i64 0] 91;rw [yE] at this;exact this.drew);have R:∀wx,SB w (svc ⟨qa,ql,qc,aa,al,ac,ma,ml,mc,ca,cl,cc⟩ ⟨qs,cv,ez,ny,sj,aj,ms,cs⟩) wx→wx.cell? ⟨w.heap.size,0,none⟩=some (.slice qa ql qc)∧wx.cell? ⟨w.heap.size,1,none⟩=some (.int .i64 cv)∧wx.cell? ⟨w.heap.size,2,none⟩=some (.int .i64 ez)∧wx.cell? ⟨w.heap.size,3,none⟩=some (.int .i64 ny)∧wx.cell? ⟨w.heap.size,4,none⟩=some (.int .i64 sj)∧wx.cell? ⟨w.heap.size,5,none⟩=some (.slice aa al ac)∧wx.cell? ⟨w.heap.size,6,none⟩=some (.slice ma ml mc)∧wx.cell? ⟨w.heap.size,7,none⟩=some (.slice ca cl cc):=fun wx h=>by
  have a0:=h.1.at 0;have a1:=h.1.at 1;have a2:=h.1.at 2;have a3:=h.1.at 3;have a4:=h.1.at 4;have a5:=h.1.at 5;have a6:=h.1.at 6;have a7:=h.1.at 7;simp at a0 a1 a2 a3 a4 a5 a6 a7;exact ⟨a0,a1,a2,a3,a4,a5,a6,a7⟩
 clear hb0;go_enter func52,ntmps52;go_wp2_with fail
 refine wp_region_held_drew (S:=SB w (svc ⟨qa,ql,qc,aa,al,ac,ma,ml,mc,ca,cl,cc⟩ ⟨qs,cv,ez,ny,sj,aj,ms,cs⟩)) (by kernel_rfl) (uH SS0) (fun S0=>?_);refine tW 0 5 _ S0 ?_;simp only [zW];refine tW 1 6 _ S0 ?_;simp only [zW];refine tW 2 7 _ S0 ?_;simp only [zW];refine tW 4 9 _ S0 ?_;simp only [zW];refine tW 5 10 _ S0 ?_;simp only [zW];refine tW 6 11 _ S0 ?_;simp only [zW];refine tW 7 12 _ S0 ?_;simp only [zW];refine yRq 3 rfl (fun K hK=>?_);go_simp;refine (uH CU _ S0.2).mono ?_;rintro e w1 ⟨rfl,hb⟩;have S1:=SB.call S0 hb;have V1:=aA ((uH V0).below hb);clear hb V0;go_wp2_with fail;refine hK.out _ _ S1 (fun S0=>?_);clear hK K S1;try simp only [zW]
 refine yRq 8 rfl (fun K hK=>?_);go_simp;refine (uH CT _ S0.2).mono ?_;rintro e w2 ⟨rfl,hb⟩;have S1:=SB.call S0 hb;have V2:=aA ((uH V1).below hb);clear hb V1;go_wp2_with fail;refine hK.out _ _ S1 (fun S0=>?_);clear hK K S1;try simp only [zW]
 refine yRq 9 rfl (fun K hK=>?_);go_simp;refine (uH CD _ S0.2).mono ?_;rintro e w3 ⟨rfl,hb⟩;have S1:=SB.call S0 hb;have V3:=aA ((uH V2).below hb);clear hb V2;go_wp2_with fail;refine hK.out _ _ S1 (fun S0=>?_);clear hK K S1;try simp only [zW]
 refine tW 10 15 _ S0 ?_;simp only [zW];refine tW 11 16 _ S0 ?_;simp only [zW];refine yRq 12 rfl (fun K hK=>?_);have bw:=uH V3;obtain ⟨c0,c1,c2,c3,c4⟩:=zp bw;have f0:=bw.f 0;have f1:=bw.f 1;have f2:=bw.f 2;have f3:=bw.f 3;have f4:=bw.f 4;have bz:=((((bw.set 0 (.string (bs nm))).set 1 (.int .i64 ux)).set 2 (.int .i64 uy)).set 3 (.int .i64 dx)).set 4 (.int .i64 dy);obtain ⟨z0,z1,z2,z3,z4⟩:=zp bz;have hn:w.heap.size≠w.heap.size+1:=by omega
 have S1:SB w (svc ⟨qa,ql,qc,aa,al,ac,ma,ml,mc,ca,cl,cc⟩ ⟨qs,cv,ez,ny,sj,aj,ms,cs⟩) (((((w3.setCell ⟨w.heap.size+1,0,none⟩ (.string (bs nm))).setCell ⟨w.heap.size+1,1,none⟩ (.int .i64 ux)).setCell ⟨w.heap.size+1,2,none⟩ (.int .i64 uy)).setCell ⟨w.heap.size+1,3,none⟩ (.int .i64 dx)).setCell ⟨w.heap.size+1,4,none⟩ (.int .i64 dy)):=⟨((((S0.1.other _ _ _ hn).other _ _ _ hn).other _ _ _ hn).other _ _ _ hn).other _ _ _ hn,yC (yC (yC (yC (yC S0.2 _ _ _ (by omega)) _ _ _ (by omega)) _ _ _ (by omega)) _ _ _ (by omega)) _ _ _ (by omega)⟩;clear bw bz V3;go_simp;go_wp2_with fail;refine hK.out _ _ S1 (fun S0=>?_);clear hK K;try simp only [zW]
 refine wpAnyH_done (by kernel_rfl) ?_ _;have HB:=aA S1.2;clear S1 S0 R CU CT CD SS0;go_wp2;refine bodyPost_ret (v:=stv (nm,ux,uy,dx,dy)) (by simp [results,results52,go_sem,z0,z1,z2,z3,z4]) rfl ⟨rfl,uH HB⟩
end
end Go.Proofs.YtfndhndlkcijoaaGreat
