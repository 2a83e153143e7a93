/-
  Texts in one: a container given by the model, and what a law holds of the answer.
-/
import Derived.Test.YtdhibeclkdepiaaGreatPackAL
import Derived.Test.YtdhibeclkdepiaaGreatPackAK
set_option maxRecDepth 100000
set_option maxHeartbeats 16000000
set_option linter.unusedVariables false
set_option linter.unusedSimpArgs false
namespace Go.Proofs.YtdhibeclkdepiaaGreat
section
open Go.RowKit Go.Maps
theorem aHy (x:Sls) (s:St) (nd:List UInt8) (w:World) (h:iJ w x s) (hf:bS s) (hc:x.ql≤x.qc) (hw:aEP s) (hnd:nd.length≤1048576) :
  Calls Tryz.prog 69 #[sv x s,.string (bs nd)] w fun e w'=>e=.returned (.tuple #[rv (atR (aW s nd)).1 (atR (aW s nd)).2,conv (mU (aW s nd)),.bool (aW s nd).isSome])∧Below w.heap.size w w':=by
 have CK:=aA (fun wx (hb:Below w.heap.size w wx)=>vV x s wx (h.below hb) hf hc hw)
 have CH:=aA (fun wx (hb:Below w.heap.size w wx)=>xS x s nd wx (h.below hb) hf hnd)
 have CN:=aA (fun (ho:dN s=true) wx (hb:Below w.heap.size w wx)=>aEv x s wx (h.below hb) hf (uZ ho).1 (uZ ho).2.1 (uZ ho).2.2)
 have CF:=aA (fun wx (hb:Below w.heap.size w wx)=>aCA x s nd wx (h.below hb) hf hc hw hnd)
 have HR:=aA h.2.1
 have hcl:x.cl=s.cs.length:=h.len.2.2.2
 have hcm:x.cl≤1048576:=by have:=hf.2.2.2.1;omega
 have HG:=aA (show aW s nd=if dN s=true then (if ((bF nd s.ms).isSome&&(decide (x.cl<150)&&mQ s))=true then (nM s nd).map fun r=>(r,vY s nd r) else none) else none by rw [aW,vC,aKO,hcl])
 have HP:=aA (fun (r:Nat×Nat) (hr:nM s nd=some r)=>aCo hr)
 have HC:=aA (fun (r:Nat×Nat) (h1:r.1<s.apps.length) (h2:r.2<s.apps[r.1].asks.length)=>vX (s:=s) (nd:=nd) h1 h2)
 have HAL:=aA h.2.1.1
 have hal:x.al≤1048576:=h.al hf
 have HFA:=aA hf.2.1
 obtain ⟨gv,hgv⟩:∃g,aW s nd=g:=⟨_,rfl⟩
 obtain ⟨gc,hgc⟩:∃g,vY s nd=g:=⟨_,rfl⟩
 obtain ⟨pk,hpk⟩:∃g,nM s nd=g:=⟨_,rfl⟩
 obtain ⟨so,hso⟩:∃g,dN s=g:=⟨_,rfl⟩
 obtain ⟨hm,hhm⟩:∃g,(bF nd s.ms).isSome=g:=⟨_,rfl⟩
 obtain ⟨fr,hfr⟩:∃g,mQ s=g:=⟨_,rfl⟩
 obtain ⟨id,hid⟩:∃g,idV s=g:=⟨_,rfl⟩
 rw [hgv,hso,hhm,hfr,hpk,hgc] at HG
 rw [hgv]
 rw [hso] at CK CN
 rw [hhm] at CH
 rw [hid,hfr] at CN
 rw [hpk] at CF HP
 rw [hgc,hid] at HC
 obtain ⟨⟨pi,pj,pb⟩,hpl⟩:∃g,plR pk=g:=⟨_,rfl⟩
 rw [hpl] at CF
 simp only at CF
 have HPL:=aA hpl
 clear hpl
 clear h hf hc hw hgv hgc hpk hso hhm hfr hid hcl
 have hs:(bs nd).size≤281474976710656:=by rw [dA];omega
 obtain ⟨qa,ql,qc,aa,al,ac,ma,ml,mc,ca,cl,cc⟩:=x
 obtain ⟨qs,clock,epoch,next,serial,apps,ms,cs⟩:=s
 simp only at CK CH CN CF HR HG HC HP HAL HFA hal hcm
 have HB0:=aA (yA (yA (yA (Below.refl _ w) (.cells (svc ⟨qa,ql,qc,aa,al,ac,ma,ml,mc,ca,cl,cc⟩ ⟨qs,clock,epoch,next,serial,apps,ms,cs⟩) 34)) (.cells #[.int .i64 0,.int .i64 0] 115)) (.cells #[.int .i64 0,.int .i64 0,.string ByteArray.empty,.int .i64 0,.int .i64 0] 38))
 have P0:=aA (((yD w (svc ⟨qa,ql,qc,aa,al,ac,ma,ml,mc,ca,cl,cc⟩ ⟨qs,clock,epoch,next,serial,apps,ms,cs⟩) 34).al (.cells #[.int .i64 0,.int .i64 0] 115)).al (.cells #[.int .i64 0,.int .i64 0,.string ByteArray.empty,.int .i64 0,.int .i64 0] 38))
 have R0:=aA (show Blk _ (w.heap.size+1) #[.int .i64 0,.int .i64 0] 115 by have:=(yD (w.alloc (.cells (svc ⟨qa,ql,qc,aa,al,ac,ma,ml,mc,ca,cl,cc⟩ ⟨qs,clock,epoch,next,serial,apps,ms,cs⟩) 34)) #[.int .i64 0,.int .i64 0] 115).al (.cells #[.int .i64 0,.int .i64 0,.string ByteArray.empty,.int .i64 0,.int .i64 0] 38);rw [yE] at this;exact this)
 have T0:=aA (show Blk _ (w.heap.size+1+1) #[.int .i64 0,.int .i64 0,.string ByteArray.empty,.int .i64 0,.int .i64 0] 38 by have:=yD ((w.alloc (.cells (svc ⟨qa,ql,qc,aa,al,ac,ma,ml,mc,ca,cl,cc⟩ ⟨qs,clock,epoch,next,serial,apps,ms,cs⟩) 34)).alloc (.cells #[.int .i64 0,.int .i64 0] 115)) #[.int .i64 0,.int .i64 0,.string ByteArray.empty,.int .i64 0,.int .i64 0] 38;rw [yE,yE] at this;exact this)
 go_enter Tryz.func69,Tryz.ntmps69
 go_wp2_with fail
 refine (uH CK _ (uH HB0)).mono ?_
 rintro e w1 ⟨rfl,hb⟩
 have HB1:=aA (yB (uH HB0) hb)
 have P1:=aA ((uH P0).below hb)
 have R1:=aA ((uH R0).below hb)
 have T1:=aA ((uH T0).below hb)
 clear hb HB0 P0 R0 T0 CK
 have q0:=(uH P1).at 0;have q1:=(uH P1).at 1;have q2:=(uH P1).at 2;have q3:=(uH P1).at 3;have q4:=(uH P1).at 4;have q5:=(uH P1).at 5;have q6:=(uH P1).at 6;have q7:=(uH P1).at 7
 simp at q0 q1 q2 q3 q4 q5 q6 q7
 cases so
 case false=>
  have HE:=aA (show gv=none from by rw [uH HG];rfl)
  obtain ⟨k0,k1,k2,k3,k4,k5,k6,k7,k8,k9,k10,k11,k12,k13⟩:=nE (uH R1) (uH T1) (by omega) 0 0
  have HX:=aA (zA (uH R1) (uH T1) (by omega) 0 0 0 0 (⟨#[]⟩:ByteArray) 0 0)
  have HY:=aA (nG (uH HB1) (g1:=w.heap.size+1) (g2:=w.heap.size+1+1) (by omega) (by omega) 0 0 0 0 (⟨#[]⟩:ByteArray) 0 0)
  go_wp2
  generalize (((((((w1.setCell ⟨w.heap.size+1,0,none⟩ (.int .i64 0)).setCell ⟨w.heap.size+1,1,none⟩ (.int .i64 0)).setCell ⟨w.heap.size+1+1,0,none⟩ (.int .i64 0)).setCell ⟨w.heap.size+1+1,1,none⟩ (.int .i64 0)).setCell ⟨w.heap.size+1+1,2,none⟩ (.string (⟨#[]⟩:ByteArray))).setCell ⟨w.heap.size+1+1,3,none⟩ (.int .i64 0)).setCell ⟨w.heap.size+1+1,4,none⟩ (.int .i64 0))=W9 at HX HY ⊢
  have z0:=(uH HX).1.at 0;have z1:=(uH HX).1.at 1;have z2:=(uH HX).2.at 0;have z3:=(uH HX).2.at 1;have z4:=(uH HX).2.at 2;have z5:=(uH HX).2.at 3;have z6:=(uH HX).2.at 4
  simp at z0 z1 z2 z3 z4 z5 z6
  refine bodyPost_ret (v:=.tuple #[rv 0 0,conv ⟨0,0,[],0,0⟩,.bool false]) (by simp [results,Tryz.results69,go_sem,z0,z1,z2,z3,z4,z5,z6];try rfl) rfl ⟨by rw [uH HE];rfl,uH HY⟩
 case true=>
  go_wp2_with fail
  refine (uH CH _ (uH HB1)).mono ?_
  rintro e w2 ⟨rfl,hb⟩
  have HB2:=aA (yB (uH HB1) hb)
  have P2:=aA ((uH P1).below hb)
  have R2:=aA ((uH R1).below hb)
  have T2:=aA ((uH T1).below hb)
  clear hb HB1 P1 R1 T1 q0 q1 q2 q3 q4 q5 q6 q7
  clear CH
  have q0:=(uH P2).at 0;have q1:=(uH P2).at 1;have q2:=(uH P2).at 2;have q3:=(uH P2).at 3;have q4:=(uH P2).at 4;have q5:=(uH P2).at 5;have q6:=(uH P2).at 6;have q7:=(uH P2).at 7
  simp at q0 q1 q2 q3 q4 q5 q6 q7
  cases hm
  case false=>
   have HE:=aA (show gv=none from by rw [uH HG];rfl)
   obtain ⟨k0,k1,k2,k3,k4,k5,k6,k7,k8,k9,k10,k11,k12,k13⟩:=nE (uH R2) (uH T2) (by omega) 0 0
   have HX:=aA (zA (uH R2) (uH T2) (by omega) 0 0 0 0 (⟨#[]⟩:ByteArray) 0 0)
   have HY:=aA (nG (uH HB2) (g1:=w.heap.size+1) (g2:=w.heap.size+1+1) (by omega) (by omega) 0 0 0 0 (⟨#[]⟩:ByteArray) 0 0)
   go_wp2
   generalize (((((((w2.setCell ⟨w.heap.size+1,0,none⟩ (.int .i64 0)).setCell ⟨w.heap.size+1,1,none⟩ (.int .i64 0)).setCell ⟨w.heap.size+1+1,0,none⟩ (.int .i64 0)).setCell ⟨w.heap.size+1+1,1,none⟩ (.int .i64 0)).setCell ⟨w.heap.size+1+1,2,none⟩ (.string (⟨#[]⟩:ByteArray))).setCell ⟨w.heap.size+1+1,3,none⟩ (.int .i64 0)).setCell ⟨w.heap.size+1+1,4,none⟩ (.int .i64 0))=W9 at HX HY ⊢
   have z0:=(uH HX).1.at 0;have z1:=(uH HX).1.at 1;have z2:=(uH HX).2.at 0;have z3:=(uH HX).2.at 1;have z4:=(uH HX).2.at 2;have z5:=(uH HX).2.at 3;have z6:=(uH HX).2.at 4
   simp at z0 z1 z2 z3 z4 z5 z6
   refine bodyPost_ret (v:=.tuple #[rv 0 0,conv ⟨0,0,[],0,0⟩,.bool false]) (by simp [results,Tryz.results69,go_sem,z0,z1,z2,z3,z4,z5,z6];try rfl) rfl ⟨by rw [uH HE];rfl,uH HY⟩
  case true=>
   by_cases hlt:cl<150
   case neg=>
    have HE:=aA (show gv=none from by rw [uH HG,decide_eq_false hlt];rfl)
    have hl1:(150:Int)≤cl:=by omega
    obtain ⟨k0,k1,k2,k3,k4,k5,k6,k7,k8,k9,k10,k11,k12,k13⟩:=nE (uH R2) (uH T2) (by omega) 0 0
    have HX:=aA (zA (uH R2) (uH T2) (by omega) 0 0 0 0 (⟨#[]⟩:ByteArray) 0 0)
    have HY:=aA (nG (uH HB2) (g1:=w.heap.size+1) (g2:=w.heap.size+1+1) (by omega) (by omega) 0 0 0 0 (⟨#[]⟩:ByteArray) 0 0)
    go_wp2
    generalize (((((((w2.setCell ⟨w.heap.size+1,0,none⟩ (.int .i64 0)).setCell ⟨w.heap.size+1,1,none⟩ (.int .i64 0)).setCell ⟨w.heap.size+1+1,0,none⟩ (.int .i64 0)).setCell ⟨w.heap.size+1+1,1,none⟩ (.int .i64 0)).setCell ⟨w.heap.size+1+1,2,none⟩ (.string (⟨#[]⟩:ByteArray))).setCell ⟨w.heap.size+1+1,3,none⟩ (.int .i64 0)).setCell ⟨w.heap.size+1+1,4,none⟩ (.int .i64 0))=W9 at HX HY ⊢
    have z0:=(uH HX).1.at 0;have z1:=(uH HX).1.at 1;have z2:=(uH HX).2.at 0;have z3:=(uH HX).2.at 1;have z4:=(uH HX).2.at 2;have z5:=(uH HX).2.at 3;have z6:=(uH HX).2.at 4
    simp at z0 z1 z2 z3 z4 z5 z6
    refine bodyPost_ret (v:=.tuple #[rv 0 0,conv ⟨0,0,[],0,0⟩,.bool false]) (by simp [results,Tryz.results69,go_sem,z0,z1,z2,z3,z4,z5,z6];try rfl) rfl ⟨by rw [uH HE];rfl,uH HY⟩
   have hl1:¬(150:Int)≤cl:=by omega
   have HG2:=aA (show gv=if fr=true then pk.map (fun r=>(r,gc r)) else none from by rw [uH HG,decide_eq_true hlt];simp)
   clear HG
   go_wp2_with fail
   refine (uH CN (by first | rfl | trivial) _ (uH HB2)).mono ?_
   rintro e w3 ⟨rfl,hb⟩
   have HB3:=aA (yB (uH HB2) hb)
   have P3:=aA ((uH P2).below hb)
   have R3:=aA ((uH R2).below hb)
   have T3:=aA ((uH T2).below hb)
   clear hb HB2 P2 R2 T2 q0 q1 q2 q3 q4 q5 q6 q7
   clear CN
   have q0:=(uH P3).at 0;have q1:=(uH P3).at 1;have q2:=(uH P3).at 2;have q3:=(uH P3).at 3;have q4:=(uH P3).at 4;have q5:=(uH P3).at 5;have q6:=(uH P3).at 6;have q7:=(uH P3).at 7
   simp at q0 q1 q2 q3 q4 q5 q6 q7
   go_wp2_with fail
   refine (uH CF _ (uH HB3)).mono ?_
   rintro e w4 ⟨rfl,hb⟩
   have HB4:=aA (yB (uH HB3) hb)
   have P4:=aA ((uH P3).below hb)
   have R4:=aA ((uH R3).below hb)
   have T4:=aA ((uH T3).below hb)
   have HLT:=aA ((uH T4).lt)
   clear hb HB3 P3 R3 T3 q0 q1 q2 q3 q4 q5 q6 q7
   clear CF
   have HB5:=aA (yA (uH HB4) (.cells #[.int .i64 pi,.int .i64 pj] 115))
   have P5:=aA ((uH P4).al (.cells #[.int .i64 pi,.int .i64 pj] 115))
   have R5:=aA ((uH R4).al (.cells #[.int .i64 pi,.int .i64 pj] 115))
   have T5:=aA ((uH T4).al (.cells #[.int .i64 pi,.int .i64 pj] 115))
   have A5:=aA (yD w4 #[.int .i64 pi,.int .i64 pj] 115)
   clear HB4 P4 R4 T4
   cases fr
   case false=>
    have HE:=aA (show gv=none from by rw [uH HG2];rfl)
    obtain ⟨k0,k1,k2,k3,k4,k5,k6,k7,k8,k9,k10,k11,k12,k13⟩:=nE (uH R5) (uH T5) (by omega) 0 0
    have HX:=aA (zA (uH R5) (uH T5) (by omega) 0 0 0 0 (⟨#[]⟩:ByteArray) 0 0)
    have HY:=aA (nG (uH HB5) (g1:=w.heap.size+1) (g2:=w.heap.size+1+1) (by omega) (by omega) 0 0 0 0 (⟨#[]⟩:ByteArray) 0 0)
    go_wp2
    generalize ((((((((w4.alloc (.cells #[.int .i64 pi,.int .i64 pj] 115)).setCell ⟨w.heap.size+1,0,none⟩ (.int .i64 0)).setCell ⟨w.heap.size+1,1,none⟩ (.int .i64 0)).setCell ⟨w.heap.size+1+1,0,none⟩ (.int .i64 0)).setCell ⟨w.heap.size+1+1,1,none⟩ (.int .i64 0)).setCell ⟨w.heap.size+1+1,2,none⟩ (.string (⟨#[]⟩:ByteArray))).setCell ⟨w.heap.size+1+1,3,none⟩ (.int .i64 0)).setCell ⟨w.heap.size+1+1,4,none⟩ (.int .i64 0))=W9 at HX HY ⊢
    have z0:=(uH HX).1.at 0;have z1:=(uH HX).1.at 1;have z2:=(uH HX).2.at 0;have z3:=(uH HX).2.at 1;have z4:=(uH HX).2.at 2;have z5:=(uH HX).2.at 3;have z6:=(uH HX).2.at 4
    simp at z0 z1 z2 z3 z4 z5 z6
    refine bodyPost_ret (v:=.tuple #[rv 0 0,conv ⟨0,0,[],0,0⟩,.bool false]) (by simp [results,Tryz.results69,go_sem,z0,z1,z2,z3,z4,z5,z6];try rfl) rfl ⟨by rw [uH HE];rfl,uH HY⟩
   case true=>
    cases pb
    case false=>
     have HE:=aA (show gv=none from by
      have h1:=uH HPL
      rw [uH HG2]
      cases pk with
      | none=>rfl
      | some r=>simp [plR] at h1)
     obtain ⟨k0,k1,k2,k3,k4,k5,k6,k7,k8,k9,k10,k11,k12,k13⟩:=nE (uH R5) (uH T5) (by omega) 0 0
     have HX:=aA (zA (uH R5) (uH T5) (by omega) 0 0 0 0 (⟨#[]⟩:ByteArray) 0 0)
     have HY:=aA (nG (uH HB5) (g1:=w.heap.size+1) (g2:=w.heap.size+1+1) (by omega) (by omega) 0 0 0 0 (⟨#[]⟩:ByteArray) 0 0)
     go_wp2
     generalize ((((((((w4.alloc (.cells #[.int .i64 pi,.int .i64 pj] 115)).setCell ⟨w.heap.size+1,0,none⟩ (.int .i64 0)).setCell ⟨w.heap.size+1,1,none⟩ (.int .i64 0)).setCell ⟨w.heap.size+1+1,0,none⟩ (.int .i64 0)).setCell ⟨w.heap.size+1+1,1,none⟩ (.int .i64 0)).setCell ⟨w.heap.size+1+1,2,none⟩ (.string (⟨#[]⟩:ByteArray))).setCell ⟨w.heap.size+1+1,3,none⟩ (.int .i64 0)).setCell ⟨w.heap.size+1+1,4,none⟩ (.int .i64 0))=W9 at HX HY ⊢
     have z0:=(uH HX).1.at 0;have z1:=(uH HX).1.at 1;have z2:=(uH HX).2.at 0;have z3:=(uH HX).2.at 1;have z4:=(uH HX).2.at 2;have z5:=(uH HX).2.at 3;have z6:=(uH HX).2.at 4
     simp at z0 z1 z2 z3 z4 z5 z6
     refine bodyPost_ret (v:=.tuple #[rv 0 0,conv ⟨0,0,[],0,0⟩,.bool false]) (by simp [results,Tryz.results69,go_sem,z0,z1,z2,z3,z4,z5,z6];try rfl) rfl ⟨by rw [uH HE];rfl,uH HY⟩
    case true=>
     obtain ⟨i,k,HPK,rfl,rfl⟩:∃i k:Nat,Hid (pk=some (i,k))∧(i:Int)=pi∧(k:Int)=pj:=by
      have h1:=uH HPL
      cases hp:pk with
      | none=>rw [hp] at h1;simp [plR] at h1
      | some r=>rw [hp] at h1;simp only [plR,Prod.mk.injEq] at h1;exact ⟨r.1,r.2,aA rfl,h1.1,h1.2.1⟩
     obtain ⟨hkl,hjk⟩:=uH HP _ (uH HPK)
     simp only at hkl hjk
     have hgc:=uH HC (i,k) hkl hjk
     simp only at hgc
     have hil:i<al:=by have:=uH HAL;omega
     obtain ⟨bb,off,rfl,hqa⟩:=(uH HR).at hil
     have hfa:=(uH HFA).2 _ (List.getElem_mem hkl)
     obtain ⟨xo,xl,xc,c0,c1,c2,hrow,_⟩:=hqa hkl
     replace c0:=Kp.cell (uH HB5) c0
     replace c1:=Kp.cell (uH HB5) c1
     replace c2:=Kp.cell (uH HB5) c2
     obtain ⟨⟨ai,qu,asks⟩,hs'⟩:∃s,apps[i]=s:=⟨_,rfl⟩
     have hjk2:k<asks.length:=by have:=hjk;rw [hs'] at this;exact this
     have hgc2:gc (i,k)=⟨id,ai,nd,asks[k].mem,asks[k].cpu⟩:=by simp only [hgc,hs']
     rw [hs'] at c0 c1 hrow hfa
     simp only at c0 c1 hrow
     have hxl:xl≤1048576:=by have h1:=hrow.1;have h2:=hfa.2.1;simp only at h2;omega
     have hkx:k<xl:=by have:=hrow.1;omega
     have HA:=aA hrow
     have HE:=aA (show gv=some ((i,k),gc (i,k)) from by rw [uH HG2,uH HPK];rfl)
     obtain ⟨am,hsa⟩:∃s,asks[k]=s:=⟨_,rfl⟩
     rw [hsa] at hgc2
     have HGC:=aA hgc2
     have i0:(0:Int)≤i:=by omega
     have i1:(i:Int)<al:=by omega
     have j0:(0:Int)≤k:=by omega
     have j1:(k:Int)<xl:=by omega
     have a0:=(uH A5).at 0;have a1:=(uH A5).at 1
     simp at a0 a1
     have q0:=(uH P5).at 0;have q1:=(uH P5).at 1;have q2:=(uH P5).at 2;have q3:=(uH P5).at 3;have q4:=(uH P5).at 4;have q5:=(uH P5).at 5;have q6:=(uH P5).at 6;have q7:=(uH P5).at 7
     simp at q0 q1 q2 q3 q4 q5 q6 q7
     have hba:=yA (Below.refl _ (w4.alloc (.cells #[.int .i64 (i:Int),.int .i64 (k:Int)] 115))) (.cells #[.int .i64 ai,.string (bs qu),.slice xo xl xc] 74)
     have HB6:=aA (yB (uH HB5) hba)
     have R6:=aA ((uH R5).below hba)
     have T6:=aA ((uH T5).below hba)
     have A6:=aA ((uH A5).below hba)
     have B6:=aA (yD (w4.alloc (.cells #[.int .i64 (i:Int),.int .i64 (k:Int)] 115)) #[.int .i64 ai,.string (bs qu),.slice xo xl xc] 74)
     clear hqa hgc hgc2 hfa hrow hjk hba HB5 P5 R5 T5 A5
     have b0:=(uH B6).at 0;have b1:=(uH B6).at 1;have b2:=(uH B6).at 2;have a2:=(uH A6).at 0;have a3:=(uH A6).at 1
     simp at b0 b1 b2 a2 a3
     obtain ⟨ab,aoff,rfl,ha⟩:=(uH HA).at hkx
     obtain ⟨d0,d1,d2,d3,d4⟩:=ha hjk2
     rw [hsa] at d0 d1 d2 d3 d4
     obtain ⟨me,cp,ct,nx,mi⟩:=am
     simp only at d0 d1 d2 d3 d4 HGC
     have hlt4:w.heap.size+1+1<w4.heap.size:=uH HLT
     obtain ⟨g4,hg4⟩:∃g,w4.heap.size=g:=⟨_,rfl⟩
     go_wp2_with fail
     try rw [yE]
     try rw [hg4]
     rw [hg4] at hlt4 A6
     have B7:=aA (show Blk _ (g4+1) #[.int .i64 ai,.string (bs qu),.slice (some ⟨ab,aoff,none⟩) xl xc] 74 from by have:=uH B6;rw [yE,hg4] at this;exact this)
     obtain ⟨W6,hW6⟩:∃W,(w4.alloc (.cells #[.int .i64 (i:Int),.int .i64 (k:Int)] 115)).alloc (.cells #[.int .i64 ai,.string (bs qu),.slice (some ⟨ab,aoff,none⟩) xl xc] 74)=W:=⟨_,rfl⟩
     rw [hW6] at HB6 R6 T6 A6 B7
     try rw [hW6]
     clear a0 a1 a2 a3 b0 b1 b2 c0 c1 c2 q0 q1 q2 q3 q4 q5 q6 q7 ha B6 hg4 hW6
     have S6:=aA (show HBk w [(g4,#[.int .i64 (i:Int),.int .i64 (k:Int)],115),(g4+1,#[.int .i64 ai,.string (bs qu),.slice (some ⟨ab,aoff,none⟩) xl xc],74)] W6 from ⟨fun p hp=>by
      simp only [List.mem_cons,List.not_mem_nil,or_false] at hp
      rcases hp with rfl | rfl
      ·exact uH A6
      ·exact uH B7,uH HB6⟩)
     have R:∀wx,HBk w [(g4,#[.int .i64 (i:Int),.int .i64 (k:Int)],115),(g4+1,#[.int .i64 ai,.string (bs qu),.slice (some ⟨ab,aoff,none⟩) xl xc],74)] wx→wx.cell? ⟨g4,0,none⟩=some (.int .i64 (i:Int))∧wx.cell? ⟨g4,1,none⟩=some (.int .i64 (k:Int))∧wx.cell? ⟨g4+1,0,none⟩=some (.int .i64 ai)∧wx.cell? ⟨g4+1,1,none⟩=some (.string (bs qu))∧wx.cell? ⟨g4+1,2,none⟩=some (.slice (some ⟨ab,aoff,none⟩) xl xc)∧wx.cell? ⟨ab,aoff+k*5,none⟩=some (.int .i64 me)∧wx.cell? ⟨ab,aoff+k*5+1,none⟩=some (.int .i64 cp):=fun wx h=>by
      have v1:=h.blk (g:=g4) (c:=#[.int .i64 (i:Int),.int .i64 (k:Int)]) (t:=115) (by simp)
      have v2:=h.blk (g:=g4+1) (c:=#[.int .i64 ai,.string (bs qu),.slice (some ⟨ab,aoff,none⟩) xl xc]) (t:=74) (by simp)
      exact ⟨by simpa using v1.at 0,by simpa using v1.at 1,by simpa using v2.at 0,by simpa using v2.at 1,by simpa using v2.at 2,h.cell d0,h.cell d1⟩
     have hn1:∀p ∈ [(g4,#[Value.int .i64 (i:Int),.int .i64 (k:Int)],(115:TypeId)),(g4+1,#[.int .i64 ai,.string (bs qu),.slice (some ⟨ab,aoff,none⟩) xl xc],74)],p.1≠w.heap.size+1:=fun p hp=>by
      simp only [List.mem_cons,List.not_mem_nil,or_false] at hp
      rcases hp with rfl | rfl<;>simp only<;>omega
     have hn2:∀p ∈ [(g4,#[Value.int .i64 (i:Int),.int .i64 (k:Int)],(115:TypeId)),(g4+1,#[.int .i64 ai,.string (bs qu),.slice (some ⟨ab,aoff,none⟩) xl xc],74)],p.1≠w.heap.size+1+1:=fun p hp=>by
      simp only [List.mem_cons,List.not_mem_nil,or_false] at hp
      rcases hp with rfl | rfl<;>simp only<;>omega
     have HN1:=aA hn1
     have HN2:=aA hn2
     have hw1:w.heap.size≤w.heap.size+1:=by omega
     have hw2:w.heap.size≤w.heap.size+1+1:=by omega
     clear hn1 hn2 d0 d1 d2 d3 d4
     go_region_held3 (fun wx=>HBk w [(g4,#[.int .i64 (i:Int),.int .i64 (k:Int)],115),(g4+1,#[.int .i64 ai,.string (bs qu),.slice (some ⟨ab,aoff,none⟩) xl xc],74)] wx)
      (first | (with_reducible assumption) | (with_reducible exact (uH S6).drew))
      (first
      | (go_at_call 67;refine (gK (bs nd) _ hs).mono ?_;rintro e w7 ⟨rfl,hb⟩;have SA0:=HBk.call (uH S6).drew hb;have SA:=aA SA0;have SB1:=(show HBk w [(g4,#[.int .i64 (i:Int),.int .i64 (k:Int)],115),(g4+1,#[.int .i64 ai,.string (bs qu),.slice (some ⟨ab,aoff,none⟩) xl xc],74)] ((w7.setCell ⟨w.heap.size+1,0,none⟩ (.int .i64 (i:Int))).setCell ⟨w.heap.size+1,1,none⟩ (.int .i64 (k:Int))) from HBk.set (HBk.set SA0 _ _ _ hw1 (uH HN1)) _ _ _ hw1 (uH HN1));have SB2:=(show HBk w [(g4,#[.int .i64 (i:Int),.int .i64 (k:Int)],115),(g4+1,#[.int .i64 ai,.string (bs qu),.slice (some ⟨ab,aoff,none⟩) xl xc],74)] (((((((w7.setCell ⟨w.heap.size+1,0,none⟩ (.int .i64 (i:Int))).setCell ⟨w.heap.size+1,1,none⟩ (.int .i64 (k:Int))).setCell ⟨w.heap.size+1+1,0,none⟩ (.int .i64 id)).setCell ⟨w.heap.size+1+1,1,none⟩ (.int .i64 ai)).setCell ⟨w.heap.size+1+1,2,none⟩ (.string (bs nd))).setCell ⟨w.heap.size+1+1,3,none⟩ (.int .i64 me)).setCell ⟨w.heap.size+1+1,4,none⟩ (.int .i64 cp)) from HBk.set (HBk.set (HBk.set (HBk.set (HBk.set SB1 _ _ _ hw2 (uH HN2)) _ _ _ hw2 (uH HN2)) _ _ _ hw2 (uH HN2)) _ _ _ hw2 (uH HN2)) _ _ _ hw2 (uH HN2));have R7:=aA ((uH R6).drew.below hb);have T7:=aA ((uH T6).drew.below hb);obtain ⟨k0,k1,k2,k3,k4,k5,k6,k7,k8,k9,k10,k11,k12,k13⟩:=nE (uH R7) (uH T7) (by omega) (i:Int) (k:Int)))
     have HX:=aA (zA (uH R7) (uH T7) (by omega) (i:Int) (k:Int) id ai (bs nd) me cp)
     have HY:=aA (nG (uH SA).2 (g1:=w.heap.size+1) (g2:=w.heap.size+1+1) (by omega) (by omega) (i:Int) (k:Int) id ai (bs nd) me cp)
     go_wp2
     generalize (((((((w7.setCell ⟨w.heap.size+1,0,none⟩ (.int .i64 (i:Int))).setCell ⟨w.heap.size+1,1,none⟩ (.int .i64 (k:Int))).setCell ⟨w.heap.size+1+1,0,none⟩ (.int .i64 id)).setCell ⟨w.heap.size+1+1,1,none⟩ (.int .i64 ai)).setCell ⟨w.heap.size+1+1,2,none⟩ (.string (bs nd))).setCell ⟨w.heap.size+1+1,3,none⟩ (.int .i64 me)).setCell ⟨w.heap.size+1+1,4,none⟩ (.int .i64 cp))=W9 at HX HY ⊢
     have z0:=(uH HX).1.at 0;have z1:=(uH HX).1.at 1;have z2:=(uH HX).2.at 0;have z3:=(uH HX).2.at 1;have z4:=(uH HX).2.at 2;have z5:=(uH HX).2.at 3;have z6:=(uH HX).2.at 4
     simp at z0 z1 z2 z3 z4 z5 z6
     refine bodyPost_ret (v:=.tuple #[rv (i:Int) (k:Int),conv ⟨id,ai,nd,me,cp⟩,.bool true]) (by simp [results,Tryz.results69,go_sem,z0,z1,z2,z3,z4,z5,z6];try rfl) rfl ⟨by rw [uH HE,uH HGC];rfl,uH HY⟩
end
section
open Go.RowKit
theorem aCP {qs:List Q} {nx:Int}:∀(l:List dB) (last:Int),bP qs nx last l=true→∀a ∈ l,nY a.asks=true
 | [],_,_,a,ha=>by simp at ha
 | x::t,last,h,a,ha=>by
  simp only [bP,Bool.and_eq_true] at h
  rcases List.mem_cons.1 ha with rfl | ha
  ·exact h.2.2.2.1
  ·exact aCP t _ h.2.2.2.2 a ha
theorem aCO {s:St} (h:dN s=true) {i k:Nat} (hi:i<s.apps.length) (hk:k<s.apps[i].asks.length):0≤s.apps[i].asks[k].count∧s.apps[i].asks[k].count≤1000:=by
 simp only [dN,iV,Bool.and_eq_true,iA,jY] at h
 obtain ⟨_,_,_,_,_,⟨_,h6⟩,_⟩:=h
 have h1:=aCP _ _ h6 _ (List.getElem_mem hi)
 simp only [nY,Bool.and_eq_true,List.all_eq_true] at h1
 have h2:=h1.2 _ (List.getElem_mem hk)
 simp only [iI,Bool.and_eq_true,inB,decide_eq_true_eq] at h2
 omega
theorem kT {B b:Nat} {w:World} {arr:Array Value} {t:TypeId} (h:Blk w b arr t) (h1:t≠74) (h2:t≠77):¬aIh B w b:=fun ⟨_,N,e⟩=>by
 have hc:Cel w t b arr.size:=⟨arr,h,rfl⟩
 rcases e with e | e
 ·exact h1 (hc.type e)
 ·exact h2 (hc.type e)
theorem iU.nums {B:Nat} {w:World} {y:Sls} {s s':St} {hs:List AV} (h:iU B w y s hs) (h1:s'.qs=s.qs) (h2:s'.apps=s.apps) (h3:s'.ms=s.ms) (h4:s'.cs=s.cs):iU B w y s' hs:=by
 obtain ⟨a1,a2,a3,a4,a5,a6,a7⟩:=h
 exact ⟨by rw [h1];exact a1,a2,by rw [h2];exact a3,by rw [h3];exact a4,by rw [h4];exact a5,a6,a7⟩
theorem iU.other {B b:Nat} {w w':World} {y:Sls} {s:St} {hs:List AV} {arr:Array Value} (h:iU B w y s hs) (hm:Mks (fun k=>k=b) w w') (hc:Blk w b arr 34):iU B w' y s hs:=by
 have hS:∀k,k=b→∃N,Cel w 34 k N:=fun k e=>by subst e;exact ⟨_,arr,hc,rfl⟩
 exact ⟨h.q.mkg hm hS (by decide),h.p.mkg hm hS (by decide),h.k.mkg hm hS (by decide),h.m.mkg hm hS (by decide),h.c.mkg hm hS (by decide),h.cap,(h.rm.mks hm).mono (Nat.le_refl _) hm.size⟩
theorem aK5 {b:Bool} {p:Prop} (h:b=true):b=false→p:=fun e=>by rw [h] at e;cases e
theorem iU.offc {B g N:Nat} {w w':World} {y:Sls} {s:St} {hs:List AV} (h:iU B w y s hs) (hm:Mks (fun k=>k=g) w w') (hc:Cel w 38 g N) (ho:y.cl≠0→∀o,y.ca≠some ⟨g,o,none⟩):iU B w' y s hs:=by
 have hS:∀k,k=g→∃N,Cel w 38 k N:=fun k e=>by subst e;exact ⟨_,hc⟩
 refine ⟨h.q.mkg hm hS (by decide),h.p.mkg hm hS (by decide),h.k.mkg hm hS (by decide),h.m.mkg hm hS (by decide),⟨h.c.1.mks hm (fun k hk e=>?_),(h.c.2.mks hm).mono (Nat.le_refl _) hm.size⟩,h.cap,(h.rm.mks hm).mono (Nat.le_refl _) hm.size⟩
 subst e
 obtain ⟨h0,o,e⟩:=hk
 exact ho h0 o e
theorem iU.ins {B n:Nat} {w w':World} {y:Sls} {s:St} {hs:List AV} (h:iU B w y s hs) {ao':Option Addr} {cap':Nat} {l:List Con} (hc:CRm B w' ao' n cap' l) (hm:Mks (fun k=>y.cc≠0∧∃N,Cel w 38 k N∧B≤k∧∃o,y.ca=some ⟨k,o,none⟩) w w') :
  iU B w' ⟨y.qa,y.ql,y.qc,y.aa,y.al,y.ac,y.ma,y.ml,y.mc,ao',n,cap'⟩ ⟨s.qs,s.clock,s.epoch,s.next,s.serial,s.apps,s.ms,l⟩ hs:=by
 have hS:∀k,(y.cc≠0∧∃N,Cel w 38 k N∧B≤k∧∃o,y.ca=some ⟨k,o,none⟩)→∃N,Cel w 38 k N:=fun k ⟨_,N,h,_⟩=>⟨N,h⟩
 have hr:=(h.rm.mks hm).mono (Nat.le_refl B) hm.size
 exact ⟨h.q.mkg hm hS (by decide),h.p.mkg hm hS (by decide),h.k.mkg hm hS (by decide),h.m.mkg hm hS (by decide),⟨hc.1,hc.2.own⟩,⟨h.cap.q,h.cap.a,h.cap.m,hc.2.1⟩,hr.1,hr.2.1,hr.2.2.1,hc.2.all,hr.2.2.2.2⟩
def aI8 (B b:Nat) (y:Sls) (s:St) (nd:List UInt8) (w:World) (e:Ending) (w':World):Prop:=
 ∃y' hs',e=.returned (.tuple #[conv (mU (aW s nd)),.bool (aW s nd).isSome])∧Blk w' b (svc y' (fV s nd)) 34∧iU B w' y' (fV s nd) hs'∧Kc B w.heap.size y.ca y.cc w w'∧∀g,y'.ca=some ⟨g,0,none⟩→y'.cc≠0→g<w.heap.size→y.cc≠0∧y.ca=some ⟨g,0,none⟩
theorem aGt {B b:Nat} {y:Sls} {s:St} {hs:List AV} {w:World} (h:iU B w y s hs) (hbx:Blk w b (svc y s) 34) (hBb:B≤b) (hBw:B≤w.heap.size) (nd:List UInt8) (hf:bS s) (hw:aEP s) (hnd:nd.length≤1048576) :
  Calls Tryz.prog 30 #[.pointer (some ⟨b,0,none⟩),.string (bs nd)] w (aI8 B b y s nd w):=by
 have hb1:=yA (Below.refl _ w) (.cells #[.int .i64 0,.int .i64 0,.string ⟨#[]⟩,.int .i64 0,.int .i64 0] 38)
 have H1:=aA (h.below hb1)
 have X1:=aA (hbx.below hb1)
 have G1:=aA (yD w #[.int .i64 0,.int .i64 0,.string ⟨#[]⟩,.int .i64 0,.int .i64 0] 38)
 have B1:=aA (Kc.of (W:=w.heap.size) (ca:=y.ca) (cc:=y.cc) hb1 hBw)
 have CN:=aA (aHy y s nd _ (uH H1).ans.row hf h.cap.q hw hnd)
 have HFC:=aA (fun p (e:aW s nd=some p)=>nH e)
 have HG:=aA (show ∀e w',aI8 B b y s nd w e w'↔∃y' hs',e=.returned (.tuple #[conv (mU (aW s nd)),.bool (aW s nd).isSome])∧Blk w' b (svc y' (match aW s nd with | none=>s | some p=>jQ s p)) 34∧iU B w' y' (match aW s nd with | none=>s | some p=>jQ s p) hs'∧Kc B w.heap.size y.ca y.cc w w'∧∀g,y'.ca=some ⟨g,0,none⟩→y'.cc≠0→g<w.heap.size→y.cc≠0∧y.ca=some ⟨g,0,none⟩ from fun e w'=>Iff.rfl)
 obtain ⟨p,hp⟩:∃p,aW s nd=p:=⟨_,rfl⟩
 rw [hp] at CN HG HFC
 have hrow:=aA (fun (hc:y.cc≠0)=>show ∃g,y.ca=some ⟨g,0,none⟩∧g<w.heap.size from by
  rcases h.rm.2.2.2.1 with e | ⟨g,M,e,_,e2,_⟩
  ·exact absurd e hc
  ·exact ⟨g,e,e2⟩)
 have HP:=aA hp
 have hbl:=hbx.lt
 clear hb1 h hbx hp
 obtain ⟨g4,hg4⟩:∃g,w.heap.size=g:=⟨_,rfl⟩
 rw [hg4] at G1 hbl
 have HG4:=aA hg4
 cases p with
 | none=>
  simp only [atR,mU,Option.isSome_none] at CN HG
  have u0:=(uH X1).at 0;have u1:=(uH X1).at 1;have u2:=(uH X1).at 2;have u3:=(uH X1).at 3;have u4:=(uH X1).at 4;have u5:=(uH X1).at 5;have u6:=(uH X1).at 6;have u7:=(uH X1).at 7
  simp at u0 u1 u2 u3 u4 u5 u6 u7
  go_enter Tryz.func30,Tryz.ntmps30
  go_wp2_with fail
  refine (uH CN).mono ?_
  rintro e w2 ⟨rfl,hb⟩
  have hb3:=yA (yA (Below.refl _ w2) (.cells #[.int .i64 0,.int .i64 0] 115)) (.cells #[.int .i64 0,.int .i64 0,.string (bs []),.int .i64 0,.int .i64 0] 38)
  have H3:=aA (((uH H1).below hb).below hb3)
  have X3:=aA (((uH X1).below hb).below hb3)
  have G3:=aA (((uH G1).below hb).below hb3)
  have B3:=aA (show Kc B w.heap.size y.ca y.cc w _ from (uH B1).trans ((Kc.of hb (by rw [yE];omega)).trans (Kc.of hb3 (by have:=hb.size;rw [yE] at this;omega))))
  clear u0 u1 u2 u3 u4 u5 u6 u7 hb hb3 CN H1 X1 G1 B1
  go_upto_region 3 with fail
  generalize (w2.alloc (.cells #[.int .i64 0,.int .i64 0] 115)).alloc (.cells #[.int .i64 0,.int .i64 0,.string (bs []),.int .i64 0,.int .i64 0] 38)=w3 at H3 X3 G3 B3 ⊢
  have c0:=(uH G3).at 0;have c1:=(uH G3).at 1;have c2:=(uH G3).at 2;have c3:=(uH G3).at 3;have c4:=(uH G3).at 4
  simp at c0 c1 c2 c3 c4
  have f0:=(uH G3).f 0;have f1:=(uH G3).f 1;have f2:=(uH G3).f 2;have f3:=(uH G3).f 3;have f4:=(uH G3).f 4
  have s0:=gT c0;have s1:=gT c1;have s2:=gT c2;have s3:=gT c3;have s4:=gT c4
  have HA:=aA (show aI8 B b y s nd w (.returned (.tuple #[conv ⟨0,0,[],0,0⟩,.bool false])) w3 from (uH HG _ _).2 ⟨y,hs,rfl,uH X3,uH H3,uH B3,fun g e hc _=>⟨hc,e⟩⟩)
  clear HG H3 X3 G3 B3
  go_wp2
  refine bodyPost_ret (v:=.tuple #[conv ⟨0,0,[],0,0⟩,.bool false]) (by simp [results,Tryz.results30,go_sem,c0,c1,c2,c3,c4];try rfl) rfl ?_
  exact uH HA
 | some p=>
  obtain ⟨⟨i,k⟩,c⟩:=p
  obtain ⟨hok,hnx,hcl,hi,hk,hce⟩:=uH HFC _ rfl
  simp only at hi hk hce
  have hcn:c.node.length≤1048576:=by rw [hce];exact hnd
  have HFS:=aA (show bS (jQ s ((i,k),c)) by have:=aBz hf hnd;rw [oG (uH HP)] at this;exact this)
  have hpa:∃pg,y.aa=some ⟨pg,0,none⟩:=by
   rcases (uH H1).p.2 with e | ⟨g,M,e,_⟩
   ·have h1:=(uH H1).p.1.1;have h2:=(uH H1).k.heads.1;omega
   ·exact ⟨g,e⟩
  obtain ⟨pg,hpa⟩:=hpa
  have HPA:=aA hpa
  have i1:(i:Int)<y.al:=by have h1:=(uH H1).p.1.1;have h2:=(uH H1).k.heads.1;omega
  have i0:(0:Int)≤i:=by omega
  obtain ⟨hasc,_,hse⟩:=uZ hok
  have CS:=aA (fun wx hsx (hx:iU B wx y s hsx)=>aGD hx hpa hi hk hf (aCO hok hi hk))
  have HAS:=aA hasc
  simp only [atR,mU,Option.isSome_some] at CN HG
  obtain ⟨c0,c1,cn,c3,c4⟩:=c
  simp only at CN HG HFS hcn
  have hclm:y.cl≤1048576:=by have h1:=(uH H1).c.1.1;omega
  clear hce hpa hasc HFC HP hi hk hnx hcl hok
  have u0:=(uH X1).at 0;have u1:=(uH X1).at 1;have u2:=(uH X1).at 2;have u3:=(uH X1).at 3;have u4:=(uH X1).at 4;have u5:=(uH X1).at 5;have u6:=(uH X1).at 6;have u7:=(uH X1).at 7
  simp at u0 u1 u2 u3 u4 u5 u6 u7
  go_enter Tryz.func30,Tryz.ntmps30
  go_wp2_with fail
  refine (uH CN).mono ?_
  rintro e w2 ⟨rfl,hb⟩
  have hb3:=yA (yA (Below.refl _ w2) (.cells #[.int .i64 (i:Int),.int .i64 (k:Int)] 115)) (.cells #[.int .i64 c0,.int .i64 c1,.string (bs cn),.int .i64 c3,.int .i64 c4] 38)
  have H3:=aA (((uH H1).below hb).below hb3)
  have X3:=aA (((uH X1).below hb).below hb3)
  have G3:=aA (((uH G1).below hb).below hb3)
  have G6:=aA ((yD w2 #[.int .i64 (i:Int),.int .i64 (k:Int)] 115).al (.cells #[.int .i64 c0,.int .i64 c1,.string (bs cn),.int .i64 c3,.int .i64 c4] 38))
  have G7:=aA (yD (w2.alloc (.cells #[.int .i64 (i:Int),.int .i64 (k:Int)] 115)) #[.int .i64 c0,.int .i64 c1,.string (bs cn),.int .i64 c3,.int .i64 c4] 38)
  rw [yE] at G7
  have B3:=aA (show Kc B w.heap.size y.ca y.cc w _ from (uH B1).trans ((Kc.of hb (by rw [yE];omega)).trans (Kc.of hb3 (by have:=hb.size;rw [yE] at this;omega))))
  have hz2:g4<w2.heap.size:=by have:=hb.size;rw [yE] at this;omega
  clear u0 u1 u2 u3 u4 u5 u6 u7 hb hb3 CN H1 X1 G1 B1
  go_upto_region 4 with fail
  generalize (w2.alloc (.cells #[.int .i64 (i:Int),.int .i64 (k:Int)] 115)).alloc (.cells #[.int .i64 c0,.int .i64 c1,.string (bs cn),.int .i64 c3,.int .i64 c4] 38)=w3 at H3 X3 G3 G6 G7 B3 ⊢
  generalize w2.heap.size=g6 at G6 G7 hz2 ⊢
  refine wp_region_held_drew (S:=fun wx=>Blk wx b (svc y s) 34∧Blk wx g6 #[.int .i64 (i:Int),.int .i64 (k:Int)] 115) (by kernel_rfl) ⟨(uH X3).drew,(uH G6).drew⟩ (fun S0=>?_)
  have H4:=aA ((uH H3).below (Below.refl _ w3).drew)
  have G4:=aA (uH G3).drew
  have G8:=aA (uH G7).drew
  have B4:=aA ((uH B3).trans (Kc.of (Below.refl _ w3).drew (Nat.le_trans hBw (uH B3).below.size)))
  have hz3:B≤w3.drew.heap.size:=by have:=(uH B3).below.size;exact Nat.le_trans hBw this
  clear H3 X3 G3 G6 G7 B3
  generalize w3.drew=wn at S0 H4 G4 G8 B4 hz3 ⊢
  refine aB 0 23 _ rfl rfl S0 ?_
  try simp only [Act.put,sA,sB,sC]
  refine aB 1 24 _ rfl rfl S0 ?_
  try simp only [Act.put,sA,sB,sC]
  refine aB 2 25 _ rfl rfl S0 ?_
  try simp only [Act.put,sA,sB,sC]
  refine aB 3 26 (.slice (some ⟨pg,0,none⟩) y.al y.ac) rfl rfl S0 ?_ (hy:=Or.inl ⟨by rfl,fun wz hz=>by (have c5:=hz.1.at 5;simp at c5;rw [uH HPA] at c5;go_simp)⟩)
  try simp only [Act.put,sA,sB,sC]
  refine aB 4 27 _ rfl rfl S0 ?_
  try simp only [Act.put,sA,sB,sC]
  refine aB 5 28 (.int .i64 (i:Int)) rfl rfl S0 ?_ (hy:=Or.inl ⟨by rfl,fun wz hz=>by (have q0:=hz.2.at 0;simp at q0;go_simp)⟩)
  try simp only [Act.put,sA,sB,sC]
  refine aB 6 29 (.pointer (some ⟨pg,i*3,none⟩)) rfl rfl S0 ?_
  try simp only [Act.put,sA,sB,sC]
  refine aB 7 30 _ rfl rfl S0 ?_
  try simp only [Act.put,sA,sB,sC]
  refine aB 8 31 (.int .i64 (k:Int)) rfl rfl S0 ?_ (hy:=Or.inl ⟨by rfl,fun wz hz=>by (have q0:=hz.2.at 1;simp at q0;go_simp)⟩)
  try simp only [Act.put,sA,sB,sC]
  refine wpAnyH_ready (rs:=[9]) (by kernel_rfl) (by simp) (AllReadyH.cons rfl (fun K hK=>?_) AllReadyH.nil)
  go_simp
  refine (uH CS _ _ (uH H4)).mono ?_
  rintro e w4 ⟨rfl,hs4,h4,hm4⟩
  have S1:=And.intro (hm4.blk S0.1 (kT S0.1 (by decide) (by decide))) (hm4.blk S0.2 (kT S0.2 (by decide) (by decide)))
  have G5:=aA (hm4.blk (uH G4) (kT (uH G4) (by decide) (by decide)))
  have G9:=aA (hm4.blk (uH G8) (kT (uH G8) (by decide) (by decide)))
  have B5:=aA ((uH B4).trans (Kc.mks hm4 (fun k e=>e.1) hz3 (fun k arr _ hb hs=>absurd hs (kT hb (by decide) (by decide)))))
  have hz4:B≤w4.heap.size:=Nat.le_trans hz3 hm4.size
  have H5:=aA h4
  clear S0 H4 G4 G8 B4 hz3 h4 hm4 CS
  go_wp2_with fail
  refine hK.out _ _ S1 (fun S0=>?_)
  clear hK K S1
  try simp only [Act.put,sA,sB,sC]
  refine wpAnyH_done (by kernel_rfl) ?_ _
  have X5:=aA S0.1
  clear S0
  have x4:=(uH X5).at 4
  simp at x4
  have fx4:=(uH X5).f 4
  have hws:IntKind.i64.wrap (s.serial+1)=s.serial+1:=by rw [IntKind.wrap_i64];omega
  go_upto_region 6 with fail
  have X6:=aA ((uH X5).set 4 (.int .i64 (s.serial+1)))
  have M6:=aA (Mks.one (fun k=>k=b) w4 b 4 (.int .i64 (s.serial+1)) rfl)
  clear x4 fx4
  generalize w4.setCell ⟨b,4,none⟩ (.int .i64 (s.serial+1))=w5 at X6 M6 ⊢
  have x4:=(uH X6).at 4
  simp at x4
  have fx4:=(uH X6).f 4
  go_upto_if 44 with fail
  go_cut [40] from 41 to 47 (fun v40 wx=>Hid (Blk wx b (svc y ⟨s.qs,s.clock,s.epoch,s.next,dC s.serial,bK s.apps (i,k),s.ms,s.cs⟩) 34∧Mks (fun k=>k=b) w4 wx))
  case first=>
   by_cases hs9:99999<s.serial+1
   ·go_wp2_with fail
    go_meet
    refine aA ⟨?_,(uH M6).trans (Mks.one (fun k=>k=b) w5 b 4 (.int .i64 1) rfl)⟩
    have:=(uH X6).set 4 (.int .i64 1)
    simp only [dC]
    rw [if_pos (by omega)]
    exact this
   ·go_wp2_with fail
    go_meet
    refine aA ⟨?_,uH M6⟩
    simp only [dC]
    rw [if_neg (by omega)]
    exact uH X6
  case rest=>
   clear x4 fx4 X6 M6 hws
   have X7:=aA (uH hcut).1
   have H7:=aA (((uH H5).other (uH hcut).2 (uH X5)).nums (s':=⟨s.qs,s.clock,s.epoch,s.next,dC s.serial,bK s.apps (i,k),s.ms,s.cs⟩) rfl rfl rfl rfl)
   have G4:=aA ((uH hcut).2.blk (uH G5) (by omega))
   have G7:=aA ((uH hcut).2.blk (uH G9) (by omega))
   have B7:=aA ((uH B5).trans (Kc.mks (uH hcut).2 (fun k e=>by subst e;exact hBb) hz4 (fun k arr _ hb e=>by subst e;exact absurd (aEM hb (uH X5)) (by decide))))
   have hz7:B≤wc.heap.size:=Nat.le_trans hz4 (uH hcut).2.size
   clear hcut H5 G5 G9 B5 X5 hz4
   obtain ⟨w7,rfl⟩:∃z,z=wc:=⟨_,rfl⟩
   go_upto_region 8 with fail
   have CP:=aA (fun wx (hx:iU B wx y ⟨s.qs,s.clock,s.epoch,s.next,dC s.serial,bK s.apps (i,k),s.ms,s.cs⟩ hs4)=>qA y ⟨s.qs,s.clock,s.epoch,s.next,dC s.serial,bK s.apps (i,k),s.ms,s.cs⟩ c0 wx hx.ans.row ⟨hf.1,(uH HFS).2.1,hf.2.2.1,hf.2.2.2⟩ (uH HAS))
   refine wp_region_held_drew (S:=fun wx=>Kp w7 wx) (by kernel_rfl) ((cB w7).drew (Kp.new w7)) (fun S0=>?_)
   generalize w7.drew=wn at S0 ⊢
   refine aB 0 49 _ rfl rfl S0 ?_
   try simp only [Act.put,sA,sB,sC]
   refine aB 1 50 _ rfl rfl S0 ?_
   try simp only [Act.put,sA,sB,sC]
   refine aB 2 51 (sv y ⟨s.qs,s.clock,s.epoch,s.next,dC s.serial,bK s.apps (i,k),s.ms,s.cs⟩) rfl rfl S0 ?_ (hy:=Or.inl ⟨by rfl,fun wz hz=>mF (jE ((uH X7).below hz) rfl)⟩)
   try simp only [Act.put,sA,sB,sC]
   refine aB 3 52 _ rfl rfl S0 ?_
   try simp only [Act.put,sA,sB,sC]
   refine aB 4 53 (.int .i64 c0) rfl rfl S0 ?_ (hy:=Or.inl ⟨by rfl,fun wz hz=>by (have q0:=((uH G7).below hz).at 0;simp at q0;go_simp)⟩)
   try simp only [Act.put,sA,sB,sC]
   refine wpAnyH_ready (rs:=[5]) (by kernel_rfl) (by simp) (AllReadyH.cons rfl (fun K hK=>?_) AllReadyH.nil)
   go_simp
   refine (uH CP _ ((uH H7).below S0)).mono ?_
   rintro e wq ⟨pp,ff,rfl,hp1,hp2,hp3,-,hb⟩
   have S1:Kp w7 wq:=yB S0 hb
   have hpl:=aA (show gQ c0 s.cs=pp from aBQ hp1 hp2 hp3)
   have hpn:pp≤y.cl:=by have h1:=(uH H7).c.1.1;simp only at h1 hp1;omega
   clear S0 hb hp1 hp2 hp3 CP
   go_wp2_with fail
   refine hK.out _ _ S1 (fun S0=>?_)
   clear hK K S1
   try simp only [Act.put,sA,sB,sC]
   refine aB 6 48 _ rfl rfl S0 ?_
   try simp only [Act.put,sA,sB,sC]
   refine aB 7 55 (.int .i64 (pp:Int)) rfl rfl S0 ?_
   try simp only [Act.put,sA,sB,sC]
   refine aB 8 56 (.bool ff) rfl rfl S0 ?_
   try simp only [Act.put,sA,sB,sC]
   refine aB 9 9 _ rfl rfl S0 ?_
   try simp only [Act.put,sA,sB,sC]
   refine aB 10 10 _ rfl rfl S0 ?_
   try simp only [Act.put,sA,sB,sC]
   refine wpAnyH_done (by kernel_rfl) ?_ _
   have X8:=aA ((uH X7).below S0)
   have H8:=aA ((uH H7).below S0)
   have G48:=aA ((uH G4).below S0)
   have G78:=aA ((uH G7).below S0)
   have B8:=aA ((uH B7).trans (Kc.of (show Below w7.heap.size w7 wq from S0) hz7))
   have hz8:B≤wq.heap.size:=Nat.le_trans hz7 S0.size
   clear S0 X7 H7 G4 G7 B7 hz7
   go_upto_region 9 with fail
   refine aCZ 9 (fun wx=>Blk wx (g6+1) #[.int .i64 c0,.int .i64 c1,.string (bs cn),.int .i64 c3,.int .i64 c4] 38) (fun wx=>Below wq.heap.size wq wx) (by kernel_rfl) (uH G78).drew (Below.refl _ wq).drew (fun S0 T0=>?_)
   generalize wq.drew=wn at S0 T0 ⊢
   refine xY 0 57 _ rfl rfl S0 T0 ?_
   try simp only [Act.put,sA,sB,sC]
   refine xY 1 58 _ rfl rfl S0 T0 ?_
   try simp only [Act.put,sA,sB,sC]
   refine xY 2 59 _ rfl rfl S0 T0 ?_
   try simp only [Act.put,sA,sB,sC]
   refine xY 3 60 _ rfl rfl S0 T0 ?_
   try simp only [Act.put,sA,sB,sC]
   refine aJf 4 61 (.slice y.ca y.cl y.cc) rfl rfl S0 T0 ?_ (hy:=Or.inl ⟨by rfl,fun wz hz=>by (have c7:=((uH X8).below hz).at 7;simp at c7;go_simp)⟩)
   try simp only [Act.put,sA,sB,sC]
   refine xY 5 62 _ rfl rfl S0 T0 ?_
   try simp only [Act.put,sA,sB,sC]
   refine xY 6 63 (conv ⟨c0,c1,cn,c3,c4⟩) rfl rfl S0 T0 ?_ (hy:=Or.inl ⟨by rfl,fun wz hz=>mF (mR hz rfl)⟩)
   try simp only [Act.put,sA,sB,sC]
   refine mG [7] (dZ.cons rfl (fun K hK=>?_) dZ.nil)
   go_simp
   refine (nX ⟨c0,c1,cn,c3,c4⟩ _ hcn).mono ?_
   rintro e wm ⟨rfl,hb⟩
   have S1:=S0.below hb
   have T1:=yB T0 hb
   clear S0 T0 hb
   go_wp2_with fail
   refine hK.out _ _ S1 (fun _=>T1) ?_
   clear hK K
   have S0:=S1
   have T0:=T1
   clear S1 T1
   try simp only [Act.put,sA,sB,sC]
   have S1:=S0.below (yA (Below.refl _ wm) (.cells #[.int .i64 c0,.int .i64 c1,.string (bs cn),.int .i64 c3,.int .i64 c4] 38))
   have T1:=yA T0 (.cells #[.int .i64 c0,.int .i64 c1,.string (bs cn),.int .i64 c3,.int .i64 c4] 38)
   have hgv:wq.heap.size≤wm.heap.size:=T0.size
   have GV:=aA (yD wm #[.int .i64 c0,.int .i64 c1,.string (bs cn),.int .i64 c3,.int .i64 c4] 38)
   refine mG [8] (dZ.cons rfl (fun K hK=>aGI 65 (by rfl) rfl (mF (aIo wm 32 38 _ (.agg #[.int .i64 0,.int .i64 0,.string ByteArray.empty,.int .i64 0,.int .i64 0]) (.int .i64 c0) (.int .i64 c1) (.string (bs cn)) (.int .i64 c3) (.int .i64 c4) Tryz.underlying32 (by kernel_rfl) (by simp only [List.map_toArray,List.map_cons,List.map_nil];rfl))) ?_) dZ.nil)
   refine hK.out _ _ S1 (fun _=>T1) ?_
   clear hK K S0 T0
   generalize wm.alloc (.cells #[.int .i64 c0,.int .i64 c1,.string (bs cn),.int .i64 c3,.int .i64 c4] 38)=wv at S1 T1 GV ⊢
   generalize wm.heap.size=gv at GV hgv ⊢
   try simp only [Act.put,sA,sB,sC]
   have HV:=aA ((uH H8).below T1)
   have hg4q:g4<wq.heap.size:=(uH G48).lt
   have hne:y.cc≠0→∀o,y.ca≠some ⟨gv,o,none⟩:=fun hc o e=>by
    obtain ⟨g,e2,hgl⟩:=uH hrow hc
    rw [e2] at e
    cases e
    omega
   have CI:=aA (aDP (B:=B) y.ca y.cl y.cc gv pp s.cs ⟨c0,c1,cn,c3,c4⟩ wv ⟨(uH HV).c.1,aIp (uH HV).rm.2.2.2.1 (uH HV).cap.c⟩ (uH GV) hne hpn hclm (Nat.le_trans hz8 T1.size))
   have X9:=aA ((uH X8).below T1)
   have G49:=aA ((uH G48).below T1)
   have B9:=aA ((uH B8).trans (Kc.of T1 hz8))
   have hz9:B≤wv.heap.size:=Nat.le_trans hz8 T1.size
   have hg4v:g4<wv.heap.size:=Nat.lt_of_lt_of_le hg4q T1.size
   clear H8 X8 G48 B8 T1 GV hne hgv
   refine mG [9] (dZ.cons rfl (fun K hK=>?_) dZ.nil)
   go_simp
   refine (uH CI).mono ?_
   rintro e w8 ⟨ao,cp,rfl,hcr,hmk,hor⟩
   have hoff:∀q,g4≤q→¬(y.cc≠0∧∃N,Cel wv 38 q N∧B≤q∧∃o,y.ca=some ⟨q,o,none⟩):=fun q hq ⟨hc,_,_,_,o,e⟩=>by
    obtain ⟨g,e2,hgl⟩:=uH hrow hc
    rw [e2] at e
    cases e
    omega
   have S2:=hmk.blk S1 (hoff _ (by omega))
   have G410:=aA (hmk.blk (uH G49) (hoff _ (Nat.le_refl _)))
   have X10:=aA (hmk.blk (uH X9) (fun ⟨_,N,hc,_⟩=>by have hc2:Cel wv 34 b _:=⟨_,uH X9,rfl⟩;exact absurd (hc2.type hc) (by decide)))
   have H10:=aA ((uH HV).ins hcr hmk)
   have B10:=aA ((uH B9).trans (Kc.mks hmk (fun k e=>e.2.choose_spec.2.1) hz9 (fun k arr _ _ e=>⟨e.1,e.2.choose_spec.2.2⟩)))
   have hao:∀o,ao≠some ⟨g4,o,none⟩:=fun o e=>by
    rcases hor with ⟨hc,e2⟩ | ⟨g',e2,hg'⟩
    ·obtain ⟨g,e3,hgl⟩:=uH hrow hc
     rw [e2,e3] at e
     cases e
     omega
    ·rw [e2] at e
     cases e
     omega
   have HAO:=aA hao
   have HCA:=aA (fun g (e:ao=some ⟨g,0,none⟩) (hg:g<w.heap.size)=>show y.cc≠0∧y.ca=some ⟨g,0,none⟩ from by
    rcases hor with ⟨hc,e2⟩ | ⟨g',e2,hg'⟩
    ·exact ⟨hc,e2.symm.trans e⟩
    ·rw [e2] at e
     cases e
     have:=uH HG4
     omega)
   have hz10:B≤w8.heap.size:=Nat.le_trans hz9 hmk.size
   clear HV X9 G49 B9 CI hcr hmk hor hoff hao S1 hz9
   go_wp2_with fail
   refine hK.out _ _ S2 (aK5 (by kernel_rfl)) ?_
   clear hK K
   try simp only [Act.put,sA,sB,sC]
   refine aAt _ _ _ _ (by kernel_rfl) ?_
   refine aB 10 67 _ rfl rfl S2 ?_
   try simp only [Act.put,sA,sB,sC]
   refine aB 11 68 _ rfl rfl S2 ?_
   try simp only [Act.put,sA,sB,sC]
   have M11:=Mks.one (fun k=>k=b) w8 b 7 (.slice ao (y.cl+1) cp) rfl
   have S3:=M11.blk S2 (by omega)
   have X11:=aA (show Blk _ b (svc ⟨y.qa,y.ql,y.qc,y.aa,y.al,y.ac,y.ma,y.ml,y.mc,ao,y.cl+1,cp⟩ ⟨s.qs,s.clock,s.epoch,s.next,dC s.serial,bK s.apps (i,k),s.ms,s.cs.take pp++⟨c0,c1,cn,c3,c4⟩::s.cs.drop pp⟩) 34 from (uH X10).set 7 (.slice ao (y.cl+1) cp))
   have H11:=aA ((uH H10).other M11 (uH X10))
   have G411:=aA (M11.blk (uH G410) (by omega))
   have B11:=aA ((uH B10).trans (Kc.mks M11 (fun k e=>by subst e;exact hBb) hz10 (fun k arr _ hb e=>by subst e;exact absurd (aEM hb (uH X10)) (by decide))))
   have hz11:B≤(w8.setCell ⟨b,7,none⟩ (.slice ao (y.cl+1) cp)).heap.size:=by rw [bE];exact hz10
   refine wpAnyH_ready (rs:=[12]) (by kernel_rfl) (by simp) (AllReadyH.cons rfl (fun K hK=>aBJ (by rfl) rfl (tJ (aHn 32 (.slice ao (y.cl+1) cp) (uH X10) (by show 7<8;decide) (by kernel_rfl) rfl)) ?_) AllReadyH.nil)
   refine hK.out _ _ S3 (fun _=>?_)
   clear hK K X10 H10 G410 B10 S2 M11 hz10
   try simp only [Act.put,sA,sB,sC]
   refine wpAnyH_done (by kernel_rfl) ?_ _
   have G711:=aA S3
   clear S3
   generalize w8.setCell ⟨b,7,none⟩ (.slice ao (y.cl+1) cp)=w9 at X11 H11 G411 B11 G711 hz11 ⊢
   go_upto_region 10 with fail
   refine wp_region_lit ?_
   refine dK (v:=conv ⟨c0,c1,cn,c3,c4⟩) (d:=some 69) rfl rfl (mF (mR (uH G711) rfl)) ?_
   simp only [Act.put,sA,sB,sC]
   refine fK (d:=none) rfl rfl (tJ (eX 38 (arr:=#[.int .i64 c0,.int .i64 c1,.string (bs cn),.int .i64 c3,.int .i64 c4]) (uH G411) (by kernel_rfl) rfl (by kernel_rfl))) ?_
   simp only [Act.put]
   have RR:=aA (iO (uH G411) #[.int .i64 c0,.int .i64 c1,.string (bs cn),.int .i64 c3,.int .i64 c4])
   have MM:=jK (uH G411) #[.int .i64 c0,.int .i64 c1,.string (bs cn),.int .i64 c3,.int .i64 c4] rfl
   have X12:=aA (MM.blk (uH X11) (by omega))
   have H12:=aA ((uH H11).offc MM ⟨_,uH G411,rfl⟩ (fun _=>uH HAO))
   have B12:=aA ((uH B11).trans (Kc.mks MM (fun k e=>by subst e;have:=uH HG4;omega) hz11 (fun k arr hk _ e=>by subst e;have:=uH HG4;omega)))
   clear X11 H11 G411 B11 G711 MM hz11
   generalize World.setRow w9 g4 #[.int .i64 c0,.int .i64 c1,.string (bs cn),.int .i64 c3,.int .i64 c4]=w10 at RR X12 H12 B12 ⊢
   have HA:=aA (show aI8 B b y s nd w (.returned (.tuple #[conv ⟨c0,c1,cn,c3,c4⟩,.bool true])) w10 from (uH HG _ _).2 (by
    have e3:jQ s ((i,k),⟨c0,c1,cn,c3,c4⟩)=⟨s.qs,s.clock,s.epoch,s.next,dC s.serial,bK s.apps (i,k),s.ms,s.cs.take pp++⟨c0,c1,cn,c3,c4⟩::s.cs.drop pp⟩:=by unfold jQ vU;simp only;rw [uH hpl]
    simp only [e3]
    exact ⟨⟨y.qa,y.ql,y.qc,y.aa,y.al,y.ac,y.ma,y.ml,y.mc,ao,y.cl+1,cp⟩,hs4,(by first | rfl | trivial),uH X12,uH H12,uH B12,fun g e _ hg=>uH HCA g e hg⟩))
   have r0:=(uH RR).at 0;have r1:=(uH RR).at 1;have r2:=(uH RR).at 2;have r3:=(uH RR).at 3;have r4:=(uH RR).at 4
   simp at r0 r1 r2 r3 r4
   clear X12 H12 B12 RR HG
   go_wp2
   refine bodyPost_ret (v:=.tuple #[conv ⟨c0,c1,cn,c3,c4⟩,.bool true]) (by simp [results,Tryz.results30,go_sem,r0,r1,r2,r3,r4];try rfl) rfl ?_
   exact uH HA
theorem iU.low {B g:Nat} {w w':World} {y:Sls} {s:St} {hs:List AV} (h:iU B w y s hs) (hm:Mks (fun k=>k=g) w w') (hg:g<B):iU B w' y s hs:=
 ⟨⟨h.q.1.mks hm (pK h.q.2 (.inl hg)),(h.q.2.mks hm).mono (Nat.le_refl _) hm.size⟩,⟨h.p.1.mks hm (pK h.p.2 (.inl hg)),(h.p.2.mks hm).mono (Nat.le_refl _) hm.size⟩,
  ⟨⟨h.k.heads.1,fun i h1 h2=>let ⟨a,b',c,d⟩:=h.k.heads.2 i h1 h2;⟨a,b',c.mks hm (pK (h.k.own _ (List.getElem_mem h1)) (.inl hg)),d⟩⟩,fun v hv=>((h.k.own v hv).mks hm).mono (Nat.le_refl _) hm.size,h.k.apart⟩,
  ⟨h.m.1.mks hm (pK h.m.2 (.inl hg)),(h.m.2.mks hm).mono (Nat.le_refl _) hm.size⟩,⟨h.c.1.mks hm (pK h.c.2 (.inl hg)),(h.c.2.mks hm).mono (Nat.le_refl _) hm.size⟩,h.cap,(h.rm.mks hm).mono (Nat.le_refl _) hm.size⟩
def aDa (w:World) (s:St) (c:Con) (ok:Bool) (e:Ending) (w':World):Prop:=
 ∃y hs,e=.returned (.tuple #[sv y s,conv c,.bool ok])∧qH w.heap.size w'.heap.size w' y s hs∧Below w.heap.size w w'
theorem aAa (x:Sls) (s:St) (nd:List UInt8) (w:World) (h:iJ w x s) (hf:bS s) (hw:aEP s) (hnd:nd.length≤1048576) :
  Calls Tryz.prog 8 #[sv x s,.string (bs nd)] w (aDa w (fV s nd) (mU (aW s nd)) (aW s nd).isSome):=by
 have hb1:=yA (yA (yA (Below.refl _ w) (.cells (svc x s) 34)) (.cells #[.slice none 0 0,.int .i64 0,.int .i64 0,.int .i64 0,.int .i64 0,.slice none 0 0,.slice none 0 0,.slice none 0 0] 34)) (.cells #[.int .i64 0,.int .i64 0,.string ⟨#[]⟩,.int .i64 0,.int .i64 0] 38)
 have P0:=aA (((yD w (svc x s) 34).al (.cells #[.slice none 0 0,.int .i64 0,.int .i64 0,.int .i64 0,.int .i64 0,.slice none 0 0,.slice none 0 0,.slice none 0 0] 34)).al (.cells #[.int .i64 0,.int .i64 0,.string ⟨#[]⟩,.int .i64 0,.int .i64 0] 38))
 have P1:=aA ((yD (w.alloc (.cells (svc x s) 34)) #[.slice none 0 0,.int .i64 0,.int .i64 0,.int .i64 0,.int .i64 0,.slice none 0 0,.slice none 0 0,.slice none 0 0] 34).al (.cells #[.int .i64 0,.int .i64 0,.string ⟨#[]⟩,.int .i64 0,.int .i64 0] 38))
 have P2:=aA (yD ((w.alloc (.cells (svc x s) 34)).alloc (.cells #[.slice none 0 0,.int .i64 0,.int .i64 0,.int .i64 0,.int .i64 0,.slice none 0 0,.slice none 0 0,.slice none 0 0] 34)) #[.int .i64 0,.int .i64 0,.string ⟨#[]⟩,.int .i64 0,.int .i64 0] 38)
 have CC:=aA (wG x s _ (h.below hb1) hf)
 rw [yE] at P1
 rw [yE,yE] at P2
 have CG:=aA (fun B b y hs wx (hx:iU B wx y s hs) (hb:Blk wx b (svc y s) 34) (h1:B≤b) (h2:B≤wx.heap.size)=>show Calls Tryz.prog 30 #[.pointer (some ⟨b,0,none⟩),.string (bs nd)] wx (fun e w'=>∃y' hs',e=.returned (.tuple #[conv (mU (aW s nd)),.bool (aW s nd).isSome])∧Blk w' b (svc y' (fV s nd)) 34∧iU B w' y' (fV s nd) hs'∧Below B wx w') from (aGt hx hb h1 h2 nd hf hw hnd).mono (fun e w' ⟨y',hs',a1,a2,a3,a4,_⟩=>⟨y',hs',a1,a2,a3,a4.below⟩))
 obtain ⟨S2,hS2⟩:∃t,fV s nd=t:=⟨_,rfl⟩
 obtain ⟨c,hc⟩:∃t,mU (aW s nd)=t:=⟨_,rfl⟩
 obtain ⟨ok,hok⟩:∃t,(aW s nd).isSome=t:=⟨_,rfl⟩
 rw [hS2,hc,hok] at CG ⊢
 obtain ⟨c0,c1,cn,c3,c4⟩:=c
 have B1:=aA hb1
 have hz1:(((w.alloc (.cells (svc x s) 34)).alloc (.cells #[.slice none 0 0,.int .i64 0,.int .i64 0,.int .i64 0,.int .i64 0,.slice none 0 0,.slice none 0 0,.slice none 0 0] 34)).alloc (.cells #[.int .i64 0,.int .i64 0,.string ⟨#[]⟩,.int .i64 0,.int .i64 0] 38)).heap.size=w.heap.size+1+1+1:=by simp only [yE]
 clear h hf hw hnd hb1 hS2 hc hok
 have u0:=(uH P0).at 0;have u1:=(uH P0).at 1;have u2:=(uH P0).at 2;have u3:=(uH P0).at 3;have u4:=(uH P0).at 4;have u5:=(uH P0).at 5;have u6:=(uH P0).at 6;have u7:=(uH P0).at 7
 simp at u0 u1 u2 u3 u4 u5 u6 u7
 go_enter Tryz.func8,Tryz.ntmps8
 go_wp2_with fail
 refine (uH CC).mono ?_
 rintro e w2 ⟨y,hs,rfl,ha,hb⟩
 rw [hz1] at ha
 clear u0 u1 u2 u3 u4 u5 u6 u7
 have hz2:w.heap.size+1+1+1≤w2.heap.size:=by have:=hb.size;rw [hz1] at this;exact this
 have b3:=yA (Below.refl _ w2) (.cells (svc y s) 34)
 have H3:=aA ((ha.has (Nat.le_refl _)).below b3)
 have X3:=aA (yD w2 (svc y s) 34)
 have Q1:=aA (((uH P1).below hb).below b3)
 have Q2:=aA (((uH P2).below hb).below b3)
 have B3:=aA (yB (yB (uH B1) hb) b3)
 clear ha hb b3 P0 P1 P2 B1 CC hz1
 obtain ⟨b,hbb⟩:∃g,w2.heap.size=g:=⟨_,rfl⟩
 rw [hbb] at X3 hz2
 go_wp2_with fail
 generalize w2.alloc (.cells (svc y s) 34)=w3 at H3 X3 Q1 Q2 B3 ⊢
 refine (uH CG (w.heap.size+1+1+1) b y hs _ (uH H3) (uH X3) hz2 (by have:=(uH X3).lt;omega)).mono ?_
 rintro e w4 ⟨y2,hs2,rfl,hbx,hsh,hbl⟩
 have b5:=yA (Below.refl _ w4) (.cells #[.int .i64 c0,.int .i64 c1,.string (bs cn),.int .i64 c3,.int .i64 c4] 38)
 have H5:=aA (hsh.below b5)
 have X5:=aA (hbx.below b5)
 have G5:=aA (yD w4 #[.int .i64 c0,.int .i64 c1,.string (bs cn),.int .i64 c3,.int .i64 c4] 38)
 have Q3:=aA (show Blk _ (w.heap.size+1) _ 34 from Blk.below ((hbl.block (w.heap.size+1) (by omega)).trans (uH Q1)) b5)
 have Q4:=aA (show Blk _ (w.heap.size+1+1) _ 38 from Blk.below ((hbl.block (w.heap.size+1+1) (by omega)).trans (uH Q2)) b5)
 have B5:=aA (yB ((uH B3).trans (hbl.mono (by omega))) b5)
 have hz4:b<w4.heap.size:=hbx.lt
 clear hbx hsh hbl b5 H3 X3 Q1 Q2 B3 CG
 go_upto_region 3 with fail
 generalize w4.alloc (.cells #[.int .i64 c0,.int .i64 c1,.string (bs cn),.int .i64 c3,.int .i64 c4] 38)=w5 at H5 X5 G5 Q3 Q4 B5 ⊢
 generalize w4.heap.size=g8 at G5 hz4 ⊢
 refine wp_region_held_drew (S:=fun wx=>Blk wx b (svc y2 S2) 34∧Blk wx g8 #[.int .i64 c0,.int .i64 c1,.string (bs cn),.int .i64 c3,.int .i64 c4] 38) (by kernel_rfl) ⟨(uH X5).drew,(uH G5).drew⟩ (fun S0=>?_)
 have H6:=aA ((uH H5).below (Below.refl _ w5).drew)
 have Q5:=aA (uH Q3).drew
 have Q6:=aA (uH Q4).drew
 have B6:=aA (yB (uH B5) (Below.refl _ w5).drew)
 clear H5 X5 G5 Q3 Q4 B5
 generalize w5.drew=wn at S0 H6 Q5 Q6 B6 ⊢
 refine aB 0 17 (sv y2 S2) rfl rfl S0 ?_ (hy:=Or.inl ⟨by rfl,fun wz hz=>mF (jE hz.1 rfl)⟩)
 try simp only [Act.put,sA,sB,sC]
 refine aB 1 18 (conv ⟨c0,c1,cn,c3,c4⟩) rfl rfl S0 ?_ (hy:=Or.inl ⟨by rfl,fun wz hz=>mF (mR hz.2 rfl)⟩)
 try simp only [Act.put,sA,sB,sC]
 refine aB 2 19 _ rfl rfl S0 ?_
 try simp only [Act.put,sA,sB,sC]
 have M7:=jK (uH Q5) (svc y2 S2) rfl
 have S1:=And.intro (M7.blk S0.1 (by omega)) (M7.blk S0.2 (by omega))
 have R7:=aA (iO (uH Q5) (svc y2 S2))
 have H7:=aA ((uH H6).low M7 (by omega))
 have Q7:=aA (M7.blk (uH Q6) (by omega))
 have B7:=aA ((uH B6).trans (M7.below (fun k e=>by subst e;omega) (uH B6).size))
 refine wpAnyH_ready (rs:=[3]) (by kernel_rfl) (by simp) (AllReadyH.cons rfl (fun K hK=>aBJ (by rfl) rfl (tJ (eX 34 (arr:=svc y2 S2) (uH Q5) (by kernel_rfl) rfl (by kernel_rfl))) ?_) AllReadyH.nil)
 clear S0
 refine hK.out _ _ S1 (fun S0=>?_)
 clear hK K S1 M7 H6 Q5 Q6 B6
 try simp only [Act.put,sA,sB,sC]
 generalize World.setRow wn (w.heap.size+1) (svc y2 S2)=w8 at S0 R7 H7 Q7 B7 ⊢
 have M9:=jK (uH Q7) #[.int .i64 c0,.int .i64 c1,.string (bs cn),.int .i64 c3,.int .i64 c4] rfl
 have S1:=And.intro (M9.blk S0.1 (by omega)) (M9.blk S0.2 (by omega))
 have R9:=aA (M9.blk (uH R7) (by omega))
 have T9:=aA (iO (uH Q7) #[.int .i64 c0,.int .i64 c1,.string (bs cn),.int .i64 c3,.int .i64 c4])
 have H9:=aA ((uH H7).low M9 (by omega))
 have B9:=aA ((uH B7).trans (M9.below (fun k e=>by subst e;omega) (uH B7).size))
 refine wpAnyH_ready (rs:=[4]) (by kernel_rfl) (by simp) (AllReadyH.cons rfl (fun K hK=>aBJ (by rfl) rfl (tJ (eX 38 (arr:=#[.int .i64 c0,.int .i64 c1,.string (bs cn),.int .i64 c3,.int .i64 c4]) (uH Q7) (by kernel_rfl) rfl (by kernel_rfl))) ?_) AllReadyH.nil)
 clear S0
 refine hK.out _ _ S1 (fun S0=>?_)
 clear hK K S1 M9 R7 H7 Q7 B7
 try simp only [Act.put,sA,sB,sC]
 generalize World.setRow w8 (w.heap.size+1+1) #[.int .i64 c0,.int .i64 c1,.string (bs cn),.int .i64 c3,.int .i64 c4]=w9 at S0 R9 T9 H9 B9 ⊢
 refine aB 5 6 _ rfl rfl S0 ?_
 try simp only [Act.put,sA,sB,sC]
 refine wpAnyH_done (by kernel_rfl) ?_ _
 clear S0
 have HA:=aA (show aDa w S2 ⟨c0,c1,cn,c3,c4⟩ ok (.returned (.tuple #[sv y2 S2,conv ⟨c0,c1,cn,c3,c4⟩,.bool ok])) w9 from ⟨y2,hs2,rfl,((uH H9).base (by omega)).ans,uH B9⟩)
 have z0:=(uH R9).at 0;have z1:=(uH R9).at 1;have z2:=(uH R9).at 2;have z3:=(uH R9).at 3;have z4:=(uH R9).at 4;have z5:=(uH R9).at 5;have z6:=(uH R9).at 6;have z7:=(uH R9).at 7
 simp at z0 z1 z2 z3 z4 z5 z6 z7
 have r0:=(uH T9).at 0;have r1:=(uH T9).at 1;have r2:=(uH T9).at 2;have r3:=(uH T9).at 3;have r4:=(uH T9).at 4
 simp at r0 r1 r2 r3 r4
 clear R9 T9 H9 B9
 go_wp2
 refine bodyPost_ret (v:=.tuple #[sv y2 S2,conv ⟨c0,c1,cn,c3,c4⟩,.bool ok]) (by simp [results,Tryz.results8,go_sem,z0,z1,z2,z3,z4,z5,z6,z7,r0,r1,r2,r3,r4]) rfl ?_
 exact uH HA
end
section
open Go.RowKit Go.Maps
def atS:Option ((Nat×Nat)×Con)→Int×Int
 | some r=>((r.1.1:Int),(r.1.2:Int))
 | none=>(-1,-1)
theorem aGe (x:Sls) (s:St) (w:World) (he:0≤s.epoch∧s.epoch≤1000000000) (hs:0≤s.serial∧s.serial≤1000000000) :
  Calls Tryz.prog 97 #[sv x s] w fun e w'=>e=.returned (.int .i64 (idV s))∧Below w.heap.size w w':=by
 have HI:=aA (show idV s=s.epoch*100000+s.serial % 100000 from rfl)
 have hm:=Int.emod_nonneg s.serial (show (100000:Int)≠0 by decide)
 have hm2:=Int.emod_lt_of_pos s.serial (show (0:Int)<100000 by decide)
 obtain ⟨d,hd⟩:∃d,idV s=d:=⟨_,rfl⟩
 rw [hd] at HI ⊢
 clear hd
 obtain ⟨qa,ql,qc,aa,al,ac,ma,ml,mc,ca,cl,cc⟩:=x
 obtain ⟨qs,clock,epoch,next,serial,apps,ms,cs⟩:=s
 simp only at HI he hs hm hm2
 have HB0:=aA (yA (Below.refl _ w) (.cells (svc ⟨qa,ql,qc,aa,al,ac,ma,ml,mc,ca,cl,cc⟩ ⟨qs,clock,epoch,next,serial,apps,ms,cs⟩) 34))
 have hmt:serial.tmod 100000=serial % 100000:=Int.tmod_eq_emod_of_nonneg hs.1
 obtain ⟨sm,hsm⟩:∃z,serial % 100000=z:=⟨_,rfl⟩
 rw [hsm] at hmt hm hm2 HI
 go_enter Tryz.func97,Tryz.ntmps97
 go_wp2
 go_ret
 exact ⟨bQ (uH HI).symm,uH HB0⟩
theorem aDJ (x:Sls) (s:St) (nd:List UInt8) (w:World) (h:iJ w x s) (hf:bS s) (he:0≤s.epoch∧s.epoch≤1000000000) (hse:0≤s.serial∧s.serial≤1000000000) :
  Calls Tryz.prog 57 #[sv x s,.string (bs nd)] w fun e w'=>e=.returned (.tuple #[conv (mU (vC s nd)),.int .i64 (atS (vC s nd)).1,.int .i64 (atS (vC s nd)).2])∧Below w.heap.size w w':=by
 have hml:x.ml≤1048576:=h.ml hf
 have CI:=aA (fun wx=>aGe x s wx he hse)
 have CM:=aA (fun wx (hb:Below w.heap.size w wx)=>kI x s nd wx (h.2.2.1.below hb) hml)
 have CP:=aA (fun wx (hb:Below w.heap.size w wx)=>aDI x s nd wx (h.below hb) hf)
 have HR:=aA h.2.1
 have HRC:=aA h.2.2.2
 have hcl:x.cl=s.cs.length:=h.len.2.2.2
 have hcm:x.cl≤1048576:=by have:=hf.2.2.2.1;omega
 have HG:=aA (show vC s nd=if ((bF nd s.ms).isSome&&(decide (x.cl<150)&&(decide (idV s≤1000000000)&&!(s.cs.any fun c=>c.id==idV s))))=true then (nM s nd).map fun r=>(r,vY s nd r) else none by rw [vC,aKO,hcl,mQ])
 have HP:=aA (fun (r:Nat×Nat) (hr:nM s nd=some r)=>aCo hr)
 have HC:=aA (fun (r:Nat×Nat) (h1:r.1<s.apps.length) (h2:r.2<s.apps[r.1].asks.length)=>vX (s:=s) (nd:=nd) h1 h2)
 have HCL:=aA hcl
 have HAL:=aA h.2.1.1
 have hal:x.al≤1048576:=h.al hf
 have HFA:=aA hf.2.1
 have hat:=qY nd s.ms
 obtain ⟨gv,hgv⟩:∃g,vC s nd=g:=⟨_,rfl⟩
 obtain ⟨gc,hgc⟩:∃g,vY s nd=g:=⟨_,rfl⟩
 obtain ⟨pk,hpk⟩:∃g,nM s nd=g:=⟨_,rfl⟩
 obtain ⟨fm,hfm⟩:∃g,(bF nd s.ms).isSome=g:=⟨_,rfl⟩
 obtain ⟨mp,hmp⟩:∃g,xM s.ms nd=g:=⟨_,rfl⟩
 have HMP:=aA (show (fm=true→0≤mp)∧(fm=false→mp = -1) by
  rcases hat with ⟨a,b⟩ | ⟨j,hj,a,b⟩
  ·rw [←hfm,←hmp,a,b];simp
  ·rw [←hfm,←hmp,a,b];simp)
 obtain ⟨id,hid⟩:∃g,idV s=g:=⟨_,rfl⟩
 rw [hgv,hfm,hpk,hgc,hid] at HG
 rw [hgv]
 rw [hmp] at CM
 rw [hid] at CI
 rw [hpk] at CP HP
 rw [hgc,hid] at HC
 obtain ⟨⟨pi,pj⟩,hpl⟩:∃g,plS pk=g:=⟨_,rfl⟩
 rw [hpl] at CP
 simp only at CP
 have HPL:=aA hpl
 clear hpl h hf he hse hat hgv hgc hpk hfm hmp hid hcl
 obtain ⟨qa,ql,qc,aa,al,ac,ma,ml,mc,ca,cl,cc⟩:=x
 obtain ⟨qs,clock,epoch,next,serial,apps,ms,cs⟩:=s
 simp only at CI CM CP HR HRC HCL HG HC HP HAL HFA hal hcm hml
 have HB0:=aA (yA (yA (Below.refl _ w) (.cells (svc ⟨qa,ql,qc,aa,al,ac,ma,ml,mc,ca,cl,cc⟩ ⟨qs,clock,epoch,next,serial,apps,ms,cs⟩) 34)) (.cells #[.int .i64 0,.int .i64 0,.string ByteArray.empty,.int .i64 0,.int .i64 0] 38))
 have P0:=aA ((yD w (svc ⟨qa,ql,qc,aa,al,ac,ma,ml,mc,ca,cl,cc⟩ ⟨qs,clock,epoch,next,serial,apps,ms,cs⟩) 34).al (.cells #[.int .i64 0,.int .i64 0,.string ByteArray.empty,.int .i64 0,.int .i64 0] 38))
 have T0:=aA (show Blk _ (w.heap.size+1) #[.int .i64 0,.int .i64 0,.string ByteArray.empty,.int .i64 0,.int .i64 0] 38 by have:=yD (w.alloc (.cells (svc ⟨qa,ql,qc,aa,al,ac,ma,ml,mc,ca,cl,cc⟩ ⟨qs,clock,epoch,next,serial,apps,ms,cs⟩) 34)) #[.int .i64 0,.int .i64 0,.string ByteArray.empty,.int .i64 0,.int .i64 0] 38;rw [yE] at this;exact this)
 go_enter Tryz.func57,Tryz.ntmps57
 go_wp2_with fail
 refine (uH CI _).mono ?_
 rintro e w1 ⟨rfl,hb⟩
 have HB1:=aA (yB (uH HB0) hb)
 have P1:=aA ((uH P0).below hb)
 have T1:=aA ((uH T0).below hb)
 clear hb HB0 P0 T0 CI
 have q0:=(uH P1).at 0;have q1:=(uH P1).at 1;have q2:=(uH P1).at 2;have q3:=(uH P1).at 3;have q4:=(uH P1).at 4;have q5:=(uH P1).at 5;have q6:=(uH P1).at 6;have q7:=(uH P1).at 7
 simp at q0 q1 q2 q3 q4 q5 q6 q7
 go_wp2_with fail
 refine (uH CM _ (uH HB1)).mono ?_
 rintro e w2 ⟨rfl,hb⟩
 have HB2:=aA (yB (uH HB1) hb)
 have P2:=aA ((uH P1).below hb)
 have T2:=aA ((uH T1).below hb)
 clear hb HB1 P1 T1 CM q0 q1 q2 q3 q4 q5 q6 q7
 have q0:=(uH P2).at 0;have q1:=(uH P2).at 1;have q2:=(uH P2).at 2;have q3:=(uH P2).at 3;have q4:=(uH P2).at 4;have q5:=(uH P2).at 5;have q6:=(uH P2).at 6;have q7:=(uH P2).at 7
 simp at q0 q1 q2 q3 q4 q5 q6 q7
 cases fm
 case false=>
  have hmp:mp = -1:=(uH HMP).2 rfl
  subst hmp
  have HE:=aA (show gv=none from by rw [uH HG];rfl)
  have k0:=(uH T2).at 0;have k1:=(uH T2).at 1;have k2:=(uH T2).at 2;have k3:=(uH T2).at 3;have k4:=(uH T2).at 4
  have f0:=(uH T2).f 0;have f1:=(uH T2).f 1;have f2:=(uH T2).f 2;have f3:=(uH T2).f 3;have f4:=(uH T2).f 4
  simp at k0 k1 k2 k3 k4
  have HX:=aA (show Blk (((((w2.setCell ⟨w.heap.size+1,0,none⟩ (.int .i64 0)).setCell ⟨w.heap.size+1,1,none⟩ (.int .i64 0)).setCell ⟨w.heap.size+1,2,none⟩ (.string (⟨#[]⟩:ByteArray))).setCell ⟨w.heap.size+1,3,none⟩ (.int .i64 0)).setCell ⟨w.heap.size+1,4,none⟩ (.int .i64 0)) (w.heap.size+1) #[.int .i64 0,.int .i64 0,.string (⟨#[]⟩:ByteArray),.int .i64 0,.int .i64 0] 38 from (((((uH T2).set 0 (.int .i64 0)).set 1 (.int .i64 0)).set 2 (.string (⟨#[]⟩:ByteArray))).set 3 (.int .i64 0)).set 4 (.int .i64 0))
  have HY:=aA (yC (yC (yC (yC (yC (uH HB2) (w.heap.size+1) 0 (.int .i64 0) (by omega)) (w.heap.size+1) 1 (.int .i64 0) (by omega)) (w.heap.size+1) 2 (.string (⟨#[]⟩:ByteArray)) (by omega)) (w.heap.size+1) 3 (.int .i64 0) (by omega)) (w.heap.size+1) 4 (.int .i64 0) (by omega))
  go_wp2
  generalize (((((w2.setCell ⟨w.heap.size+1,0,none⟩ (.int .i64 0)).setCell ⟨w.heap.size+1,1,none⟩ (.int .i64 0)).setCell ⟨w.heap.size+1,2,none⟩ (.string (⟨#[]⟩:ByteArray))).setCell ⟨w.heap.size+1,3,none⟩ (.int .i64 0)).setCell ⟨w.heap.size+1,4,none⟩ (.int .i64 0))=W9 at HX HY ⊢
  have z0:=(uH HX).at 0;have z1:=(uH HX).at 1;have z2:=(uH HX).at 2;have z3:=(uH HX).at 3;have z4:=(uH HX).at 4
  simp at z0 z1 z2 z3 z4
  refine bodyPost_ret (v:=.tuple #[conv ⟨0,0,[],0,0⟩,.int .i64 (-1),.int .i64 (-1)]) (by simp [results,Tryz.results57,go_sem,z0,z1,z2,z3,z4];try rfl) rfl ⟨by rw [uH HE];rfl,uH HY⟩
 have hmp:0≤mp:=(uH HMP).1 rfl
 have hmn:¬mp<0:=by omega
 by_cases hlt:cl<150
 case neg=>
  have hl1:(150:Int)≤cl:=by omega
  have HE:=aA (show gv=none from by rw [uH HG,decide_eq_false hlt];rfl)
  have k0:=(uH T2).at 0;have k1:=(uH T2).at 1;have k2:=(uH T2).at 2;have k3:=(uH T2).at 3;have k4:=(uH T2).at 4
  have f0:=(uH T2).f 0;have f1:=(uH T2).f 1;have f2:=(uH T2).f 2;have f3:=(uH T2).f 3;have f4:=(uH T2).f 4
  simp at k0 k1 k2 k3 k4
  have HX:=aA (show Blk (((((w2.setCell ⟨w.heap.size+1,0,none⟩ (.int .i64 0)).setCell ⟨w.heap.size+1,1,none⟩ (.int .i64 0)).setCell ⟨w.heap.size+1,2,none⟩ (.string (⟨#[]⟩:ByteArray))).setCell ⟨w.heap.size+1,3,none⟩ (.int .i64 0)).setCell ⟨w.heap.size+1,4,none⟩ (.int .i64 0)) (w.heap.size+1) #[.int .i64 0,.int .i64 0,.string (⟨#[]⟩:ByteArray),.int .i64 0,.int .i64 0] 38 from (((((uH T2).set 0 (.int .i64 0)).set 1 (.int .i64 0)).set 2 (.string (⟨#[]⟩:ByteArray))).set 3 (.int .i64 0)).set 4 (.int .i64 0))
  have HY:=aA (yC (yC (yC (yC (yC (uH HB2) (w.heap.size+1) 0 (.int .i64 0) (by omega)) (w.heap.size+1) 1 (.int .i64 0) (by omega)) (w.heap.size+1) 2 (.string (⟨#[]⟩:ByteArray)) (by omega)) (w.heap.size+1) 3 (.int .i64 0) (by omega)) (w.heap.size+1) 4 (.int .i64 0) (by omega))
  go_wp2
  generalize (((((w2.setCell ⟨w.heap.size+1,0,none⟩ (.int .i64 0)).setCell ⟨w.heap.size+1,1,none⟩ (.int .i64 0)).setCell ⟨w.heap.size+1,2,none⟩ (.string (⟨#[]⟩:ByteArray))).setCell ⟨w.heap.size+1,3,none⟩ (.int .i64 0)).setCell ⟨w.heap.size+1,4,none⟩ (.int .i64 0))=W9 at HX HY ⊢
  have z0:=(uH HX).at 0;have z1:=(uH HX).at 1;have z2:=(uH HX).at 2;have z3:=(uH HX).at 3;have z4:=(uH HX).at 4
  simp at z0 z1 z2 z3 z4
  refine bodyPost_ret (v:=.tuple #[conv ⟨0,0,[],0,0⟩,.int .i64 (-1),.int .i64 (-1)]) (by simp [results,Tryz.results57,go_sem,z0,z1,z2,z3,z4];try rfl) rfl ⟨by rw [uH HE];rfl,uH HY⟩
 have hl1:¬(150:Int)≤cl:=by omega
 by_cases hidl:id≤1000000000
 case neg=>
  have hl2:(1000000000:Int)<id:=by omega
  have HE:=aA (show gv=none from by rw [uH HG,decide_eq_true hlt,decide_eq_false hidl];rfl)
  have k0:=(uH T2).at 0;have k1:=(uH T2).at 1;have k2:=(uH T2).at 2;have k3:=(uH T2).at 3;have k4:=(uH T2).at 4
  have f0:=(uH T2).f 0;have f1:=(uH T2).f 1;have f2:=(uH T2).f 2;have f3:=(uH T2).f 3;have f4:=(uH T2).f 4
  simp at k0 k1 k2 k3 k4
  have HX:=aA (show Blk (((((w2.setCell ⟨w.heap.size+1,0,none⟩ (.int .i64 0)).setCell ⟨w.heap.size+1,1,none⟩ (.int .i64 0)).setCell ⟨w.heap.size+1,2,none⟩ (.string (⟨#[]⟩:ByteArray))).setCell ⟨w.heap.size+1,3,none⟩ (.int .i64 0)).setCell ⟨w.heap.size+1,4,none⟩ (.int .i64 0)) (w.heap.size+1) #[.int .i64 0,.int .i64 0,.string (⟨#[]⟩:ByteArray),.int .i64 0,.int .i64 0] 38 from (((((uH T2).set 0 (.int .i64 0)).set 1 (.int .i64 0)).set 2 (.string (⟨#[]⟩:ByteArray))).set 3 (.int .i64 0)).set 4 (.int .i64 0))
  have HY:=aA (yC (yC (yC (yC (yC (uH HB2) (w.heap.size+1) 0 (.int .i64 0) (by omega)) (w.heap.size+1) 1 (.int .i64 0) (by omega)) (w.heap.size+1) 2 (.string (⟨#[]⟩:ByteArray)) (by omega)) (w.heap.size+1) 3 (.int .i64 0) (by omega)) (w.heap.size+1) 4 (.int .i64 0) (by omega))
  go_wp2
  generalize (((((w2.setCell ⟨w.heap.size+1,0,none⟩ (.int .i64 0)).setCell ⟨w.heap.size+1,1,none⟩ (.int .i64 0)).setCell ⟨w.heap.size+1,2,none⟩ (.string (⟨#[]⟩:ByteArray))).setCell ⟨w.heap.size+1,3,none⟩ (.int .i64 0)).setCell ⟨w.heap.size+1,4,none⟩ (.int .i64 0))=W9 at HX HY ⊢
  have z0:=(uH HX).at 0;have z1:=(uH HX).at 1;have z2:=(uH HX).at 2;have z3:=(uH HX).at 3;have z4:=(uH HX).at 4
  simp at z0 z1 z2 z3 z4
  refine bodyPost_ret (v:=.tuple #[conv ⟨0,0,[],0,0⟩,.int .i64 (-1),.int .i64 (-1)]) (by simp [results,Tryz.results57,go_sem,z0,z1,z2,z3,z4];try rfl) rfl ⟨by rw [uH HE];rfl,uH HY⟩
 have hl2:¬(1000000000:Int)<id:=by omega
 have HG2:=aA (show gv=if (cs.any fun c=>c.id==id)=true then none else pk.map (fun r=>(r,gc r)) from by
  rw [uH HG,decide_eq_true hlt,decide_eq_true hidl]
  cases (cs.any fun c=>c.id==id)<;>rfl)
 clear HG
 go_wp2_with fail
 clear q0 q1 q2 q3 q4 q5 q6 q7
 go_loopw [8] (fun i wr=>∃k:Nat,k≤cl∧i=.int .i64 k∧Hid ((cs.any fun c=>c.id==id)=((cs.drop k).any fun c=>c.id==id))∧Hid (Below w2.heap.size w2 wr)) (fun i _=>cl - (intOf i).toNat)
 case atStart=>exact ⟨0,Nat.zero_le _,rfl,aA rfl,aA (Below.refl _ _)⟩
 case round=>
  obtain ⟨k,hk,rfl,HA,HK⟩:=hrel
  obtain ⟨wk,rfl⟩:∃wo:World,wo=wr:=⟨_,rfl⟩
  have HBk:=aA (yB (uH HB2) (uH HK))
  have Pk:=aA ((uH P2).below (uH HK))
  have Tk:=aA ((uH T2).below (uH HK))
  have q0:=(uH Pk).at 0;have q1:=(uH Pk).at 1;have q2:=(uH Pk).at 2;have q3:=(uH Pk).at 3;have q4:=(uH Pk).at 4;have q5:=(uH Pk).at 5;have q6:=(uH Pk).at 6;have q7:=(uH Pk).at 7
  simp at q0 q1 q2 q3 q4 q5 q6 q7
  by_cases hkl:k<cl
  ·obtain ⟨ab,aoff,rfl,ha⟩:=((uH HRC).below (uH HBk)).at hkl
   have hjk:k<cs.length:=by have:=uH HCL;omega
   obtain ⟨d0,d1,d2,d3,d4⟩:=ha hjk
   have hst:((cs.drop k).any fun c=>c.id==id)=(cs[k].id==id||(cs.drop (k+1)).any fun c=>c.id==id):=by rw [List.drop_eq_getElem_cons hjk,List.any_cons]
   obtain ⟨⟨ci,ca',cn,cm,cu⟩,hs⟩:∃s,cs[k]=s:=⟨_,rfl⟩
   rw [hs] at d0 d1 d2 d3 d4 hst
   simp only at d0 d1 d2 d3 d4 hst
   have HST:=aA hst
   have j0:(0:Int)≤k:=by omega
   have j1:(k:Int)<cl:=by omega
   clear ha hs hjk hst
   by_cases hce:ci=id
   ·subst hce
    have HE:=aA (show gv=none from by rw [uH HG2,uH HA,uH HST];simp)
    have k0:=(uH Tk).at 0;have k1:=(uH Tk).at 1;have k2:=(uH Tk).at 2;have k3:=(uH Tk).at 3;have k4:=(uH Tk).at 4
    have f0:=(uH Tk).f 0;have f1:=(uH Tk).f 1;have f2:=(uH Tk).f 2;have f3:=(uH Tk).f 3;have f4:=(uH Tk).f 4
    simp at k0 k1 k2 k3 k4
    have HX:=aA (show Blk (((((wk.setCell ⟨w.heap.size+1,0,none⟩ (.int .i64 0)).setCell ⟨w.heap.size+1,1,none⟩ (.int .i64 0)).setCell ⟨w.heap.size+1,2,none⟩ (.string (⟨#[]⟩:ByteArray))).setCell ⟨w.heap.size+1,3,none⟩ (.int .i64 0)).setCell ⟨w.heap.size+1,4,none⟩ (.int .i64 0)) (w.heap.size+1) #[.int .i64 0,.int .i64 0,.string (⟨#[]⟩:ByteArray),.int .i64 0,.int .i64 0] 38 from (((((uH Tk).set 0 (.int .i64 0)).set 1 (.int .i64 0)).set 2 (.string (⟨#[]⟩:ByteArray))).set 3 (.int .i64 0)).set 4 (.int .i64 0))
    have HY:=aA (yC (yC (yC (yC (yC (uH HBk) (w.heap.size+1) 0 (.int .i64 0) (by omega)) (w.heap.size+1) 1 (.int .i64 0) (by omega)) (w.heap.size+1) 2 (.string (⟨#[]⟩:ByteArray)) (by omega)) (w.heap.size+1) 3 (.int .i64 0) (by omega)) (w.heap.size+1) 4 (.int .i64 0) (by omega))
    go_wp2
    generalize (((((wk.setCell ⟨w.heap.size+1,0,none⟩ (.int .i64 0)).setCell ⟨w.heap.size+1,1,none⟩ (.int .i64 0)).setCell ⟨w.heap.size+1,2,none⟩ (.string (⟨#[]⟩:ByteArray))).setCell ⟨w.heap.size+1,3,none⟩ (.int .i64 0)).setCell ⟨w.heap.size+1,4,none⟩ (.int .i64 0))=W9 at HX HY ⊢
    have z0:=(uH HX).at 0;have z1:=(uH HX).at 1;have z2:=(uH HX).at 2;have z3:=(uH HX).at 3;have z4:=(uH HX).at 4
    simp at z0 z1 z2 z3 z4
    refine bodyPost_ret (v:=.tuple #[conv ⟨0,0,[],0,0⟩,.int .i64 (-1),.int .i64 (-1)]) (by simp [results,Tryz.results57,go_sem,z0,z1,z2,z3,z4];try rfl) rfl ⟨by rw [uH HE];rfl,uH HY⟩
   ·have HN:=aA (show (cs.any fun c=>c.id==id)=((cs.drop (k+1)).any fun c=>c.id==id) by rw [uH HA,uH HST,beq_eq_false_iff_ne.2 hce,Bool.false_or])
    go_wp2
    go_roundw
    case rel=>exact ⟨k+1,by omega,by go_num,HN,HK⟩
    case measure=>simp [intOf];omega
  ·have HG3:=aA (show gv=pk.map (fun r=>(r,gc r)) from by
    have h1:=uH HA
    rw [List.drop_of_length_le (by have:=uH HCL;omega)] at h1
    rw [uH HG2,h1]
    rfl)
   have j1:¬(k:Int)<cl:=by omega
   clear HA HG2
   go_wp2_with fail
   refine (uH CP _ (uH HBk)).mono ?_
   rintro e w3 ⟨rfl,hb⟩
   have HB3:=aA (yB (uH HBk) hb)
   have P3:=aA ((uH Pk).below hb)
   have T3:=aA ((uH Tk).below hb)
   clear hb HBk Pk Tk CP q0 q1 q2 q3 q4 q5 q6 q7
   cases hp:pk
   case none=>
    obtain ⟨rfl,rfl⟩:pi = -1∧pj = -1:=by have h1:=uH HPL;rw [hp] at h1;simp only [plS,Prod.mk.injEq] at h1;exact ⟨h1.1.symm,h1.2.symm⟩
    have HE:=aA (show gv=none from by rw [uH HG3,hp];rfl)
    have k0:=(uH T3).at 0;have k1:=(uH T3).at 1;have k2:=(uH T3).at 2;have k3:=(uH T3).at 3;have k4:=(uH T3).at 4
    have f0:=(uH T3).f 0;have f1:=(uH T3).f 1;have f2:=(uH T3).f 2;have f3:=(uH T3).f 3;have f4:=(uH T3).f 4
    simp at k0 k1 k2 k3 k4
    have HX:=aA (show Blk (((((w3.setCell ⟨w.heap.size+1,0,none⟩ (.int .i64 0)).setCell ⟨w.heap.size+1,1,none⟩ (.int .i64 0)).setCell ⟨w.heap.size+1,2,none⟩ (.string (⟨#[]⟩:ByteArray))).setCell ⟨w.heap.size+1,3,none⟩ (.int .i64 0)).setCell ⟨w.heap.size+1,4,none⟩ (.int .i64 0)) (w.heap.size+1) #[.int .i64 0,.int .i64 0,.string (⟨#[]⟩:ByteArray),.int .i64 0,.int .i64 0] 38 from (((((uH T3).set 0 (.int .i64 0)).set 1 (.int .i64 0)).set 2 (.string (⟨#[]⟩:ByteArray))).set 3 (.int .i64 0)).set 4 (.int .i64 0))
    have HY:=aA (yC (yC (yC (yC (yC (uH HB3) (w.heap.size+1) 0 (.int .i64 0) (by omega)) (w.heap.size+1) 1 (.int .i64 0) (by omega)) (w.heap.size+1) 2 (.string (⟨#[]⟩:ByteArray)) (by omega)) (w.heap.size+1) 3 (.int .i64 0) (by omega)) (w.heap.size+1) 4 (.int .i64 0) (by omega))
    go_wp2
    generalize (((((w3.setCell ⟨w.heap.size+1,0,none⟩ (.int .i64 0)).setCell ⟨w.heap.size+1,1,none⟩ (.int .i64 0)).setCell ⟨w.heap.size+1,2,none⟩ (.string (⟨#[]⟩:ByteArray))).setCell ⟨w.heap.size+1,3,none⟩ (.int .i64 0)).setCell ⟨w.heap.size+1,4,none⟩ (.int .i64 0))=W9 at HX HY ⊢
    have z0:=(uH HX).at 0;have z1:=(uH HX).at 1;have z2:=(uH HX).at 2;have z3:=(uH HX).at 3;have z4:=(uH HX).at 4
    simp at z0 z1 z2 z3 z4
    refine bodyPost_ret (v:=.tuple #[conv ⟨0,0,[],0,0⟩,.int .i64 (-1),.int .i64 (-1)]) (by simp [results,Tryz.results57,go_sem,z0,z1,z2,z3,z4];try rfl) rfl ⟨by rw [uH HE];rfl,uH HY⟩
   case some r=>
    obtain ⟨i,k2⟩:=r
    obtain ⟨rfl,rfl⟩:(i:Int)=pi∧(k2:Int)=pj:=by have h1:=uH HPL;rw [hp] at h1;simp only [plS,Prod.mk.injEq] at h1;exact h1
    obtain ⟨hkl2,hjk⟩:=uH HP _ hp
    simp only at hkl2 hjk
    have hgc:=uH HC (i,k2) hkl2 hjk
    simp only at hgc
    have hil:i<al:=by have:=uH HAL;omega
    obtain ⟨bb,off,rfl,hqa⟩:=(uH HR).at hil
    have hfa:=(uH HFA).2 _ (List.getElem_mem hkl2)
    obtain ⟨xo,xl,xc,c0,c1,c2,hrow,_⟩:=hqa hkl2
    obtain ⟨⟨ai,qu,asks⟩,hs'⟩:∃s,apps[i]=s:=⟨_,rfl⟩
    have hjk2:k2<asks.length:=by have:=hjk;rw [hs'] at this;exact this
    have hgc2:gc (i,k2)=⟨id,ai,nd,asks[k2].mem,asks[k2].cpu⟩:=by simp only [hgc,hs']
    rw [hs'] at c0 c1 hrow hfa
    simp only at c0 c1 hrow
    have hxl:xl≤1048576:=by have h1:=hrow.1;have h2:=hfa.2.1;simp only at h2;omega
    have hkx:k2<xl:=by have:=hrow.1;omega
    obtain ⟨ab,aoff,rfl,ha⟩:=hrow.at hkx
    obtain ⟨d0,d1,d2,d3,d4⟩:=ha hjk2
    obtain ⟨⟨me,cp,ct,nx,mi⟩,hsa⟩:∃s,asks[k2]=s:=⟨_,rfl⟩
    rw [hsa] at hgc2 d0 d1 d2 d3 d4
    simp only at hgc2 d0 d1 d2 d3 d4
    have HGC:=aA hgc2
    have HE:=aA (show gv=some ((i,k2),gc (i,k2)) from by rw [uH HG3,hp];rfl)
    have i0:(0:Int)≤i:=by omega
    have i1:(i:Int)<al:=by omega
    have i2:¬(i:Int)<0:=by omega
    have j2:(0:Int)≤k2:=by omega
    have j3:(k2:Int)<xl:=by omega
    clear hqa hgc hgc2 hfa hrow hjk ha hp hs' hsa
    go_wp2_with fail
    have S6:=aA (show HBk w [(w.heap.size,svc ⟨qa,ql,qc,some ⟨bb,off,none⟩,al,ac,ma,ml,mc,ca,cl,cc⟩ ⟨qs,clock,epoch,next,serial,apps,ms,cs⟩,34)] w3 from ⟨fun p hp=>by
     simp only [List.mem_cons,List.not_mem_nil,or_false] at hp
     subst hp
     exact uH P3,uH HB3⟩)
    have R:∀wx,HBk w [(w.heap.size,svc ⟨qa,ql,qc,some ⟨bb,off,none⟩,al,ac,ma,ml,mc,ca,cl,cc⟩ ⟨qs,clock,epoch,next,serial,apps,ms,cs⟩,34)] wx→wx.cell? ⟨w.heap.size,5,none⟩=some (.slice (some ⟨bb,off,none⟩) al ac)∧wx.cell? ⟨bb,off+i*3,none⟩=some (.int .i64 ai)∧wx.cell? ⟨bb,off+i*3+2,none⟩=some (.slice (some ⟨ab,aoff,none⟩) xl xc)∧wx.cell? ⟨ab,aoff+k2*5,none⟩=some (.int .i64 me)∧wx.cell? ⟨ab,aoff+k2*5+1,none⟩=some (.int .i64 cp):=fun wx h=>by
     have v1:=h.blk (g:=w.heap.size) (c:=svc ⟨qa,ql,qc,some ⟨bb,off,none⟩,al,ac,ma,ml,mc,ca,cl,cc⟩ ⟨qs,clock,epoch,next,serial,apps,ms,cs⟩) (t:=34) (by simp)
     exact ⟨by simpa using v1.at 5,h.cell c0,h.cell c2,h.cell d0,h.cell d1⟩
    have k0:=(uH T3).at 0;have k1:=(uH T3).at 1;have k2':=(uH T3).at 2;have k3:=(uH T3).at 3;have k4:=(uH T3).at 4
    have f0:=(uH T3).f 0;have f1:=(uH T3).f 1;have f2:=(uH T3).f 2;have f3:=(uH T3).f 3;have f4:=(uH T3).f 4
    simp at k0 k1 k2' k3 k4
    have hn1:∀p ∈ [(w.heap.size,svc ⟨qa,ql,qc,some ⟨bb,off,none⟩,al,ac,ma,ml,mc,ca,cl,cc⟩ ⟨qs,clock,epoch,next,serial,apps,ms,cs⟩,(34:TypeId))],p.1≠w.heap.size+1:=fun p hp=>by
     simp only [List.mem_cons,List.not_mem_nil,or_false] at hp
     subst hp
     simp only
     omega
    have HN1:=aA hn1
    have hw1:w.heap.size≤w.heap.size+1:=by omega
    clear hn1 c0 c1 c2 d0 d1 d2 d3 d4
    have SB:=(show HBk w [(w.heap.size,svc ⟨qa,ql,qc,some ⟨bb,off,none⟩,al,ac,ma,ml,mc,ca,cl,cc⟩ ⟨qs,clock,epoch,next,serial,apps,ms,cs⟩,34)] ((((((w3.setCell ⟨w.heap.size+1,0,none⟩ (.int .i64 id)).setCell ⟨w.heap.size+1,1,none⟩ (.int .i64 ai)).setCell ⟨w.heap.size+1,2,none⟩ (.string (bs nd))).setCell ⟨w.heap.size+1,3,none⟩ (.int .i64 me)).setCell ⟨w.heap.size+1,4,none⟩ (.int .i64 cp)).drew) from (HBk.set (HBk.set (HBk.set (HBk.set (HBk.set (uH S6) _ _ _ hw1 (uH HN1)) _ _ _ hw1 (uH HN1)) _ _ _ hw1 (uH HN1)) _ _ _ hw1 (uH HN1)) _ _ _ hw1 (uH HN1)).drew)
    go_region_held3 (fun wx=>HBk w [(w.heap.size,svc ⟨qa,ql,qc,some ⟨bb,off,none⟩,al,ac,ma,ml,mc,ca,cl,cc⟩ ⟨qs,clock,epoch,next,serial,apps,ms,cs⟩,34)] wx)
     (first | (with_reducible assumption) | (with_reducible exact (uH S6).drew))
     (fail)
    have T4:=aA ((uH T3).drew)
    have HX:=aA (show Blk ((((((w3.setCell ⟨w.heap.size+1,0,none⟩ (.int .i64 id)).setCell ⟨w.heap.size+1,1,none⟩ (.int .i64 ai)).setCell ⟨w.heap.size+1,2,none⟩ (.string (bs nd))).setCell ⟨w.heap.size+1,3,none⟩ (.int .i64 me)).setCell ⟨w.heap.size+1,4,none⟩ (.int .i64 cp)).drew) (w.heap.size+1) #[.int .i64 id,.int .i64 ai,.string (bs nd),.int .i64 me,.int .i64 cp] 38 from ((((((uH T3).set 0 (.int .i64 id)).set 1 (.int .i64 ai)).set 2 (.string (bs nd))).set 3 (.int .i64 me)).set 4 (.int .i64 cp)).drew)
    have HY:=aA ((yC (yC (yC (yC (yC (uH HB3) (w.heap.size+1) 0 (.int .i64 id) (by omega)) (w.heap.size+1) 1 (.int .i64 ai) (by omega)) (w.heap.size+1) 2 (.string (bs nd)) (by omega)) (w.heap.size+1) 3 (.int .i64 me) (by omega)) (w.heap.size+1) 4 (.int .i64 cp) (by omega)).drew)
    go_wp2
    generalize ((((((w3.setCell ⟨w.heap.size+1,0,none⟩ (.int .i64 id)).setCell ⟨w.heap.size+1,1,none⟩ (.int .i64 ai)).setCell ⟨w.heap.size+1,2,none⟩ (.string (bs nd))).setCell ⟨w.heap.size+1,3,none⟩ (.int .i64 me)).setCell ⟨w.heap.size+1,4,none⟩ (.int .i64 cp)).drew)=W9 at HX HY ⊢
    have z0:=(uH HX).at 0;have z1:=(uH HX).at 1;have z2:=(uH HX).at 2;have z3:=(uH HX).at 3;have z4:=(uH HX).at 4
    simp at z0 z1 z2 z3 z4
    refine bodyPost_ret (v:=.tuple #[conv ⟨id,ai,nd,me,cp⟩,.int .i64 (i:Int),.int .i64 (k2:Int)]) (by simp [results,Tryz.results57,go_sem,z0,z1,z2,z3,z4];try rfl) rfl ⟨by rw [uH HE,uH HGC];rfl,uH HY⟩
end
section
open Go.RowKit
theorem aJY (g n cap k:Nat) (hk:k≤cap) (wx:World):(Instr.slice 72 (.slice (some ⟨g,0,none⟩) n cap) none (some (.int .i64 (k:Int))) none).run Tryz.prog wx=.ok (.slice (some ⟨g,0,none⟩) k cap) wx:=by
 rw [run_slice_h (P:=Tryz.prog) (w:=wx) 72 (some ⟨g,0,none⟩) n cap Tryz.underlying72 .i64 (k:Int) (by omega) (by omega)]
 rw [show (sizeOf (Tryz.prog.elem 72)).run Tryz.prog wx=.ok 5 wx from by kernel_rfl]
 simp [Result.andThen,sliced,Addr.add]
theorem aJZ (g n cap k:Nat) (hk:k≤n) (wx:World):(Instr.slice 72 (.slice (some ⟨g,0,none⟩) n cap) (some (.int .i64 (k:Int))) none none).run Tryz.prog wx=.ok (.slice (some (hiA g cap k 5)) (n - k) (cap - k)) wx:=by
 rw [run_slice_l (P:=Tryz.prog) (w:=wx) 72 (some ⟨g,0,none⟩) n cap Tryz.underlying72 .i64 (k:Int) (by omega) (by omega)]
 rw [show (sizeOf (Tryz.prog.elem 72)).run Tryz.prog wx=.ok 5 wx from by kernel_rfl]
 simp only [Result.andThen,sliced,Int.toNat_natCast,hiA]
 by_cases h:cap=k
 ·rw [if_pos h,if_pos h]
 ·rw [if_neg h,if_neg h]
  simp [Addr.add]
  try omega
theorem kD.swap {B:Nat} {w w':World} {hs:List AV} {l:List dB} (h:kD B w hs l) (hB:B≤w.heap.size) {i n' c':Nat} {ao':Option Addr} {ak:List Ask} (hi:i<hs.length) (hl:i<l.length) (hb:Below w.heap.size w w')
  (hr:aO w' ao' n' ak) (ho:dJ w.heap.size w'.heap.size w' 77 5 ao' n') (hc:n'≤c'):kD B w' (hs.set i ⟨hs[i].id,hs[i].queue,ao',n',c'⟩) (l.modify i (fun a=>⟨a.id,a.queue,ak⟩)):=by
 have hne:∀j (hj:j<hs.length),hs[j].len≠0→n'≠0→hs[j].ao≠ao':=fun j hj h0 h1 e=>by
  rcases h.own _ (List.getElem_mem hj) with e2 | ⟨g,M,e2,_,e4,_⟩
  ·exact h0 e2
  ·rcases ho with e3 | ⟨g',M',e3,e5,_⟩
   ·exact h1 e3
   ·rw [e2,e3] at e
    cases e
    omega
 refine ⟨⟨by simp [h.heads.1],fun j h1 h2=>?_⟩,fun v hv=>?_,?_⟩
 ·have hj:j<hs.length:=by simpa using h1
  have hj':j<l.length:=by simpa using h2
  obtain ⟨a,b,c,d⟩:=h.heads.2 j hj hj'
  rw [List.getElem_set,List.getElem_modify]
  by_cases e:i=j
  ·subst e
   rw [if_pos rfl,if_pos rfl]
   exact ⟨a,b,hr,hc⟩
  ·rw [if_neg e,if_neg e]
   exact ⟨a,b,c.below hb,d⟩
 ·rcases List.mem_or_eq_of_mem_set hv with hv | rfl
  ·exact (h.own v hv).grow hb (Nat.le_refl _)
  ·exact ho.mono hB (Nat.le_refl _)
 ·rw [List.pairwise_iff_getElem]
  intro a b ha hb' hab
  have ha':a<hs.length:=by simpa using ha
  have hb2:b<hs.length:=by simpa using hb'
  have h0:=List.pairwise_iff_getElem.1 h.apart a b ha' hb2 hab
  rw [List.getElem_set,List.getElem_set]
  by_cases e1:i=a
  ·subst e1
   rw [if_pos rfl,if_neg (by omega)]
   by_cases e2:hs[b].len=0
   ·exact .inr (.inl e2)
   ·by_cases e3:n'=0
    ·exact .inl e3
    ·exact .inr (.inr (fun e=>hne b hb2 e2 e3 e.symm))
  ·rw [if_neg e1]
   by_cases e2:i=b
   ·subst e2
    rw [if_pos rfl]
    by_cases e3:hs[a].len=0
    ·exact .inl e3
    ·by_cases e4:n'=0
     ·exact .inr (.inl e4)
     ·exact .inr (.inr (hne a ha' e3 e4))
   ·rw [if_neg e2]
    exact h0
theorem iU.conts {B n c:Nat} {w:World} {y:Sls} {s:St} {hs:List AV} (h:iU B w y s hs) {ao:Option Addr} {l:List Con} (hc:qL B w ao n l) (hn:n≤c) (ho:dJ B w.heap.size w 38 5 ao c) :
  iU B w ⟨y.qa,y.ql,y.qc,y.aa,y.al,y.ac,y.ma,y.ml,y.mc,ao,n,c⟩ ⟨s.qs,s.clock,s.epoch,s.next,s.serial,s.apps,s.ms,l⟩ hs:=
 ⟨h.q,h.p,h.k,h.m,hc,⟨h.cap.q,h.cap.a,h.cap.m,hn⟩,h.rm.1,h.rm.2.1,h.rm.2.2.1,ho,h.rm.2.2.2.2⟩
theorem iU.swap {B pg:Nat} {w w':World} {y:Sls} {s:St} {hs:List AV} (h:iU B w y s hs) (hB:B≤w.heap.size) (hpa:y.aa=some ⟨pg,0,none⟩) {i k n' c':Nat} {ao':Option Addr} (hi:i<s.apps.length) (hb:Below w.heap.size w w')
  (hr:aO w' ao' n' (gF s.apps[i].asks k)) (ho:dJ w.heap.size w'.heap.size w' 77 5 ao' n') (hoc:dJ w.heap.size w'.heap.size w' 77 5 ao' c') (hc:n'≤c') :
  ∃hs',iU B (w'.setCell ⟨pg,i*3+2,none⟩ (.slice ao' n' c')) y (aGE s (i,k)) hs'∧Mks (fun q=>q=pg) w' (w'.setCell ⟨pg,i*3+2,none⟩ (.slice ao' n' c'))∧B≤pg∧pg<w.heap.size∧∃N,Cel w' 74 pg N∧i*3+2<N:=by
 have hih:i<hs.length:=by rw [h.k.heads.1];exact hi
 have hk:=h.k.swap hB hih hi hb hr ho hc
 have hp:=h.p
 rw [hpa] at hp
 obtain ⟨M,hBp,hpl,hlay,hM,_⟩:=hp.lay (by have:=hp.1.1;omega)
 have hcel:=(hlay.below hb).cel
 have hm:Mks (fun q=>q=pg) w' (w'.setCell ⟨pg,i*3+2,none⟩ (.slice ao' n' c')):=Mks.one _ _ _ _ _ rfl
 have hS:∀q,q=pg→∃N,Cel w' 74 q N:=fun q e=>by subst e;exact ⟨_,hcel⟩
 have hrm:=((h.rm.below hb).mono (Nat.le_refl B) hb.size).mks hm
 refine ⟨_,⟨(h.q.below hb).mkg hm hS (by decide),by rw [hpa];exact (hp.below hb).upd hih ao' n' c',?_,(h.m.below hb).mkg hm hS (by decide),(h.c.below hb).mkg hm hS (by decide),h.cap,?_⟩,hm,hBp,hpl,_,hcel,by have:=Nat.mul_le_mul_right 3 (show i+1≤M by have:=hp.1.1;omega);omega⟩
 ·show kD B _ _ (bK s.apps (i,k))
  rw [qM _ _ _ hi]
  exact hk.mkg hm hS (by decide)
 ·have h2:=hrm.mono (Nat.le_refl B) hm.size
  refine ⟨h2.1,h2.2.1,h2.2.2.1,h2.2.2.2.1,fun v hv=>?_⟩
  rcases List.mem_or_eq_of_mem_set hv with hv | rfl
  ·exact h2.2.2.2.2 v hv
  ·exact (hoc.mks hm).mono hB hm.size
def aI7 (B:Nat) (y:Sls) (hs:List AV) (s:St) (nd:List UInt8) (w:World) (e:Ending) (w':World):Prop:=
 ∃y' hs',e=.returned (.tuple #[sv y' (fV s nd),conv (mU (aW s nd)),.bool (aW s nd).isSome])∧iU B w' y' (fV s nd) hs'∧(∃g,y'.ca=some ⟨g,0,none⟩)∧Kc B w.heap.size none 0 w w'∧(aW s nd=none→y'=y∧hs'=hs)∧∀g,y'.ca=some ⟨g,0,none⟩→y'.cc≠0→g<w.heap.size→y.cc≠0∧y.ca=some ⟨g,0,none⟩
theorem aHz {s:St} {nd:List UInt8} (h:dN s=true):vC s nd=aW s nd:=by rw [aW,if_pos h]
theorem aBj {B:Nat} {y:Sls} {s:St} {hs:List AV} {w:World} (h:iU B w y s hs) (hBw:B≤w.heap.size) (hca:∃g,y.ca=some ⟨g,0,none⟩) (nd:List UInt8) (hf:bS s) (hok:dN s=true) (hnd:nd.length≤1048576) :
  Calls Tryz.prog 24 #[sv y s,.string (bs nd)] w (aI7 B y hs s nd w):=by
 have hb1:=yA (yA (yA (Below.refl _ w) (.cells (svc y s) 34)) (.cells #[.slice none 0 0,.int .i64 0,.int .i64 0,.int .i64 0,.int .i64 0,.slice none 0 0,.slice none 0 0,.slice none 0 0] 34)) (.cells #[.int .i64 0,.int .i64 0,.string ⟨#[]⟩,.int .i64 0,.int .i64 0] 38)
 have P0:=aA (((yD w (svc y s) 34).al (.cells #[.slice none 0 0,.int .i64 0,.int .i64 0,.int .i64 0,.int .i64 0,.slice none 0 0,.slice none 0 0,.slice none 0 0] 34)).al (.cells #[.int .i64 0,.int .i64 0,.string ⟨#[]⟩,.int .i64 0,.int .i64 0] 38))
 have P1:=aA ((yD (w.alloc (.cells (svc y s) 34)) #[.slice none 0 0,.int .i64 0,.int .i64 0,.int .i64 0,.int .i64 0,.slice none 0 0,.slice none 0 0,.slice none 0 0] 34).al (.cells #[.int .i64 0,.int .i64 0,.string ⟨#[]⟩,.int .i64 0,.int .i64 0] 38))
 have P2:=aA (yD ((w.alloc (.cells (svc y s) 34)).alloc (.cells #[.slice none 0 0,.int .i64 0,.int .i64 0,.int .i64 0,.int .i64 0,.slice none 0 0,.slice none 0 0,.slice none 0 0] 34)) #[.int .i64 0,.int .i64 0,.string ⟨#[]⟩,.int .i64 0,.int .i64 0] 38)
 rw [yE] at P1
 rw [yE,yE] at P2
 have H1:=aA (h.below hb1)
 have B1:=aA hb1
 have hz1:(((w.alloc (.cells (svc y s) 34)).alloc (.cells #[.slice none 0 0,.int .i64 0,.int .i64 0,.int .i64 0,.int .i64 0,.slice none 0 0,.slice none 0 0,.slice none 0 0] 34)).alloc (.cells #[.int .i64 0,.int .i64 0,.string ⟨#[]⟩,.int .i64 0,.int .i64 0] 38)).heap.size=w.heap.size+1+1+1:=by simp only [yE]
 have CN:=aA (aDJ y s nd _ (uH H1).ans.row hf (uZ hok).2.1 (uZ hok).2.2)
 have HFC:=aA (fun p (e:aW s nd=some p)=>nH e)
 have HG:=aA (show ∀e w',aI7 B y hs s nd w e w'↔∃y' hs',e=.returned (.tuple #[sv y' (match aW s nd with | none=>s | some p=>jQ s p),conv (mU (aW s nd)),.bool (aW s nd).isSome])∧iU B w' y' (match aW s nd with | none=>s | some p=>jQ s p) hs'∧(∃g,y'.ca=some ⟨g,0,none⟩)∧Kc B w.heap.size none 0 w w'∧(aW s nd=none→y'=y∧hs'=hs)∧∀g,y'.ca=some ⟨g,0,none⟩→y'.cc≠0→g<w.heap.size→y.cc≠0∧y.ca=some ⟨g,0,none⟩ from fun e w'=>Iff.rfl)
 rw [aHz hok] at CN
 obtain ⟨p,hp⟩:∃p,aW s nd=p:=⟨_,rfl⟩
 rw [hp] at CN HG HFC
 have HP:=aA hp
 have HCA:=aA hca
 have hlow:=aA (fun (hc:y.cl≠0)=>show ∃g,y.ca=some ⟨g,0,none⟩∧g<w.heap.size from by
  rcases h.c.2 with e | ⟨g,M,e,_,e2,_⟩
  ·exact absurd e hc
  ·exact ⟨g,e,e2⟩)
 have HSE:=aA (uZ hok).2.2
 clear hb1 h hp hca
 cases p with
 | none=>
  simp only [atS,mU,Option.isSome_none] at CN HG
  have u0:=(uH P0).at 0;have u1:=(uH P0).at 1;have u2:=(uH P0).at 2;have u3:=(uH P0).at 3;have u4:=(uH P0).at 4;have u5:=(uH P0).at 5;have u6:=(uH P0).at 6;have u7:=(uH P0).at 7
  simp at u0 u1 u2 u3 u4 u5 u6 u7
  go_enter Tryz.func24,Tryz.ntmps24
  go_wp2_with fail
  refine (uH CN).mono ?_
  rintro e w2 ⟨rfl,hb⟩
  have hb3:=yA (Below.refl _ w2) (.cells #[.int .i64 0,.int .i64 0,.string (bs []),.int .i64 0,.int .i64 0] 38)
  have H3:=aA (((uH H1).below hb).below hb3)
  have X3:=aA (((uH P0).below hb).below hb3)
  have Q1:=aA (((uH P1).below hb).below hb3)
  have Q2:=aA (((uH P2).below hb).below hb3)
  have B3:=aA (show Kc B w.heap.size none 0 w _ from Kc.of (yB (yB (uH B1) hb) hb3) hBw)
  have hz3:B≤w2.heap.size:=by have:=hb.size;rw [hz1] at this;omega
  clear u0 u1 u2 u3 u4 u5 u6 u7 hb hb3 CN H1 P0 P1 P2 B1 hz1
  go_upto_region 3 with fail
  have hz4:B≤(w2.alloc (.cells #[.int .i64 0,.int .i64 0,.string (bs []),.int .i64 0,.int .i64 0] 38)).heap.size:=by rw [yE];omega
  generalize w2.alloc (.cells #[.int .i64 0,.int .i64 0,.string (bs []),.int .i64 0,.int .i64 0] 38)=w3 at H3 X3 Q1 Q2 B3 hz4 ⊢
  refine wp_region_lit ?_
  refine dK (v:=sv y s) (d:=some 20) rfl rfl (mF (jE (uH X3) rfl)) ?_
  simp only [Act.put,sA,sB,sC]
  refine dK (v:=.agg #[.int .i64 0,.int .i64 0,.string ⟨#[]⟩,.int .i64 0,.int .i64 0]) (d:=some 21) rfl rfl (by refine mF ?_;simp only [List.map_toArray,List.map_nil];kernel_rfl) ?_
  simp only [Act.put,sA,sB,sC]
  refine fK (d:=none) rfl rfl (tJ (eX 34 (arr:=svc y s) (uH Q1) (by kernel_rfl) rfl (by kernel_rfl))) ?_
  simp only [Act.put]
  have M5:=jK (uH Q1) (svc y s) rfl
  have R5:=aA (iO (uH Q1) (svc y s))
  have Q5:=aA (M5.blk (uH Q2) (by omega))
  have H5:=aA ((uH H3).other M5 (uH Q1))
  have B5:=aA ((uH B3).trans (Kc.mks M5 (fun k e=>by subst e;omega) hz4 (fun k arr hk _ e=>by omega)))
  have hz5:B≤(World.setRow w3 (w.heap.size+1) (svc y s)).heap.size:=Nat.le_trans hz4 M5.size
  clear M5 Q1 Q2 H3 X3 B3
  generalize World.setRow w3 (w.heap.size+1) (svc y s)=w5 at R5 Q5 H5 B5 hz5 ⊢
  refine fK (d:=none) rfl rfl (tJ (eX 38 (arr:=#[.int .i64 0,.int .i64 0,.string ⟨#[]⟩,.int .i64 0,.int .i64 0]) (uH Q5) (by kernel_rfl) rfl (by kernel_rfl))) ?_
  simp only [Act.put]
  have M6:=jK (uH Q5) #[.int .i64 0,.int .i64 0,.string ⟨#[]⟩,.int .i64 0,.int .i64 0] rfl
  have R6:=aA (M6.blk (uH R5) (by omega))
  have T6:=aA (iO (uH Q5) #[.int .i64 0,.int .i64 0,.string ⟨#[]⟩,.int .i64 0,.int .i64 0])
  have H6:=aA ((uH H5).offc M6 ⟨_,uH Q5,rfl⟩ (fun hc o e=>by obtain ⟨g,e2,hg⟩:=uH hlow hc;rw [e2] at e;cases e;omega))
  have B6:=aA ((uH B5).trans (Kc.mks M6 (fun k e=>by subst e;omega) hz5 (fun k arr hk _ e=>by omega)))
  clear M6 R5 Q5 H5 B5
  generalize World.setRow w5 (w.heap.size+1+1) #[.int .i64 0,.int .i64 0,.string ⟨#[]⟩,.int .i64 0,.int .i64 0]=w6 at R6 T6 H6 B6 ⊢
  have HA:=aA (show aI7 B y hs s nd w (.returned (.tuple #[sv y s,conv ⟨0,0,[],0,0⟩,.bool false])) w6 from (uH HG _ _).2 ⟨y,hs,rfl,uH H6,uH HCA,uH B6,fun _=>⟨rfl,rfl⟩,fun g e hc _=>⟨hc,e⟩⟩)
  have z0:=(uH R6).at 0;have z1:=(uH R6).at 1;have z2:=(uH R6).at 2;have z3:=(uH R6).at 3;have z4:=(uH R6).at 4;have z5:=(uH R6).at 5;have z6:=(uH R6).at 6;have z7:=(uH R6).at 7
  simp at z0 z1 z2 z3 z4 z5 z6 z7
  have r0:=(uH T6).at 0;have r1:=(uH T6).at 1;have r2:=(uH T6).at 2;have r3:=(uH T6).at 3;have r4:=(uH T6).at 4
  simp at r0 r1 r2 r3 r4
  clear R6 T6 H6 B6 HG
  go_wp2
  refine bodyPost_ret (v:=.tuple #[sv y s,conv ⟨0,0,[],0,0⟩,.bool false]) (by simp [results,Tryz.results24,go_sem,z0,z1,z2,z3,z4,z5,z6,z7,r0,r1,r2,r3,r4];try rfl) rfl ?_
  exact uH HA
 | some p=>
  obtain ⟨⟨i,k⟩,c⟩:=p
  obtain ⟨-,-,hcl,hi,hk,hce⟩:=uH HFC _ rfl
  simp only at hi hk hce
  have hih:i<hs.length:=by rw [(uH H1).k.heads.1];exact hi
  have hpa:∃pg,y.aa=some ⟨pg,0,none⟩:=by
   rcases (uH H1).p.2 with e | ⟨g,M,e,_⟩
   ·have h1:=(uH H1).p.1.1;omega
   ·exact ⟨g,e⟩
  obtain ⟨pg,hpa⟩:=hpa
  have i1:(i:Int)<y.al:=by have h1:=(uH H1).p.1.1;omega
  have i0':(0:Int)≤i:=by omega
  have hcnt:=aCO hok hi hk
  obtain ⟨-,-,hrow,-⟩:=(uH H1).k.heads.2 i hih hi
  have hln:hs[i].len=s.apps[i].asks.length:=hrow.1
  obtain ⟨ga,hga⟩:∃g,hs[i].ao=some ⟨g,0,none⟩:=by
   rcases (uH H1).k.own _ (List.getElem_mem hih) with e | ⟨g,M,e,_⟩
   ·omega
   ·exact ⟨g,e⟩
  rw [hga] at hrow
  have hp1:=(uH H1).p
  rw [hpa] at hp1
  obtain ⟨Mp,-,-,hplay,-,-⟩:=hp1.lay (by have:=hp1.1.1;omega)
  have c2:=hplay.cell (kS hs i hih).2.2
  rw [hga] at c2
  have hfl:s.apps[i].asks.length≤1048576:=(hf.2.1.2 _ (List.getElem_mem hi)).2.1
  have CSW:=aA (fun wx wy ao' n' c' (hx:iU B wx y s hs) (hBx:B≤wx.heap.size) (hb:Below wx.heap.size wx wy) (hr:aO wy ao' n' (gF s.apps[i].asks k)) (ho:dJ wx.heap.size wy.heap.size wy 77 5 ao' n') (hoc:dJ wx.heap.size wy.heap.size wy 77 5 ao' c') (hc:n'≤c')=>hx.swap (k:=k) hBx hpa hi hb hr ho hoc hc)
  have HMO:=aA (fun hc=>uO hk hc)
  have HLA:=aA (fun hc=>uP hk hc)
  have HAS:=aA (fun l=>rG l k)
  obtain ⟨ct,hct⟩:∃x,s.apps[i].asks[k].count=x:=⟨_,rfl⟩
  have HLS:=aA (show aJG s.apps[i].asks[k]=⟨s.apps[i].asks[k].mem,s.apps[i].asks[k].cpu,ct - 1,s.apps[i].asks[k].node,s.apps[i].asks[k].missed⟩ by rw [←hct];rfl)
  have HCT:=aA (show (aN s.apps[i].asks)[k*5+2]? = some (.int .i64 ct) by rw [←hct];exact (kY s.apps[i].asks k hk).2.2.1)
  rw [hct] at HMO HLA hcnt
  obtain ⟨n,hn⟩:∃n,hs[i].len=n:=⟨_,rfl⟩
  obtain ⟨cap0,hcap0⟩:∃n,hs[i].cap=n:=⟨_,rfl⟩
  rw [hn] at hrow hln c2
  rw [hcap0] at c2
  have HAK:=aA (show k<s.apps[i].asks.length from hk)
  obtain ⟨c0,c1,cn,c3,c4⟩:=c
  simp only [atS,mU,Option.isSome_some] at CN HG
  have hcm:y.cl≤1048576:=by have h1:=(uH H1).c.1.1;omega
  have kn:k<n:=by omega
  have RK1:=aA hrow
  have HC2:=aA c2
  have HPA:=aA hpa
  obtain ⟨ak,hak⟩:∃a,s.apps[i].asks=a:=⟨_,rfl⟩
  have HLN:=aA hln
  have HAKE:=aA hak
  have hnn:n≤1048576:=by omega
  clear hln hak hfl c2 hrow hp1 hplay hga hih hce HFC hf hpa hct hcap0 hn
  have u0:=(uH P0).at 0;have u1:=(uH P0).at 1;have u2:=(uH P0).at 2;have u3:=(uH P0).at 3;have u4:=(uH P0).at 4;have u5:=(uH P0).at 5;have u6:=(uH P0).at 6;have u7:=(uH P0).at 7
  simp at u0 u1 u2 u3 u4 u5 u6 u7
  go_enter Tryz.func24,Tryz.ntmps24
  go_wp2_with fail
  refine (uH CN).mono ?_
  rintro e w2 ⟨rfl,hb⟩
  have hb3:=yA (Below.refl _ w2) (.cells #[.int .i64 c0,.int .i64 c1,.string (bs cn),.int .i64 c3,.int .i64 c4] 38)
  have H3:=aA (((uH H1).below hb).below hb3)
  have X3:=aA (((uH P0).below hb).below hb3)
  have Q1:=aA (((uH P1).below hb).below hb3)
  have Q2:=aA (((uH P2).below hb).below hb3)
  have RK3:=aA (((uH RK1).below hb).below hb3)
  have D3:=aA (show (w2.alloc (.cells #[.int .i64 c0,.int .i64 c1,.string (bs cn),.int .i64 c3,.int .i64 c4] 38)).cell? ⟨pg,i*3+2,none⟩=_ from (hb3.cell (yG ((hb.cell (yG (uH HC2))).trans (uH HC2)))).trans ((hb.cell (yG (uH HC2))).trans (uH HC2)))
  have G7:=aA (yD w2 #[.int .i64 c0,.int .i64 c1,.string (bs cn),.int .i64 c3,.int .i64 c4] 38)
  have B3:=aA (yB (yB (uH B1) hb) hb3)
  have hz3:w.heap.size+1+1+1≤w2.heap.size:=by have:=hb.size;rw [hz1] at this;omega
  clear u0 u1 u2 u3 u4 u5 u6 u7 hb hb3 CN H1 P0 P1 P2 B1 hz1 RK1 HC2
  go_upto_region 4 with fail
  have hz4:w2.heap.size<(w2.alloc (.cells #[.int .i64 c0,.int .i64 c1,.string (bs cn),.int .i64 c3,.int .i64 c4] 38)).heap.size:=by rw [yE];omega
  generalize w2.alloc (.cells #[.int .i64 c0,.int .i64 c1,.string (bs cn),.int .i64 c3,.int .i64 c4] 38)=w3 at H3 X3 Q1 Q2 RK3 D3 G7 B3 hz4 ⊢
  generalize w2.heap.size=g7 at G7 hz3 hz4 ⊢
  obtain ⟨i0,hi0,hz0,hzz1,hz2⟩:=info_parts Tryz.infoA
  have hbe:=yA (Below.refl _ w3) (.cells #[] 77)
  have hll:(aN s.apps[i].asks).length=n*5:=by rw [aV,uH HLN]
  have hone:=iB s.apps[i].asks
  have HNW:=aA (show ∀j u,(aN s.apps[i].asks)[j]? = some u→(w3.alloc (.cells #[] 77)).cell? ((⟨ga,0,none⟩:Addr).add j)=some u from fun j u hj=>by
   rw [Lib.add_plain]
   exact nL ((uH RK3).below hbe) j u hj)
  have hown:=rF w3
  rw [uH HAKE] at hll hone HNW
  have x5:=((uH X3).below hbe).at 5
  simp at x5
  rw [uH HPA] at x5
  have d3:=(hbe.cell (yG (uH D3))).trans (uH D3)
  go_wp2_with (at_builtin;refine wpList_append_own _ rfl _ _ 72 rfl w3.heap.size 77 i0 (.agg #[.int .i64 0,.int .i64 0,.int .i64 0,.string ByteArray.empty,.int .i64 0]) 5 48 Tryz.underlying72 hi0 hz0 hzz1 hz2 rfl (by decide) _ _ _ rfl hown ⟨ga,0,none⟩ n cap0 (aN ak) rfl hll (uH HNW) hone ?c3 ?c4 ?c5 ?_)
  case c3=>unfold maxLen;omega
  case c4=>omega
  case c5=>simp
  intro v' w4 hown' hgrow _
  have hbB:Below w3.heap.size w3 w4:=hbe.grown hgrow (by simp) (fun k e=>by simp [Value.ownBlock] at e;omega)
  have hoo:rM w3.heap.size w4 v' s.apps[i].asks:=by
   unfold rM
   rw [←uH HLN,uH HAKE]
   simpa using hown'
  obtain ⟨ao,cap,rfl,hnc,hr4,ho4⟩:=uD hoo
  obtain ⟨g10,M10,rfl,hg10,hgl10,hcel10,hM10⟩:∃g M,ao=some ⟨g,0,none⟩∧w3.heap.size≤g∧g<w4.heap.size∧Cel w4 77 g (M*5)∧cap≤M:=by
   rcases gV hoo with e | e
   ·rw [←uH HLN] at hnc;omega
   ·exact e
  rw [←uH HLN] at hr4 hnc
  have HLAY:=aA (hr4.lay hcel10 (Nat.mul_le_mul_right _ (by rw [←uH HLN];omega)))
  have HRW:=aA (fun (l':List Ask) (w':World) (hl':Lay w' 77 g10 (M10*5) (aN l'))=>hl'.rowA)
  have BA:=aA hbB
  clear hown hown' hgrow hoo hr4 ho4 hbe hll hone HNW x5 d3 D3 hi0 hz0 hzz1 hz2 hbB RK3
  have ck:=(uH HLAY).cell (uH HCT)
  have fk:=(uH HLAY).frozen (k*5+2)
  have k0:(0:Int)≤k:=by omega
  have k1:(k:Int)<n:=by omega
  have hwc:IntKind.i64.wrap (ct - 1)=ct - 1:=by rw [IntKind.wrap_i64];omega
  have hwk:IntKind.i64.wrap ((k:Int)+1)=(k:Int)+1:=by rw [IntKind.wrap_i64];omega
  rw [←uH HLN]
  go_upto_if 35 with fail
  go_cut [10] from 30 to 55 (fun v10 wx=>∃ao n' c',v10=.slice ao n' c'∧Hid (aO wx ao n' (gF s.apps[i].asks k))∧Hid (dJ w3.heap.size wx.heap.size wx 77 5 ao n')∧Hid (dJ w3.heap.size wx.heap.size wx 77 5 ao c')∧n'≤c'∧Hid (Below w3.heap.size w3 wx))
  case first=>
   by_cases hc:1<ct
   ·have HLM:=aA (aDH (uH HLAY) (p:=k*5+2) (by rw [aV,←uH HLN];omega) (.int .i64 (ct - 1)))
    have HMM:=aA (Mks.one (fun q=>q=g10) w4 g10 (k*5+2) (.int .i64 (ct - 1)) rfl)
    have HCC:=aA hc
    go_wp2_with fail
    go_meet
    refine ⟨some ⟨g10,0,none⟩,n,cap,rfl,aA ?_,aA ?_,aA ?_,by omega,aA ?_⟩
    ·have h1:=uH HLM
     rw [←uH HAS _ (uH HAK) (ct - 1)] at h1
     have h2:=h1.rowA
     rw [List.length_set] at h2
     rw [uH HMO (uH HCC),uH HLS,uH HLN]
     exact h2
    ·exact .inr ⟨g10,M10,rfl,hg10,by rw [bE];exact hgl10,(uH HMM).cel _ _ _ hcel10,by omega⟩
    ·exact .inr ⟨g10,M10,rfl,hg10,by rw [bE];exact hgl10,(uH HMM).cel _ _ _ hcel10,hM10⟩
    ·exact yC (uH BA) _ _ _ hg10
   ·have HLL:=aA (uH HLA (by omega))
    go_upto_region 7 with fail
    obtain ⟨i0,hi0,hz0,hzz1,hz2⟩:=info_parts Tryz.infoA
    have hlo:=aJY g10 n cap k (by omega)
    have hhi:∀wx:World,(Instr.slice 72 (.slice (some ⟨g10,0,none⟩) n cap) (some (.int .i64 ((k:Int)+1))) none none).run Tryz.prog wx=.ok (.slice (some (hiA g10 cap (k+1) 5)) (n - (k+1)) (cap - (k+1))) wx:=fun wx=>by
     have:=aJZ g10 n cap (k+1) (by omega) wx
     rwa [show (((k+1:Nat)):Int)=(k:Int)+1 by omega] at this
    obtain ⟨NC1,hc1⟩:∃c,aN (s.apps[i].asks.take k)=c:=⟨_,rfl⟩
    obtain ⟨NC2,hc2⟩:∃c,aN (s.apps[i].asks.drop (k+1))=c:=⟨_,rfl⟩
    have HL1:=aA (show NC1.length=k*5 by rw [←hc1,aV,List.length_take,Nat.min_eq_left (by have:=uH HLN;omega)])
    have HL2:=aA (show NC2.length=(n - (k+1))*5 by rw [←hc2,aV,List.length_drop,←uH HLN])
    have hsp1:aN s.apps[i].asks=NC1++aN (s.apps[i].asks.drop k):=by rw [←hc1,←dU,List.take_append_drop]
    have hsp2:aN s.apps[i].asks=aN (s.apps[i].asks.take (k+1))++NC2:=by rw [←hc2,←dU,List.take_append_drop]
    have HLO:=aA (show ∀wx:World,Kp w4 wx→∀j u,NC1[j]? = some u→wx.cell? (Addr.add ⟨g10,0,none⟩ j)=some u from fun wx hb j u hu=>by
     rw [Lib.add_plain,Nat.zero_add]
     refine ((uH HLAY).below hb).cell ?_
     rw [hsp1,List.getElem?_append_left (List.getElem?_eq_some_iff.1 hu).1]
     exact hu)
    have HHI:=aA (show ∀wx:World,Kp w4 wx→∀j u,NC2[j]? = some u→wx.cell? (Addr.add (hiA g10 cap (k+1) 5) j)=some u from fun wx hb j u hu=>by
     have hlt:=(List.getElem?_eq_some_iff.1 hu).1
     rw [uH HL2] at hlt
     rw [aGn (by omega)]
     refine ((uH HLAY).below hb).cell ?_
     have hl1:(aN (s.apps[i].asks.take (k+1))).length=(k+1)*5:=by rw [aV,List.length_take,Nat.min_eq_left (by have:=uH HLN;omega)]
     rw [hsp2,List.getElem?_append_right (by rw [hl1];omega),hl1,Nat.add_sub_cancel_left]
     exact hu)
    have HO1:=aA (show ∀u ∈ NC1,u.oneCell'=true by rw [←hc1];exact iB _)
    have HO2:=aA (show ∀u ∈ NC2,u.oneCell'=true by rw [←hc2];exact iB _)
    have HER:=aA (show NC1++NC2=aN (s.apps[i].asks.eraseIdx k) by rw [tC _ _ (uH HAK),hc1,hc2])
    clear hc1 hc2 hsp1 hsp2
    refine wp_region_held_drew (S:=fun wx=>Kp w4 wx) (by kernel_rfl) ((cB w4).drew (Kp.new w4)) (fun S0=>?_)
    generalize w4.drew=wn at S0 ⊢
    refine aB 1 47 _ rfl rfl S0 ?_
    try simp only [Act.put,sA,sB,sC]
    refine aB 2 48 _ rfl rfl S0 ?_
    try simp only [Act.put,sA,sB,sC]
    refine aB 3 49 (.slice (some ⟨g10,0,none⟩) k cap) rfl rfl S0 ?_ (hy:=Or.inl ⟨by rfl,fun wz hz=>mF (hlo wz)⟩)
    try simp only [Act.put,sA,sB,sC]
    refine aB 5 51 _ rfl rfl S0 ?_
    try simp only [Act.put,sA,sB,sC]
    refine aB 6 52 _ rfl rfl S0 ?_
    try simp only [Act.put,sA,sB,sC]
    refine aB 7 53 (.int .i64 ((k:Int)+1)) rfl rfl S0 ?_
    try simp only [Act.put,sA,sB,sC]
    refine aB 8 54 (.slice (some (hiA g10 cap (k+1) 5)) (n - (k+1)) (cap - (k+1))) rfl rfl S0 ?_ (hy:=Or.inl ⟨by rfl,fun wz hz=>mF (hhi wz)⟩)
    try simp only [Act.put,sA,sB,sC]
    have IR:=lX (E:=77) (sz:=5) S0
    refine wpAnyH_ready (rs:=[0]) (by kernel_rfl) (by simp) (AllReadyH.cons rfl (fun K hK=>?_) AllReadyH.nil)
    go_simp
    go_wp2_with fail
    have S1:Kp w4 _:=yA S0 (.cells #[] 77)
    clear S0
    refine hK.out _ _ S1 (fun S0=>?_)
    clear hK K S1
    try simp only [Act.put,sA,sB,sC]
    generalize wn.alloc (.cells #[] 77)=wa at S0 IR ⊢
    generalize wn.heap.size=g0 at IR ⊢
    refine wpAnyH_ready (rs:=[4]) (by kernel_rfl) (by simp) (AllReadyH.cons rfl (fun K hK=>?_) AllReadyH.nil)
    refine gI (w1:=w4) rfl (.tmp 46) (.tmp 49) 72 rfl 77 i0 (.agg #[.int .i64 0,.int .i64 0,.int .i64 0,.string ByteArray.empty,.int .i64 0]) 5 48 Tryz.underlying72 hi0 hz0 hzz1 hz2 rfl (by decide) (.slice (some ⟨g0,0,none⟩) 0 0) 0 [] rfl IR S0 ⟨g10,0,none⟩ k cap NC1 rfl (uH HL1) (fun j u hu=>uH HLO _ S0 j u hu) (uH HO1) (by unfold maxLen;omega) (by omega) ?_
    intro v1 wb hr1 kp1 _
    show K (Act.put _ (some 50) v1) wb
    clear S0 IR
    refine hK.out _ _ kp1 (fun S0=>?_)
    clear hK K kp1
    try simp only [Act.put,sA,sB,sC]
    refine wpAnyH_ready (rs:=[9]) (by kernel_rfl) (by simp) (AllReadyH.cons rfl (fun K hK=>?_) AllReadyH.nil)
    refine gI (w1:=w4) rfl (.tmp 50) (.tmp 54) 72 rfl 77 i0 (.agg #[.int .i64 0,.int .i64 0,.int .i64 0,.string ByteArray.empty,.int .i64 0]) 5 48 Tryz.underlying72 hi0 hz0 hzz1 hz2 rfl (by decide) v1 (0+k) ([]++NC1) rfl hr1 S0 (hiA g10 cap (k+1) 5) (n - (k+1)) (cap - (k+1)) NC2 rfl (uH HL2) (fun j u hu=>uH HHI _ S0 j u hu) (uH HO2) (by unfold maxLen;omega) (by omega) ?_
    intro v2 wd hr2 kp2 _
    show K (Act.put _ (some 55) v2) wd
    clear S0 hr1
    refine hK.out _ _ kp2 (fun S0=>?_)
    clear hK K kp2
    try simp only [Act.put,sA,sB,sC]
    refine aB 10 10 _ rfl rfl S0 ?_
    try simp only [Act.put,sA,sB,sC]
    refine wpAnyH_done (by kernel_rfl) ?_ _
    have hao:rM w4.heap.size wd v2 (s.apps[i].asks.eraseIdx k):=by
     unfold rM
     have h1:=hr2.1
     rw [List.nil_append,uH HER] at h1
     rw [List.length_eraseIdx_of_lt (uH HAK),←uH HLN,show n - 1=0+k+(n - (k+1)) by omega]
     exact h1
    obtain ⟨ao,cp,rfl,hcp,hrw,how⟩:=uD hao
    have HOC:=aA (gV hao)
    have HRW2:=aA hrw
    have HOW:=aA how
    have BD:=aA (yB (uH BA) S0)
    have hz34:w3.heap.size≤w4.heap.size:=(uH BA).size
    obtain ⟨n',hn'⟩:∃n',(s.apps[i].asks.eraseIdx k).length=n':=⟨_,rfl⟩
    rw [hn'] at HRW2 HOW hcp ⊢
    clear hao hr2 S0 hrw how hn'
    go_wp2_with fail
    go_meet
    refine ⟨ao,n',cp,rfl,aA ?_,aA ((uH HOW).mono hz34 (Nat.le_refl _)),aA ((uH HOC).mono hz34 (Nat.le_refl _)),hcp,BD⟩
    rw [uH HLL]
    exact uH HRW2
  case rest=>
   obtain ⟨ao,n',c',rfl,RW,OW,OC,hnc',hbz⟩:=hcut
   obtain ⟨w5,rfl⟩:∃z,z=wc:=⟨_,rfl⟩
   have hBw3:B≤w3.heap.size:=by omega
   obtain ⟨hs5,h5,hm5,hBp,hpl,N5,hcel5,hN5⟩:=uH CSW w3 w5 ao n' c' (uH H3) hBw3 (uH hbz) (uH RW) (uH OW) (uH OC) hnc'
   have hne:∀{b:Nat} {arr:Array Value} {t:TypeId},Blk w5 b arr t→t≠74→¬b=pg:=fun hb ht e=>by subst e;exact ht (Cel.type ⟨_,hb,rfl⟩ hcel5)
   have hb5:=uH hbz
   have X5:=aA ((uH X3).below hb5)
   have Q15:=aA ((uH Q1).below hb5)
   have Q25:=aA ((uH Q2).below hb5)
   have G75:=aA ((uH G7).below hb5)
   have B5:=aA (Kc.of (W:=w.heap.size) (ca:=none) (cc:=0) (yB (uH B3) hb5) hBw)
   have hz5:B≤w5.heap.size:=Nat.le_trans hBw3 hb5.size
   have H6:=aA h5
   have X6:=aA (hm5.blk (uH X5) (hne (uH X5) (by decide)))
   have Q16:=aA (hm5.blk (uH Q15) (hne (uH Q15) (by decide)))
   have Q26:=aA (hm5.blk (uH Q25) (hne (uH Q25) (by decide)))
   have G76:=aA (hm5.blk (uH G75) (hne (uH G75) (by decide)))
   have B6:=aA ((uH B5).trans (Kc.mks hm5 (fun k e=>by subst e;exact hBp) hz5 (fun k arr _ hb e=>absurd e (hne hb (by decide)))))
   obtain ⟨old,hold⟩:=Option.isSome_iff_exists.1 (hcel5.isThere (j:=i*3+2) hN5)
   have fp:=hcel5.frozen (i*3+2)
   have x5:=(uH X5).at 5
   simp at x5
   rw [uH HPA] at x5
   have hz6:B≤(w5.setCell ⟨pg,i*3+2,none⟩ (.slice ao n' c')).heap.size:=by rw [bE];exact hz5
   clear h5 hm5 hne hb5 hbz X5 Q15 Q25 G75 B5 H3 X3 Q1 Q2 G7 B3 RW OW OC CSW HMO HLA HLS HCT HLAY HRW BA ck fk HAS
   go_upto_region 9 with fail
   clear x5 hold fp
   generalize w5.setCell ⟨pg,i*3+2,none⟩ (.slice ao n' c')=w6 at H6 X6 Q16 Q26 G76 B6 hz6 ⊢
   obtain ⟨gc,hgc⟩:=uH HCA
   have x7:=(uH X6).at 7
   simp at x7
   rw [hgc] at x7
   have HGC:=aA hgc
   clear hgc
   have q0:=(uH G76).at 0;have q1:=(uH G76).at 1;have q2:=(uH G76).at 2;have q3:=(uH G76).at 3;have q4:=(uH G76).at 4
   simp at q0 q1 q2 q3 q4
   go_wp2_with fail
   refine (aFG gc y.cl y.cc s.cs ⟨c0,c1,cn,c3,c4⟩ _ (by have h1:=(uH H6).c.1;rw [uH HGC] at h1;exact h1) (uH H6).cap.c hcm).mono ?_
   rintro e w7 ⟨v,rfl,HOW,HNE,BB⟩
   clear q0 q1 q2 q3 q4 x7
   obtain ⟨co,cd,rfl,hcd,hch⟩:=aAi (uH HOW)
   obtain ⟨g9,rfl⟩:∃g,co=some ⟨g,0,none⟩:=by
    rcases (uH HOW).2 with ⟨e,_⟩ | ⟨g,cap,cur,e,_⟩
    ·exact absurd e (uH HNE)
    ·cases e;exact ⟨g,rfl⟩
   have hw67:=(uH BB).size
   have H7:=aA (((uH H6).below (uH BB)).conts (hch.base (by omega)) hcd ((gV (uH HOW)).mono (by omega) (Nat.le_refl _)))
   have X7:=aA ((uH X6).below (uH BB))
   have Q17:=aA ((uH Q16).below (uH BB))
   have Q27:=aA ((uH Q26).below (uH BB))
   have G77:=aA ((uH G76).below (uH BB))
   have B7:=aA ((uH B6).trans (Kc.of (uH BB) hz6))
   have hz7:B≤w7.heap.size:=Nat.le_trans hz6 hw67
   obtain ⟨n9,hn9⟩:∃m,(vU s.cs ⟨c0,c1,cn,c3,c4⟩).length=m:=⟨_,rfl⟩
   rw [hn9] at H7 ⊢
   have x7:=(uH X7).at 7
   simp at x7
   have f7:=(uH X7).f 7
   have hgw:w.heap.size≤g9:=by
    have:=(uH HOW).2
    rcases this with ⟨e2,_⟩ | ⟨g,cap,cur,e2,h2,_⟩
    ·cases e2
    ·cases e2
     have:=(uH Q26).lt
     omega
   have hgo:g9≠w.heap.size+1+1:=fun e=>by
    have:=(uH HOW).2
    rcases this with ⟨e2,_⟩ | ⟨g,cap,cur,e2,h2,_⟩
    ·cases e2
    ·cases e2
     have:=(uH Q26).lt
     omega
   clear HOW HNE BB hcd hch hn9 H6 X6 Q16 Q26 G76 B6 hz6 hw67
   go_upto_region 10 with fail
   have M8:=Mks.one (fun q=>q=w.heap.size) w7 w.heap.size 7 (.slice (some ⟨g9,0,none⟩) n9 cd) rfl
   have X8:=aA (show Blk _ w.heap.size (svc ⟨y.qa,y.ql,y.qc,y.aa,y.al,y.ac,y.ma,y.ml,y.mc,some ⟨g9,0,none⟩,n9,cd⟩ s) 34 from (uH X7).set 7 (.slice (some ⟨g9,0,none⟩) n9 cd))
   have H8:=aA ((uH H7).other M8 (uH X7))
   have Q18:=aA (M8.blk (uH Q17) (by omega))
   have Q28:=aA (M8.blk (uH Q27) (by omega))
   have G78:=aA (M8.blk (uH G77) (by omega))
   have B8:=aA ((uH B7).trans (Kc.mks M8 (fun k e=>by subst e;exact hBw) hz7 (fun k arr hk _ e=>by omega)))
   have hz8:B≤(w7.setCell ⟨w.heap.size,7,none⟩ (.slice (some ⟨g9,0,none⟩) n9 cd)).heap.size:=by rw [bE];exact hz7
   clear x7 f7 M8 X7 H7 Q17 Q27 G77 B7 hz7
   generalize w7.setCell ⟨w.heap.size,7,none⟩ (.slice (some ⟨g9,0,none⟩) n9 cd)=w8 at X8 H8 Q18 Q28 G78 B8 hz8 ⊢
   have x4:=(uH X8).at 4
   simp at x4
   have fx4:=(uH X8).f 4
   have hse:=uH HSE
   have hws:IntKind.i64.wrap (s.serial+1)=s.serial+1:=by rw [IntKind.wrap_i64];omega
   go_upto_region 11 with fail
   have X9:=aA ((uH X8).set 4 (.int .i64 (s.serial+1)))
   have M9:=aA (Mks.one (fun q=>q=w.heap.size) w8 w.heap.size 4 (.int .i64 (s.serial+1)) rfl)
   clear x4 fx4
   generalize w8.setCell ⟨w.heap.size,4,none⟩ (.int .i64 (s.serial+1))=w9 at X9 M9 ⊢
   have x4:=(uH X9).at 4
   simp at x4
   have fx4:=(uH X9).f 4
   go_upto_if 73 with fail
   go_cut [71] from 72 to 74 (fun v71 wx=>Hid (Blk wx w.heap.size (svc ⟨y.qa,y.ql,y.qc,y.aa,y.al,y.ac,y.ma,y.ml,y.mc,some ⟨g9,0,none⟩,n9,cd⟩ ⟨s.qs,s.clock,s.epoch,s.next,dC s.serial,bK s.apps (i,k),s.ms,vU s.cs ⟨c0,c1,cn,c3,c4⟩⟩) 34∧Mks (fun q=>q=w.heap.size) w8 wx))
   case first=>
    by_cases hs9:99999<s.serial+1
    ·go_wp2_with fail
     go_meet
     refine aA ⟨?_,(uH M9).trans (Mks.one (fun q=>q=w.heap.size) w9 w.heap.size 4 (.int .i64 1) rfl)⟩
     have:=(uH X9).set 4 (.int .i64 1)
     simp only [dC]
     rw [if_pos (by omega)]
     exact this
    ·go_wp2_with fail
     go_meet
     refine aA ⟨?_,uH M9⟩
     simp only [dC]
     rw [if_neg (by omega)]
     exact uH X9
   case rest=>
    obtain ⟨w10,rfl⟩:∃z,z=wc:=⟨_,rfl⟩
    have XA:=aA (uH hcut).1
    have HA0:=aA (((uH H8).other (uH hcut).2 (uH X8)).nums (s':=⟨s.qs,s.clock,s.epoch,s.next,dC s.serial,bK s.apps (i,k),s.ms,vU s.cs ⟨c0,c1,cn,c3,c4⟩⟩) rfl rfl rfl rfl)
    have Q1A:=aA ((uH hcut).2.blk (uH Q18) (by omega))
    have Q2A:=aA ((uH hcut).2.blk (uH Q28) (by omega))
    have G7A:=aA ((uH hcut).2.blk (uH G78) (by omega))
    have BA:=aA ((uH B8).trans (Kc.mks (uH hcut).2 (fun k e=>by subst e;exact hBw) hz8 (fun k arr hk _ e=>by omega)))
    have hzA:B≤w10.heap.size:=Nat.le_trans hz8 (uH hcut).2.size
    clear hcut X8 H8 Q18 Q28 G78 B8 hz8 X9 M9 x4 fx4 hws
    go_upto_region 13 with fail
    refine wp_region_held_drew (S:=fun wx=>Blk wx w.heap.size (svc ⟨y.qa,y.ql,y.qc,y.aa,y.al,y.ac,y.ma,y.ml,y.mc,some ⟨g9,0,none⟩,n9,cd⟩ ⟨s.qs,s.clock,s.epoch,s.next,dC s.serial,bK s.apps (i,k),s.ms,vU s.cs ⟨c0,c1,cn,c3,c4⟩⟩) 34∧Blk wx g7 #[.int .i64 c0,.int .i64 c1,.string (bs cn),.int .i64 c3,.int .i64 c4] 38) (by kernel_rfl) ⟨(uH XA).drew,(uH G7A).drew⟩ (fun S0=>?_)
    have HB:=aA ((uH HA0).below (Below.refl _ w10).drew)
    have Q1B:=aA (uH Q1A).drew
    have Q2B:=aA (uH Q2A).drew
    have BB:=aA ((uH BA).trans (Kc.of (Below.refl _ w10).drew hzA))
    have hzB:B≤w10.drew.heap.size:=hzA
    clear XA HA0 Q1A Q2A G7A BA hzA
    generalize w10.drew=wn at S0 HB Q1B Q2B BB hzB ⊢
    refine aB 0 75 (sv ⟨y.qa,y.ql,y.qc,y.aa,y.al,y.ac,y.ma,y.ml,y.mc,some ⟨g9,0,none⟩,n9,cd⟩ ⟨s.qs,s.clock,s.epoch,s.next,dC s.serial,bK s.apps (i,k),s.ms,vU s.cs ⟨c0,c1,cn,c3,c4⟩⟩) rfl rfl S0 ?_ (hy:=Or.inl ⟨by rfl,fun wz hz=>mF (jE hz.1 rfl)⟩)
    try simp only [Act.put,sA,sB,sC]
    refine aB 1 76 (conv ⟨c0,c1,cn,c3,c4⟩) rfl rfl S0 ?_ (hy:=Or.inl ⟨by rfl,fun wz hz=>mF (mR hz.2 rfl)⟩)
    try simp only [Act.put,sA,sB,sC]
    have M7:=jK (uH Q1B) (svc ⟨y.qa,y.ql,y.qc,y.aa,y.al,y.ac,y.ma,y.ml,y.mc,some ⟨g9,0,none⟩,n9,cd⟩ ⟨s.qs,s.clock,s.epoch,s.next,dC s.serial,bK s.apps (i,k),s.ms,vU s.cs ⟨c0,c1,cn,c3,c4⟩⟩) rfl
    have S1:=And.intro (M7.blk S0.1 (by omega)) (M7.blk S0.2 (by omega))
    have R7:=aA (iO (uH Q1B) (svc ⟨y.qa,y.ql,y.qc,y.aa,y.al,y.ac,y.ma,y.ml,y.mc,some ⟨g9,0,none⟩,n9,cd⟩ ⟨s.qs,s.clock,s.epoch,s.next,dC s.serial,bK s.apps (i,k),s.ms,vU s.cs ⟨c0,c1,cn,c3,c4⟩⟩))
    have H7:=aA ((uH HB).other M7 (uH Q1B))
    have Q7:=aA (M7.blk (uH Q2B) (by omega))
    have B7:=aA ((uH BB).trans (Kc.mks M7 (fun k e=>by subst e;omega) hzB (fun k arr hk _ e=>by omega)))
    have hz7:B≤(World.setRow wn (w.heap.size+1) (svc ⟨y.qa,y.ql,y.qc,y.aa,y.al,y.ac,y.ma,y.ml,y.mc,some ⟨g9,0,none⟩,n9,cd⟩ ⟨s.qs,s.clock,s.epoch,s.next,dC s.serial,bK s.apps (i,k),s.ms,vU s.cs ⟨c0,c1,cn,c3,c4⟩⟩)).heap.size:=Nat.le_trans hzB M7.size
    refine wpAnyH_ready (rs:=[2]) (by kernel_rfl) (by simp) (AllReadyH.cons rfl (fun K hK=>aBJ (by rfl) rfl (tJ (eX 34 (arr:=svc ⟨y.qa,y.ql,y.qc,y.aa,y.al,y.ac,y.ma,y.ml,y.mc,some ⟨g9,0,none⟩,n9,cd⟩ ⟨s.qs,s.clock,s.epoch,s.next,dC s.serial,bK s.apps (i,k),s.ms,vU s.cs ⟨c0,c1,cn,c3,c4⟩⟩) (uH Q1B) (by kernel_rfl) rfl (by kernel_rfl))) ?_) AllReadyH.nil)
    clear S0
    refine hK.out _ _ S1 (fun S0=>?_)
    clear hK K S1 M7 HB Q1B Q2B BB hzB
    try simp only [Act.put,sA,sB,sC]
    generalize World.setRow wn (w.heap.size+1) (svc ⟨y.qa,y.ql,y.qc,y.aa,y.al,y.ac,y.ma,y.ml,y.mc,some ⟨g9,0,none⟩,n9,cd⟩ ⟨s.qs,s.clock,s.epoch,s.next,dC s.serial,bK s.apps (i,k),s.ms,vU s.cs ⟨c0,c1,cn,c3,c4⟩⟩)=w11 at S0 R7 H7 Q7 B7 hz7 ⊢
    have M9:=jK (uH Q7) #[.int .i64 c0,.int .i64 c1,.string (bs cn),.int .i64 c3,.int .i64 c4] rfl
    have S1:=And.intro (M9.blk S0.1 (by omega)) (M9.blk S0.2 (by omega))
    have R9:=aA (M9.blk (uH R7) (by omega))
    have T9:=aA (iO (uH Q7) #[.int .i64 c0,.int .i64 c1,.string (bs cn),.int .i64 c3,.int .i64 c4])
    have H9:=aA ((uH H7).offc M9 ⟨_,uH Q7,rfl⟩ (fun _ o e=>by cases e;exact hgo rfl))
    have B9:=aA ((uH B7).trans (Kc.mks M9 (fun k e=>by subst e;omega) hz7 (fun k arr hk _ e=>by omega)))
    refine wpAnyH_ready (rs:=[3]) (by kernel_rfl) (by simp) (AllReadyH.cons rfl (fun K hK=>aBJ (by rfl) rfl (tJ (eX 38 (arr:=#[.int .i64 c0,.int .i64 c1,.string (bs cn),.int .i64 c3,.int .i64 c4]) (uH Q7) (by kernel_rfl) rfl (by kernel_rfl))) ?_) AllReadyH.nil)
    clear S0
    refine hK.out _ _ S1 (fun S0=>?_)
    clear hK K S1 M9 R7 H7 Q7 B7 hz7
    try simp only [Act.put,sA,sB,sC]
    generalize World.setRow w11 (w.heap.size+1+1) #[.int .i64 c0,.int .i64 c1,.string (bs cn),.int .i64 c3,.int .i64 c4]=w12 at S0 R9 T9 H9 B9 ⊢
    refine aB 4 6 _ rfl rfl S0 ?_
    try simp only [Act.put,sA,sB,sC]
    refine wpAnyH_done (by kernel_rfl) ?_ _
    clear S0
    have HA:=aA (show aI7 B y hs s nd w (.returned (.tuple #[sv ⟨y.qa,y.ql,y.qc,y.aa,y.al,y.ac,y.ma,y.ml,y.mc,some ⟨g9,0,none⟩,n9,cd⟩ ⟨s.qs,s.clock,s.epoch,s.next,dC s.serial,bK s.apps (i,k),s.ms,vU s.cs ⟨c0,c1,cn,c3,c4⟩⟩,conv ⟨c0,c1,cn,c3,c4⟩,.bool true])) w12 from (uH HG _ _).2 ⟨⟨y.qa,y.ql,y.qc,y.aa,y.al,y.ac,y.ma,y.ml,y.mc,some ⟨g9,0,none⟩,n9,cd⟩,hs5,rfl,uH H9,⟨g9,rfl⟩,uH B9,(fun e=>by cases e),(fun g e _ hg=>by have e2:some (⟨g9,0,none⟩:Addr)=some ⟨g,0,none⟩:=e;cases e2;omega)⟩)
    have z0:=(uH R9).at 0;have z1:=(uH R9).at 1;have z2:=(uH R9).at 2;have z3:=(uH R9).at 3;have z4:=(uH R9).at 4;have z5:=(uH R9).at 5;have z6:=(uH R9).at 6;have z7:=(uH R9).at 7
    simp at z0 z1 z2 z3 z4 z5 z6 z7
    have r0:=(uH T9).at 0;have r1:=(uH T9).at 1;have r2:=(uH T9).at 2;have r3:=(uH T9).at 3;have r4:=(uH T9).at 4
    simp at r0 r1 r2 r3 r4
    clear R9 T9 H9 B9 HG
    go_wp2
    refine bodyPost_ret (v:=.tuple #[sv ⟨y.qa,y.ql,y.qc,y.aa,y.al,y.ac,y.ma,y.ml,y.mc,some ⟨g9,0,none⟩,n9,cd⟩ ⟨s.qs,s.clock,s.epoch,s.next,dC s.serial,bK s.apps (i,k),s.ms,vU s.cs ⟨c0,c1,cn,c3,c4⟩⟩,conv ⟨c0,c1,cn,c3,c4⟩,.bool true]) (by simp [results,Tryz.results24,go_sem,z0,z1,z2,z3,z4,z5,z6,z7,r0,r1,r2,r3,r4]) rfl ?_
    exact uH HA
theorem aAO (x:Sls) (s:St) (hs0:List AV) (nd:List UInt8) (w:World) (h:iJ w x s) (hav:eF w x.aa x.al hs0) (hhd:iP w hs0 s.apps) (hss:aH2 x hs0) (hf:bS s) (hnd:nd.length≤1048576) :
  Calls Tryz.prog 6 #[sv x s,.string (bs nd)] w (aDa w (fV s nd) (mU (aW s nd)) (aW s nd).isSome):=by
 have hb1:=yA (yA (yA (Below.refl _ w) (.cells (svc x s) 34)) (.cells #[.slice none 0 0,.int .i64 0,.int .i64 0,.int .i64 0,.int .i64 0,.slice none 0 0,.slice none 0 0,.slice none 0 0] 34)) (.cells #[.int .i64 0,.int .i64 0,.string ⟨#[]⟩,.int .i64 0,.int .i64 0] 38)
 have P0:=aA (((yD w (svc x s) 34).al (.cells #[.slice none 0 0,.int .i64 0,.int .i64 0,.int .i64 0,.int .i64 0,.slice none 0 0,.slice none 0 0,.slice none 0 0] 34)).al (.cells #[.int .i64 0,.int .i64 0,.string ⟨#[]⟩,.int .i64 0,.int .i64 0] 38))
 have P1:=aA ((yD (w.alloc (.cells (svc x s) 34)) #[.slice none 0 0,.int .i64 0,.int .i64 0,.int .i64 0,.int .i64 0,.slice none 0 0,.slice none 0 0,.slice none 0 0] 34).al (.cells #[.int .i64 0,.int .i64 0,.string ⟨#[]⟩,.int .i64 0,.int .i64 0] 38))
 have P2:=aA (yD ((w.alloc (.cells (svc x s) 34)).alloc (.cells #[.slice none 0 0,.int .i64 0,.int .i64 0,.int .i64 0,.int .i64 0,.slice none 0 0,.slice none 0 0,.slice none 0 0] 34)) #[.int .i64 0,.int .i64 0,.string ⟨#[]⟩,.int .i64 0,.int .i64 0] 38)
 rw [yE] at P1
 rw [yE,yE] at P2
 have B1:=aA hb1
 have hz1:(((w.alloc (.cells (svc x s) 34)).alloc (.cells #[.slice none 0 0,.int .i64 0,.int .i64 0,.int .i64 0,.int .i64 0,.slice none 0 0,.slice none 0 0,.slice none 0 0] 34)).alloc (.cells #[.int .i64 0,.int .i64 0,.string ⟨#[]⟩,.int .i64 0,.int .i64 0] 38)).heap.size=w.heap.size+1+1+1:=by simp only [yE]
 obtain ⟨o,ho⟩:∃o,dN s=o:=⟨_,rfl⟩
 have CO:=aA (show Calls Tryz.prog 22 #[sv x s] (((w.alloc (.cells (svc x s) 34)).alloc (.cells #[.slice none 0 0,.int .i64 0,.int .i64 0,.int .i64 0,.int .i64 0,.slice none 0 0,.slice none 0 0,.slice none 0 0] 34)).alloc (.cells #[.int .i64 0,.int .i64 0,.string ⟨#[]⟩,.int .i64 0,.int .i64 0] 38)) (fun e w'=>e=.returned (.bool o)∧Below _ _ w') from by have:=uM x s _ (h.below hb1) hf;rw [ho] at this;exact this)
 have CC:=aA (fun wx (hb:Below w.heap.size w wx)=>sG x s hs0 wx (h.below hb) (hav.below hb) (hhd.below hb) hss hf)
 have HNO:=aA (fun e:dN s=false=>show aW s nd=none∧fV s nd=s from by
  have h1:aW s nd=none:=by rw [aW,if_neg (by simp [e])]
  exact ⟨h1,oH h1⟩)
 have CG:=aA (fun B y hs wx (hx:iU B wx y s hs) (hBw:B≤wx.heap.size) (hca:∃g,y.ca=some ⟨g,0,none⟩) (hok:dN s=true)=>show Calls Tryz.prog 24 #[sv y s,.string (bs nd)] wx (fun e w'=>∃y' hs',e=.returned (.tuple #[sv y' (fV s nd),conv (mU (aW s nd)),.bool (aW s nd).isSome])∧iU B w' y' (fV s nd) hs'∧(∃g,y'.ca=some ⟨g,0,none⟩)∧Below B wx w') from (aBj hx hBw hca nd hf hok hnd).mono (fun e w' ⟨y',hs',a1,a2,a3,a4,_⟩=>⟨y',hs',a1,a2,a3,a4.below⟩))
 rw [ho] at HNO
 have HO:=aA ho
 clear h hav hhd hss hf hnd hb1 ho
 have u0:=(uH P0).at 0;have u1:=(uH P0).at 1;have u2:=(uH P0).at 2;have u3:=(uH P0).at 3;have u4:=(uH P0).at 4;have u5:=(uH P0).at 5;have u6:=(uH P0).at 6;have u7:=(uH P0).at 7
 simp at u0 u1 u2 u3 u4 u5 u6 u7
 go_enter Tryz.func6,Tryz.ntmps6
 go_wp2_with fail
 refine (uH CO).mono ?_
 rintro e w2 ⟨rfl,hb⟩
 clear u0 u1 u2 u3 u4 u5 u6 u7
 have X2:=aA ((uH P0).below hb)
 have Q1:=aA ((uH P1).below hb)
 have Q2:=aA ((uH P2).below hb)
 have B2:=aA (yB (uH B1) hb)
 have hz2:w.heap.size+1+1+1≤w2.heap.size:=by have:=hb.size;rw [hz1] at this;exact this
 clear hb P0 P1 P2 B1 CO hz1
 cases o with
 | false=>
  obtain ⟨hn1,hn2⟩:=uH HNO rfl
  have HN1:=aA hn1
  have HN2:=aA hn2
  go_upto_region 2 with fail
  refine wp_region_lit ?_
  refine dK (v:=sv x s) (d:=some 10) rfl rfl (mF (jE (uH X2) rfl)) ?_
  simp only [Act.put,sA,sB,sC]
  refine wpList_plain rfl (fun K hK=>?_)
  go_simp
  refine (uH CC _ (uH B2)).mono ?_
  rintro e w3 ⟨y,hs,rfl,ha,hb,-⟩
  refine hK _ _ ?_
  clear hK K
  have H3:=aA (ha.has (Nat.le_refl _))
  have Q3:=aA ((uH Q1).below hb)
  have Q4:=aA ((uH Q2).below hb)
  have B3:=aA (yB (uH B2) hb)
  clear ha hb X2 Q1 Q2 B2 CC CG HNO hn1 hn2
  try simp only [Act.put,sA,sB,sC]
  refine dK (v:=.agg #[.int .i64 0,.int .i64 0,.string ⟨#[]⟩,.int .i64 0,.int .i64 0]) (d:=some 12) rfl rfl (by refine mF ?_;simp only [List.map_toArray,List.map_nil];kernel_rfl) ?_
  simp only [Act.put,sA,sB,sC]
  refine fK (d:=none) rfl rfl (tJ (eX 34 (arr:=svc y s) (uH Q3) (by kernel_rfl) rfl (by kernel_rfl))) ?_
  simp only [Act.put]
  have M5:=jK (uH Q3) (svc y s) rfl
  have R5:=aA (iO (uH Q3) (svc y s))
  have Q5:=aA (M5.blk (uH Q4) (by omega))
  have H5:=aA ((uH H3).low M5 (by omega))
  have B5:=aA ((uH B3).trans (M5.below (fun k e=>by subst e;omega) (uH B3).size))
  clear M5 Q3 Q4 H3 B3
  generalize World.setRow w3 (w.heap.size+1) (svc y s)=w5 at R5 Q5 H5 B5 ⊢
  refine fK (d:=none) rfl rfl (tJ (eX 38 (arr:=#[.int .i64 0,.int .i64 0,.string ⟨#[]⟩,.int .i64 0,.int .i64 0]) (uH Q5) (by kernel_rfl) rfl (by kernel_rfl))) ?_
  simp only [Act.put]
  have M6:=jK (uH Q5) #[.int .i64 0,.int .i64 0,.string ⟨#[]⟩,.int .i64 0,.int .i64 0] rfl
  have R6:=aA (M6.blk (uH R5) (by omega))
  have T6:=aA (iO (uH Q5) #[.int .i64 0,.int .i64 0,.string ⟨#[]⟩,.int .i64 0,.int .i64 0])
  have H6:=aA ((uH H5).low M6 (by omega))
  have B6:=aA ((uH B5).trans (M6.below (fun k e=>by subst e;omega) (uH B5).size))
  clear M6 R5 Q5 H5 B5
  generalize World.setRow w5 (w.heap.size+1+1) #[.int .i64 0,.int .i64 0,.string ⟨#[]⟩,.int .i64 0,.int .i64 0]=w6 at R6 T6 H6 B6 ⊢
  have HA:=aA (show aDa w s ⟨0,0,[],0,0⟩ false (.returned (.tuple #[sv y s,conv ⟨0,0,[],0,0⟩,.bool false])) w6 from ⟨y,hs,rfl,((uH H6).base (by omega)).ans,uH B6⟩)
  have z0:=(uH R6).at 0;have z1:=(uH R6).at 1;have z2:=(uH R6).at 2;have z3:=(uH R6).at 3;have z4:=(uH R6).at 4;have z5:=(uH R6).at 5;have z6:=(uH R6).at 6;have z7:=(uH R6).at 7
  simp at z0 z1 z2 z3 z4 z5 z6 z7
  have r0:=(uH T6).at 0;have r1:=(uH T6).at 1;have r2:=(uH T6).at 2;have r3:=(uH T6).at 3;have r4:=(uH T6).at 4
  simp at r0 r1 r2 r3 r4
  clear R6 T6 H6 B6
  go_wp2
  refine bodyPost_ret (v:=.tuple #[sv y s,conv ⟨0,0,[],0,0⟩,.bool false]) (by simp [results,Tryz.results6,go_sem,z0,z1,z2,z3,z4,z5,z6,z7,r0,r1,r2,r3,r4];try rfl) rfl ?_
  rw [uH HN2,uH HN1]
  exact uH HA
 | true=>
  have CG2:=aA (fun B y hs wx (hx:iU B wx y s hs) (hBw:B≤wx.heap.size) (hca:∃g,y.ca=some ⟨g,0,none⟩)=>uH CG B y hs wx hx hBw hca (uH HO))
  obtain ⟨S2,hS2⟩:∃t,fV s nd=t:=⟨_,rfl⟩
  obtain ⟨⟨c0,c1,cn,c3,c4⟩,hc⟩:∃t,mU (aW s nd)=t:=⟨_,rfl⟩
  obtain ⟨ok,hok⟩:∃t,(aW s nd).isSome=t:=⟨_,rfl⟩
  rw [hS2,hc,hok] at CG2
  have HS2:=aA hS2
  have HCC:=aA hc
  have HOK:=aA hok
  clear CG HNO HO hS2 hc hok
  go_upto_region 3 with fail
  refine wp_region_lit ?_
  refine dK (v:=sv x s) (d:=some 13) rfl rfl (mF (jE (uH X2) rfl)) ?_
  simp only [Act.put,sA,sB,sC]
  refine wpList_plain rfl (fun K hK=>?_)
  go_simp
  refine (uH CC _ (uH B2)).mono ?_
  rintro e w3 ⟨y,hs,rfl,ha,hb,hca⟩
  refine hK _ _ ?_
  clear hK K
  try simp only [Act.put,sA,sB,sC]
  have H3:=aA (ha.has (Nat.le_refl _))
  have Q3:=aA ((uH Q1).below hb)
  have Q4:=aA ((uH Q2).below hb)
  have B3:=aA (yB (uH B2) hb)
  have hz3:=hb.size
  clear ha hb X2 Q1 Q2 B2 CC
  refine dK (v:=.string (bs nd)) (d:=some 15) rfl rfl rfl ?_
  simp only [Act.put,sA,sB,sC]
  refine wpList_plain rfl (fun K hK=>?_)
  go_simp
  refine (uH CG2 _ y hs _ (uH H3) hz3 hca).mono ?_
  rintro e w4 ⟨y2,hs2,rfl,hsh,-,hbl⟩
  refine hK _ _ ?_
  clear hK K
  try simp only [Act.put,sA,sB,sC]
  have H4:=aA hsh
  have Q5:=aA (show Blk w4 (w.heap.size+1) _ 34 from (hbl.block (w.heap.size+1) (by omega)).trans (uH Q3))
  have Q6:=aA (show Blk w4 (w.heap.size+1+1) _ 38 from (hbl.block (w.heap.size+1+1) (by omega)).trans (uH Q4))
  have B4:=aA ((uH B3).trans (hbl.mono (by omega)))
  clear hsh hbl H3 Q3 Q4 B3 CG2
  have H3:=H4
  have Q3:=Q5
  have Q4:=Q6
  have B3:=B4
  clear H4 Q5 Q6 B4
  refine dK (v:=sv y2 S2) (d:=some 17) rfl rfl rfl ?_
  simp only [Act.put,sA,sB,sC]
  refine dK (v:=conv ⟨c0,c1,cn,c3,c4⟩) (d:=some 18) rfl rfl rfl ?_
  simp only [Act.put,sA,sB,sC]
  refine dK (v:=.bool ok) (d:=some 19) rfl rfl rfl ?_
  simp only [Act.put,sA,sB,sC]
  refine fK (d:=none) rfl rfl (tJ (eX 34 (arr:=svc y2 S2) (uH Q3) (by kernel_rfl) rfl (by kernel_rfl))) ?_
  simp only [Act.put]
  have M5:=jK (uH Q3) (svc y2 S2) rfl
  have R5:=aA (iO (uH Q3) (svc y2 S2))
  have Q5:=aA (M5.blk (uH Q4) (by omega))
  have H5:=aA ((uH H3).low M5 (by omega))
  have B5:=aA ((uH B3).trans (M5.below (fun k e=>by subst e;omega) (uH B3).size))
  clear M5 Q3 Q4 H3 B3
  generalize World.setRow w4 (w.heap.size+1) (svc y2 S2)=w5 at R5 Q5 H5 B5 ⊢
  refine fK (d:=none) rfl rfl (tJ (eX 38 (arr:=#[.int .i64 c0,.int .i64 c1,.string (bs cn),.int .i64 c3,.int .i64 c4]) (uH Q5) (by kernel_rfl) rfl (by kernel_rfl))) ?_
  simp only [Act.put]
  have M6:=jK (uH Q5) #[.int .i64 c0,.int .i64 c1,.string (bs cn),.int .i64 c3,.int .i64 c4] rfl
  have R6:=aA (M6.blk (uH R5) (by omega))
  have T6:=aA (iO (uH Q5) #[.int .i64 c0,.int .i64 c1,.string (bs cn),.int .i64 c3,.int .i64 c4])
  have H6:=aA ((uH H5).low M6 (by omega))
  have B6:=aA ((uH B5).trans (M6.below (fun k e=>by subst e;omega) (uH B5).size))
  clear M6 R5 Q5 H5 B5
  generalize World.setRow w5 (w.heap.size+1+1) #[.int .i64 c0,.int .i64 c1,.string (bs cn),.int .i64 c3,.int .i64 c4]=w6 at R6 T6 H6 B6 ⊢
  have HA:=aA (show aDa w S2 ⟨c0,c1,cn,c3,c4⟩ ok (.returned (.tuple #[sv y2 S2,conv ⟨c0,c1,cn,c3,c4⟩,.bool ok])) w6 from ⟨y2,hs2,rfl,((uH H6).base (by omega)).ans,uH B6⟩)
  have z0:=(uH R6).at 0;have z1:=(uH R6).at 1;have z2:=(uH R6).at 2;have z3:=(uH R6).at 3;have z4:=(uH R6).at 4;have z5:=(uH R6).at 5;have z6:=(uH R6).at 6;have z7:=(uH R6).at 7
  simp at z0 z1 z2 z3 z4 z5 z6 z7
  have r0:=(uH T6).at 0;have r1:=(uH T6).at 1;have r2:=(uH T6).at 2;have r3:=(uH T6).at 3;have r4:=(uH T6).at 4
  simp at r0 r1 r2 r3 r4
  clear R6 T6 H6 B6
  go_wp2
  refine bodyPost_ret (v:=.tuple #[sv y2 S2,conv ⟨c0,c1,cn,c3,c4⟩,.bool ok]) (by simp [results,Tryz.results6,go_sem,z0,z1,z2,z3,z4,z5,z6,z7,r0,r1,r2,r3,r4];try rfl) rfl ?_
  rw [uH HS2,uH HCC,uH HOK]
  exact uH HA
theorem aDa.lay {w w':World} {s:St} {c0 c1 c3 c4:Int} {cn:List UInt8} {ok:Bool} {e:Ending} (h:aDa w s ⟨c0,c1,cn,c3,c4⟩ ok e w'):∃y hs,e=.returned (.tuple #[sv y s,conv ⟨c0,c1,cn,c3,c4⟩,.bool ok])∧aAB w.heap.size w'.heap.size ((w'.alloc (.cells (svc y s) 34)).alloc (.cells #[.int .i64 c0,.int .i64 c1,.string (bs cn),.int .i64 c3,.int .i64 c4] 38)) w'.heap.size y s hs none 0 []∧Blk ((w'.alloc (.cells (svc y s) 34)).alloc (.cells #[.int .i64 c0,.int .i64 c1,.string (bs cn),.int .i64 c3,.int .i64 c4] 38)) (w'.heap.size+1) #[.int .i64 c0,.int .i64 c1,.string (bs cn),.int .i64 c3,.int .i64 c4] 38∧Below w.heap.size w w':=by
 obtain ⟨y,hs,rfl,h1,h2⟩:=h
 have hb:=yA (Below.refl _ w') (.cells (svc y s) 34)
 have h0:aAB w.heap.size w'.heap.size (w'.alloc (.cells (svc y s) 34)) w'.heap.size y s hs none 0 []:=⟨yD _ _ _,h1.below hb,⟨rfl,.inl rfl⟩,.inl rfl,fun k hk=>absurd rfl hk.1,Nat.le_refl _⟩
 refine ⟨y,hs,rfl,h0.al _,?_,h2⟩
 have:=yD (w'.alloc (.cells (svc y s) 34)) #[.int .i64 c0,.int .i64 c1,.string (bs cn),.int .i64 c3,.int .i64 c4] 38
 rwa [yE] at this
theorem aJc.done {B E:Nat} {w:World} {g:Nat} {y:Sls} {s:St} {hs:List AV} (h:aJc B E w g y s hs none 0):aH7 w g y s hs none 0:=⟨h.box,h.m,⟨rfl,.inl rfl⟩⟩
theorem Blk.offd {B' E':Nat} {w w':World} {g:Nat} {arr:Array Value} {t:TypeId} (h:Blk w g arr t) (hm:Mkd B' E' w w') (h1:g<B'∨E'≤g):Blk w' g arr t:=(hm.block g h.lt h1).trans h
end
end Go.Proofs.YtdhibeclkdepiaaGreat
