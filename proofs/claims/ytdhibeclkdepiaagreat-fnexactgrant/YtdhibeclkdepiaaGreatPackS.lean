/-
  bI in one: UsedI, UsedOnI, MarkP, ARow.
-/
import Derived.Test.YtdhibeclkdepiaaGreatPackP
set_option maxRecDepth 100000
set_option maxHeartbeats 16000000
set_option linter.unusedVariables false
set_option linter.unusedSimpArgs false
namespace Go.Proofs.YtdhibeclkdepiaaGreat
section
open Go.RowKit
abbrev aCJ (m:Con):Obj:=.cells #[.int .i64 m.id,.int .i64 m.app,.string (bs m.node),.int .i64 m.mem,.int .i64 m.cpu] 38
theorem tZ {p:Con→Bool} (l:List Con):(aT p l).length≤l.length:=by simp [aT];exact List.length_filter_le _ _
theorem aHd (g:Nat) (lb:Array Value) (eg:∀args w,(callFunc g args).run Tryz.prog w=.ok (.enter g args) w) (p:Con→Bool) (x:Sls) (s:St) (w:World) (h:aY w x.ca x.cl s.cs) (hl:x.cl≤1048576)
  (hp:∀wx q,Below w.heap.size w wx→Calls Tryz.prog g (#[conv q]++lb) wx fun e w'=>e=.returned (.bool (p q))∧Below wx.heap.size wx w') :
  Calls Tryz.prog 187 #[sv x s,.func (.func g) #[] lb] w fun e w'=>e=.returned (rv (gN (aT p s.cs)).1 (gN (aT p s.cs)).2.1)∧Below w.heap.size w w':=by
 obtain ⟨i0,hi,hz0,hz1,hz2⟩:=info_parts Tryz.infoR
 obtain ⟨qa,ql,qc,aa,al,ac,ma,ml,mc,ca,cl,cc⟩:=x
 obtain ⟨qs,clock,epoch,next,serial,apps,ms,cs⟩:=s
 simp only at h hl ⊢
 have HR:=aA h
 have HL:=aA h.1
 have HP:=aA hp
 obtain ⟨c,hc⟩:∃c:Array Value,#[.slice qa ql qc,.int .i64 clock,.int .i64 epoch,.int .i64 next,.int .i64 serial,.slice aa al ac,.slice ma ml mc,.slice ca cl cc]=c:=⟨_,rfl⟩
 have HC:=aA hc
 have HB0:=aA (bV w c)
 have V0:=aA (gL w c)
 have HW:=aA (qE w c)
 clear h hc hp
 obtain ⟨⟨sx,sy,so⟩,hs⟩:∃s,gN (aT p cs)=s:=⟨_,rfl⟩
 have HS:=aA hs
 rw [hs]
 clear hs
 go_enter Tryz.func187,Tryz.ntmps187
 go_wp2
 go_loopw [5,13] (fun v i wr=>∃(k:Nat),k≤cl∧i=.int .i64 k∧Hid (wU (rC w c).heap.size wr v (aT p (cs.take k)))∧Hid (Below (rC w c).heap.size (rC w c) wr)) (fun _ i _=>cl - (intOf i).toNat)
 case atStart=>
  obtain rfl:=uH HC
  exact ⟨0,Nat.zero_le _,rfl,aA (by simpa [aT] using aAR _ _),aA (Below.refl _ _)⟩
 case round=>
  obtain ⟨k,hk,rfl,HO,HB⟩:=hrel
  by_cases hlt:k<cl
  ·obtain ⟨b,off,rfl,hq⟩:=(((uH HR).below (uH HB0)).below (uH HB)).at hlt
   have hkl:k<cs.length:=by have:=uH HL;omega
   have hst:=mZ (p:=p) hkl
   obtain ⟨c0,c1,c2,c3,c4⟩:=hq hkl
   obtain ⟨m,hs⟩:∃q,cs[k]=q:=⟨_,rfl⟩
   rw [hs] at c0 c1 c2 c3 c4 hst
   have hal:(aT p (cs.take k)).length≤1048576:=by have:=tZ (p:=p) (cs.take k);simp at this;omega
   obtain ⟨acc,hacc⟩:∃a,aT p (cs.take k)=a:=⟨_,rfl⟩
   rw [hacc] at hst hal HO
   obtain ⟨id,ap,nd,me,cp⟩:=m
   simp only at c0 c1 c2 c3 c4 hst
   have HBA:=aA (yA (Below.refl _ wr) (aCJ ⟨id,ap,nd,me,cp⟩))
   have HCL:=aA (uH HP (wr.alloc (aCJ ⟨id,ap,nd,me,cp⟩)) ⟨id,ap,nd,me,cp⟩ (yB (yB (uH HB0) (uH HB)) (uH HBA)))
   have KB:=aA (yD wr #[.int .i64 id,.int .i64 ap,.string (bs nd),.int .i64 me,.int .i64 cp] 38)
   clear hq hs hkl hacc
   cases hpq:p ⟨id,ap,nd,me,cp⟩ with
   | true=>
    rw [hpq] at HCL
    rw [hpq,if_pos rfl] at hst
    have HST:=aA hst
    clear hpq hst
    go_wp2_with (first
     | (go_at_fn g;refine (uH HCL).mono ?_;rintro e w1 ⟨rfl,hb⟩;have HB1:=aA (yB (yB (uH HB) (uH HBA)) hb);have HO1:=aA (((uH HO).below (uH HBA)).below hb);have b1:=(uH KB).below hb;have q3:=b1.at 3;have q4:=b1.at 4;simp at q3 q4;have hs2:(rC w c).heap.size≤w1.heap.size:=(uH HB1).size;have hown:w1.ownsRow (rC w c).heap.size 36 2 _ acc.length (gH acc):=uH HO1;clear b1 hb HCL c0 c1 c2 c3 c4 HO HB)
     | (at_builtin;refine wpList_append_own _ rfl _ _ 141 rfl (rC w c).heap.size 36 i0 (.agg #[.int .i64 0,.int .i64 0]) 2 16 Tryz.underlying141 hi hz0 hz1 hz2 rfl (by decide) _ _ _ rfl (hown.alloc _) ⟨w1.heap.size,0,none⟩ 1 1 (xB (me,cp)) rfl rfl ?c1 ?c2 ?c3 ?c4 ?c5 ?_))
    case c1=>
     intro j x hj
     match j,hj with
     | 0,hj=>simp at hj;subst hj;simp [Addr.add]
     | 1,hj=>simp at hj;subst hj;simp [Addr.add]
     | _+2,hj=>simp at hj
    case c2=>intro x hx;simp at hx;rcases hx with rfl | rfl<;>rfl
    case c3=>unfold maxLen;omega
    case c4=>omega
    case c5=>simp at hs2 ⊢;omega
    intro v' w3 hown' hgrow _
    have R:=kR (q:=(me,cp)) (uH HB1) (uH HO1) hown' hgrow hs2
    have HR3:=aA R
    clear hown' hgrow hown R q3 q4
    go_wp2
    go_roundw
    case rel=>exact ⟨k+1,by omega,by go_num,aA (by rw [uH HST];exact (uH HR3).1),aA (uH HR3).2⟩
    case measure=>simp [intOf];omega
   | false=>
    rw [hpq] at HCL
    rw [hpq,if_neg (by simp)] at hst
    have HST:=aA hst
    clear hpq hst
    go_wp2_with (go_at_fn g;refine (uH HCL).mono ?_;rintro e w1 ⟨rfl,hb⟩;have HB1:=aA (yB (yB (uH HB) (uH HBA)) hb);have HO1:=aA (((uH HO).below (uH HBA)).below hb);clear hb HCL c0 c1 c2 c3 c4 HO HB)
    go_roundw
    case rel=>exact ⟨k+1,by omega,by go_num,aA (by rw [uH HST];exact uH HO1),HB1⟩
    case measure=>simp [intOf];omega
  ·have htk:cs.take k=cs:=List.take_of_length_le (by have:=uH HL;omega)
   rw [htk] at HO
   obtain ⟨ao,cp,rfl,hrow,hcp⟩:=(uH HO).row
   have hlc:(aT p cs).length≤1048576:=by have:=tZ (p:=p) cs;have:=uH HL;omega
   have CT:=aA (mH ao _ cp (aT p cs) wr hrow hlc)
   rw [uH HS] at CT
   obtain ⟨n,hn⟩:∃n,(aT p cs).length=n:=⟨_,rfl⟩
   rw [hn] at CT ⊢
   clear hrow hn htk hcp hlc HO
   go_wp2_with fail
   refine (uH CT).mono ?_
   rintro e w1 ⟨rfl,hb⟩
   have hsz:w.heap.size+1<(rC w c).heap.size:=by have:=uH HW;omega
   have V1:Var w1 36 (w.heap.size+1) 0 0:=Var.below ((uH HB).block _ hsz |>.trans (uH V0)) hb
   have HB1:=aA (yB (yB (uH HB0) (uH HB)) hb)
   have V2:=V1.al (.cells #[.int .i64 sx,.int .i64 sy] 36)
   have t0:=V2.c0
   have t1:=V2.c1
   have f0:=V2.f 0
   have f1:=V2.f 1
   have VG:=V2.set sx sy
   have k6:=VG.c0
   have k7:=VG.c1
   clear hb V1 V2 VG CT HB HB0
   go_wp2
   refine bodyPost_ret (v:=rv sx sy) (by simp [results,Tryz.results187,go_sem,k6,k7]) rfl ⟨rfl,?_⟩
   repeat (first | exact uH HB1 | refine yA ?_ _ | refine yC ?_ _ _ _ (by omega))
theorem aHt (B:Nat) (nm:List UInt8) (q:Con) (w:World) (hc:w.cell? ⟨B,0,none⟩=some (.string (bs nm))) :
  Calls Tryz.prog 188 #[conv q,.pointer (some ⟨B,0,none⟩)] w fun e w'=>e=.returned (.bool (decide (q.node=nm)))∧Below w.heap.size w w':=by
 have hlt:=yG hc
 have hc2:(w.alloc (aCJ q)).cell? ⟨B,0,none⟩=some (.string (bs nm)):=by rw [World.cell?_alloc_lt _ _ ⟨B,0,none⟩ hlt];exact hc
 have hbe:=mV q.node nm
 clear hc hlt
 go_enter Tryz.func188,Tryz.ntmps188
 go_wp2
 go_ret
 exact ⟨rfl,yA (Below.refl _ _) _⟩
def aGY (nm:List UInt8) (q:Con):Bool:=decide (q.node=nm)
def gD (s:St) (nm:List UInt8):Int×Int:=((gN (aT (aGY nm) s.cs)).1,(gN (aT (aGY nm) s.cs)).2.1)
def onW (w:World) (c:Array Value) (nm:List UInt8):World:=((w.alloc (.cells c 34)).alloc (.cells #[.string (bs nm)] 9)).alloc (.cells #[.int .i64 0,.int .i64 0] 36)
theorem aBV (w:World) (c:Array Value) (nm:List UInt8):Below w.heap.size w (onW w c nm):=yA (yA (yA (Below.refl _ w) _) _) _
theorem aDr (w:World) (c:Array Value) (nm:List UInt8):(onW w c nm).cell? ⟨w.heap.size+1,0,none⟩=some (.string (bs nm)):=by
 have:=((yD (w.alloc (.cells c 34)) #[.string (bs nm)] 9).al (.cells #[.int .i64 0,.int .i64 0] 36)).at 0
 rw [yE] at this
 exact this
theorem aJA (w:World) (c:Array Value) (nm:List UInt8):Var (onW w c nm) 36 (w.heap.size+1+1) 0 0:=by
 have:=aJ ((w.alloc (.cells c 34)).alloc (.cells #[.string (bs nm)] 9)) 36 0 0
 rwa [yE,yE] at this
theorem xO (x:Sls) (s:St) (nm:List UInt8) (w:World) (h:aY w x.ca x.cl s.cs) (hl:x.cl≤1048576) :
  Calls Tryz.prog 166 #[sv x s,.string (bs nm)] w fun e w'=>e=.returned (rv (gD s nm).1 (gD s nm).2)∧Below w.heap.size w w':=by
 have hmf:∀(fn:Fn) (first cap:Array Value) (w:World),(Instr.makeFunc fn first cap).run Tryz.prog w=.ok (.func fn first cap) w:=fun _ _ _ _=>rfl
 obtain ⟨⟨sx,sy⟩,hs⟩:∃s',gD s nm=s':=⟨_,rfl⟩
 have h1:=congrArg Prod.fst hs
 have h2:=congrArg Prod.snd hs
 simp only [gD] at h1 h2
 have CU:=aA (by
  have:=aHd 188 #[.pointer (some ⟨w.heap.size+1,0,none⟩)] (enters_of Tryz.func188 (by kernel_rfl) rfl) (aGY nm) x s (onW w (svc x s) nm) (h.below (aBV w _ nm)) hl
   (fun wy q hy=>aHt (w.heap.size+1) nm q wy ((hy.cell (p:=⟨w.heap.size+1,0,none⟩) (yG (aDr w _ nm))).trans (aDr w _ nm)))
  rw [h1,h2] at this
  exact this)
 rw [hs]
 clear hs h1 h2 h
 obtain ⟨qa,ql,qc,aa,al,ac,ma,ml,mc,ca,cl,cc⟩:=x
 obtain ⟨qs,clock,epoch,next,serial,apps,ms,cs⟩:=s
 go_enter Tryz.func166,Tryz.ntmps166
 go_wp2_with fail
 refine (uH CU).mono ?_
 rintro e w1 ⟨rfl,hb⟩
 have V1:=(aJA w _ nm).below hb
 have HB1:=aA (yB (aBV w _ nm) hb)
 have t0:=V1.c0
 have t1:=V1.c1
 have f0:=V1.f 0
 have f1:=V1.f 1
 have VG:=V1.set sx sy
 have k6:=VG.c0
 have k7:=VG.c1
 clear hb V1 VG CU
 go_wp2
 refine bodyPost_ret (v:=rv sx sy) (by simp [results,Tryz.results166,go_sem,k6,k7]) rfl ⟨rfl,?_⟩
 repeat (first | exact uH HB1 | refine yA ?_ _ | refine yC ?_ _ _ _ (by omega))
def gX:Nat→List AV→Nat
 | K,[]=>K
 | K,v::t=>gX (K+2+5*v.len) t
def hsM:Nat→List AV→List AV
 | _,[]=>[]
 | K,v::t=>⟨(K:Int),109::dgs (K+1),v.ao,v.len,v.cap⟩::hsM (K+2+5*v.len) t
def l9 (w:World):Nat→List AV→Prop
 | _,[]=>True
 | K,v::t=>aO w v.ao v.len (jM (K+2) v.len)∧l9 w (K+2+5*v.len) t
theorem jP:∀(l:List AV) (K:Nat),(hsM K l).length=l.length
 | [],_=>rfl
 | v::t,K=>by simp [hsM,jP t]
theorem l9.below {w w':World} (hb:Below w.heap.size w w'):∀(l:List AV) (K:Nat),l9 w K l→l9 w' K l
 | [],_,_=>trivial
 | v::t,K,h=>⟨h.1.below hb,l9.below hb t _ h.2⟩
theorem q9:∀(l:List AV) (K:Nat),K≤gX K l
 | [],K=>Nat.le_refl _
 | v::t,K=>by have:=q9 t (K+2+5*v.len);rw [gX];omega
theorem wD:∀(l:List AV) (K j:Nat) (h:j<l.length),gX K (l.take (j+1))=gX K (l.take j)+2+5*l[j].len
 | v::t,K,0,_=>by simp [gX]
 | v::t,K,j+1,h=>by
  have:=wD t (K+2+5*v.len) j (by simpa using h)
  simp only [List.take_succ_cons,gX,List.getElem_cons_succ]
  exact this
theorem aET {w:World}:∀(l:List AV) (K j:Nat) (h:j<l.length),l9 w K l→aO w l[j].ao l[j].len (jM (gX K (l.take j)+2) l[j].len)
 | v::t,K,0,_,h=>by simpa [gX] using h.1
 | v::t,K,j+1,hj,h=>by
  have:=aET t (K+2+5*v.len) j (by simpa using hj) h.2
  simpa [gX] using this
theorem aIg:∀(l:List AV) (K j:Nat) (h:j<l.length) (h':j<(hsM K l).length),(hsM K l)[j]=⟨(gX K (l.take j):Int),109::dgs (gX K (l.take j)+1),l[j].ao,l[j].len,l[j].cap⟩
 | v::t,K,0,_,_=>by simp [hsM,gX]
 | v::t,K,j+1,h,h'=>by
  have:=aIg t (K+2+5*v.len) j (by simpa using h) (by simpa [hsM] using h')
  simp only [hsM,List.getElem_cons_succ,List.take_succ_cons,gX]
  exact this
def rJ (w0:World) (b p:Nat) (q:AV) (w:World):Prop:=aFh w b p q∧Below w0.heap.size w0 w
theorem rJ.call {w0 w w':World} {b p:Nat} {q:AV} (h:rJ w0 b p q w) (hb:Below w.heap.size w w'):rJ w0 b p q w':=⟨h.1.below hb,yB h.2 hb⟩
theorem rJ.drew {w0 w:World} {b p:Nat} {q:AV} (h:rJ w0 b p q w):rJ w0 b p q w.drew:=h.call (Below.refl _ _).drew
theorem rJ.read (w0:World) (b p:Nat) (q:AV):∀wx,rJ w0 b p q wx→wx.cell? ⟨b,p,none⟩=some (.int .i64 q.id)∧wx.cell? ⟨b,p+1,none⟩=some (.string (bs q.queue))∧wx.cell? ⟨b,p+2,none⟩=some (.slice q.ao q.len q.cap):=fun wx h=>h.1
theorem aBy (ao:Option Addr) (n c K:Nat) (hs:List AV) (w:World) (h:eF w ao n (hsM K hs)) (ha:l9 w K hs) (hn:n≤1048576) (hk:∀v ∈ hs,v.len≤1048576) (h0:0<K) (h1:gX K hs≤100000000000000) :
  Calls Tryz.prog 39 #[.slice ao n c,.int .i64 (K:Int)] w fun e w'=>e=.returned (.int .i64 (gX K hs:Int))∧Below w.heap.size w w':=by
 have HR:=aA h
 have HA:=aA ha
 have HLN:=aA (show n=hs.length by rw [h.1,jP])
 have HV:=aA hk
 have HE:=aA (show ∀j,gX K (hs.take j)≤gX K hs from fun j=>by
  have:∀(l:List AV) (K j:Nat),gX K (l.take j)≤gX K l:=by
   intro l
   induction l with
   | nil=>intro K j;simp [gX]
   | cons v t ih=>
    intro K j
    cases j with
    | zero=>simp only [List.take_zero,gX];have:=q9 t (K+2+5*v.len);omega
    | succ j=>simp only [List.take_succ_cons,gX];exact ih _ _
  exact this hs K j)
 have HG:=aA (fun j=>q9 (hs.take j) K)
 clear h ha hk
 go_enter Tryz.func39,Tryz.ntmps39
 go_wp2
 go_loopw [1,5] (fun s i wr=>∃(j:Nat) (k:Nat),j≤n∧i=.int .i64 j∧s=.int .i64 (k:Int)∧Hid (k=gX K (hs.take j))∧Hid (Below w.heap.size w wr)) (fun _ i _=>n - (intOf i).toNat)
 case atStart=>exact ⟨0,K,Nat.zero_le _,rfl,rfl,aA (by simp [gX]),aA (Below.refl _ _)⟩
 case round=>
  obtain ⟨j,k,hj,rfl,rfl,HK,HB⟩:=hrel
  by_cases hlt:j<n
  ·have hjl:j<hs.length:=by have:=uH HLN;omega
   obtain ⟨b,off,rfl,hq⟩:=((uH HR).below (uH HB)).at hlt
   have hqq:=hq (by rw [jP];exact hjl)
   rw [aIg hs K j hjl] at hqq
   have hrow:=(aET hs K j hjl (uH HA)).below (uH HB)
   have hvl:=uH HV _ (List.getElem_mem hjl)
   have hst:=wD hs K j hjl
   have hle:=uH HE (j+1)
   have hgk:=uH HG j
   rw [←uH HK] at hqq hrow hst hgk
   obtain ⟨⟨vi,vq,va,vl,vc⟩,hv⟩:∃v,hs[j]=v:=⟨_,rfl⟩
   rw [hv] at hqq hrow hst hvl
   simp only at hqq hrow hst hvl
   rw [hst] at hle
   have HN:=aA (show (k+2+5*vl:Nat)=gX K (hs.take (j+1)) from hst.symm)
   have C0:=aA (show ∀wx,Calls Tryz.prog 47 #[.int .i64 ((k:Int)+1)] wx fun e w'=>e=.returned (.string (bs (109::dgs (k+1))))∧Below wx.heap.size wx w' from fun wx=>by
    have:=aU ((k:Int)+1) wx (by omega) (by omega)
    rw [show ((k:Int)+1).toNat=k+1 by omega] at this
    exact this)
   have C1:=aA (fun wx (hb:Below wr.heap.size wr wx)=>by have:=aBx va vl vc (k+2) wx (hrow.below hb) hvl (by omega) (by omega);rw [show ((k+2:Nat):Int)=(k:Int)+1+1 by omega] at this;exact this)
   have A0:=aA (show rJ wr b (off+j*3) ⟨(k:Int),109::dgs (k+1),va,vl,vc⟩ wr from ⟨hqq,Below.refl _ _⟩)
   have R:=rJ.read wr b (off+j*3) ⟨(k:Int),109::dgs (k+1),va,vl,vc⟩
   simp only at R
   have R':=aA R
   obtain ⟨r0,_,_⟩:=R _ (uH A0)
   have j0:(0:Int)≤j:=by omega
   have j1:(j:Int)<n:=by omega
   have hk0:0<k:=by omega
   have hk1:k≤100000000000000:=by omega
   have hw1:IntKind.i64.wrap ((k:Int)+1)=(k:Int)+1:=by rw [IntKind.wrap_i64];omega
   clear hq hqq hrow hst hv hle hgk R hjl
   go_wp2_with fail
   have R:=uH R'
   clear r0
   go_region_held3 (fun wx=>rJ wr b (off+j*3) ⟨(k:Int),109::dgs (k+1),va,vl,vc⟩ wx)
    (first | (with_reducible assumption) | exact (uH A0).drew | exact rJ.call (by assumption) (by assumption))
    (first
    | (go_at_call 47;refine (uH C0 _).mono ?_;rintro e wt ⟨rfl,hb⟩;have SA:=rJ.call (w0:=wr) (b:=b) (p:=off+j*3) (q:=⟨(k:Int),109::dgs (k+1),va,vl,vc⟩) (by assumption) hb))
   obtain ⟨_,_,r2⟩:=R _ SA
   have HS2:=aA SA.2
   clear SA A0 R C0 R'
   go_wp2_with fail
   refine (uH C1 _ (uH HS2)).mono ?_
   rintro e w3 ⟨rfl,hb⟩
   have HB3:=aA (yB (yB (uH HB) (uH HS2)) hb)
   clear hb HS2 C1 r2
   have hkn:¬((k:Int)+1+1+5*(vl:Int))<0:=by omega
   go_wp2
   go_roundw
   case rel=>exact ⟨j+1,k+2+5*vl,by omega,by go_num,by refine congrArg _ ?_;omega,HN,HB3⟩
   case measure=>simp [intOf];omega
  ·have hjn:j=n:=by omega
   have hke:k=gX K hs:=by rw [uH HK,List.take_of_length_le (by have:=uH HLN;omega)]
   have j1:¬(j:Int)<n:=by omega
   go_wp2
   go_ret
   exact ⟨rfl,uH HB⟩
abbrev aI5 (q:Ask):List Value:=[.int .i64 q.mem,.int .i64 q.cpu,.int .i64 q.count,.string (bs q.node),.int .i64 q.missed]
def aN:List Ask→List Value
 | []=>[]
 | q::t=>aI5 q++aN t
theorem aV:∀l:List Ask,(aN l).length=l.length*5
 | []=>rfl
 | q::t=>by rw [aN,List.length_append,aV t];simp;omega
theorem kY:∀(l:List Ask) (i:Nat) (h:i<l.length),(aN l)[i*5]? = some (.int .i64 l[i].mem)∧(aN l)[i*5+1]? = some (.int .i64 l[i].cpu)∧(aN l)[i*5+2]? = some (.int .i64 l[i].count)∧(aN l)[i*5+3]? = some (.string (bs l[i].node))∧(aN l)[i*5+4]? = some (.int .i64 l[i].missed)
 | q::t,0,_=>⟨rfl,rfl,rfl,rfl,rfl⟩
 | q::t,i+1,h=>by
  have e:=kY t i (by simpa using h)
  have k:∀j,(aN (q::t))[(i+1)*5+j]? = (aN t)[i*5+j]?:=fun j=>by
   rw [aN,show (i+1)*5+j=(aI5 q).length+(i*5+j) by simp;omega,List.getElem?_append_right (by omega)]
   congr 1
   omega
  have k0:=k 0
  simp only [Nat.add_zero] at k0
  rw [k0,k 1,k 2,k 3,k 4]
  simpa using e
theorem nL {w:World} {b off len:Nat} {l:List Ask} (h:aO w (some ⟨b,off,none⟩) len l):∀j u,(aN l)[j]? = some u→w.cell? ⟨b,off+j,none⟩=some u:=fun j u hj=>by
 have hjl:j<l.length*5:=by rw [←aV];exact (List.getElem?_eq_some_iff.1 hj).1
 obtain ⟨h1,h2⟩:=h
 rcases h2 with h2 | ⟨b',off',e,h4⟩
 ·omega
 ·cases e
  have hi:j / 5<l.length:=by omega
  obtain ⟨a0,a1,a2,a3,a4⟩:=kY l (j / 5) hi
  obtain ⟨c0,c1,c2,c3,c4⟩:=h4 (j / 5) hi
  rcases (show j % 5=0∨j % 5=1∨j % 5=2∨j % 5=3∨j % 5=4 by omega) with e | e | e | e | e
  ·rw [show j=j / 5*5 by omega] at hj ⊢;rw [a0] at hj;cases hj;exact c0
  ·rw [show j=j / 5*5+1 by omega] at hj ⊢;rw [a1] at hj;cases hj;rw [←Nat.add_assoc];exact c1
  ·rw [show j=j / 5*5+2 by omega] at hj ⊢;rw [a2] at hj;cases hj;rw [←Nat.add_assoc];exact c2
  ·rw [show j=j / 5*5+3 by omega] at hj ⊢;rw [a3] at hj;cases hj;rw [←Nat.add_assoc];exact c3
  ·rw [show j=j / 5*5+4 by omega] at hj ⊢;rw [a4] at hj;cases hj;rw [←Nat.add_assoc];exact c4
theorem iB:∀(l:List Ask),∀u ∈ aN l,u.oneCell'=true
 | [],u,h=>by simp [aN] at h
 | q::t,u,h=>by
  rw [aN,List.mem_append] at h
  rcases h with h | h
  ·simp at h
   rcases h with rfl | rfl | rfl | rfl | rfl<;>rfl
  ·exact iB t u h
def rM (B:Nat) (w:World) (v:Value) (l:List Ask):Prop:=w.ownsRow B 77 5 v l.length (aN l)
theorem aI3 (B:Nat) (w:World):rM B w (.slice none 0 0) []:=World.ownsRow_nil _ _ _ _
theorem rF (w:World):w.alloc (.cells #[] 77) |>.ownsRow w.heap.size 77 5 (.slice (some ⟨w.heap.size,0,none⟩) 0 0) 0 []:=
 ⟨rfl,.inr ⟨w.heap.size,0,#[],rfl,Nat.le_refl _,by show (w.heap.push _)[w.heap.size]? = _;simp,Nat.le_refl _,by unfold maxLen;omega,rfl,rfl⟩⟩
theorem rM.below {w w':World} {B:Nat} {v:Value} {l:List Ask} (h:rM B w v l) (hb:Below w.heap.size w w'):rM B w' v l:=
 h.kept (aH (aF w none) hb) (by by_cases e:v.ownBlock=none;exact .inl e;exact .inr e)
theorem rM.base {w:World} {B B':Nat} {v:Value} {l:List Ask} (h:rM B w v l) (hb:B'≤B):rM B' w v l:=by
 obtain ⟨h1,h2⟩:=h
 refine ⟨h1,?_⟩
 rcases h2 with h2 | ⟨g,cap,cur,a,b,c⟩
 ·exact .inl h2
 ·exact .inr ⟨g,cap,cur,a,Nat.le_trans hb b,c⟩
theorem rM.row {w:World} {B:Nat} {v:Value} {l:List Ask} (h:rM B w v l):∃ao cap,v=.slice ao l.length cap∧aO w ao l.length l∧l.length≤cap∧(l≠[]→∃g cur,ao=some ⟨g,0,none⟩∧B≤g∧w.heap[g]? = some (.cells cur 77 (0,0))∧cur.size=cap*5):=by
 rcases h.2 with ⟨rfl,h0⟩ | ⟨g,cap,cur,rfl,h1,h2,h3,h4,h5,h6⟩
 ·exact ⟨none,0,by rw [h0],⟨rfl,.inl h0⟩,by omega,fun hn=>absurd (List.length_eq_zero_iff.1 h0) hn⟩
 ·refine ⟨some ⟨g,0,none⟩,cap,rfl,⟨rfl,.inr ⟨g,0,rfl,fun i hi=>?_⟩⟩,h3,fun _=>⟨g,cur,rfl,h1,h2,h5⟩⟩
  obtain ⟨a,b,c,d,e⟩:=kY l i hi
  have k:∀j (v:Value),j<l.length*5→(aN l)[j]? = some v→w.cell? ⟨g,j,none⟩=some v:=fun j v hj hv=>by
   rw [←h6,List.getElem?_take_of_lt hj] at hv
   simp [World.cell?,h2]
   simpa using hv
  unfold qJ
  rw [Nat.zero_add]
  exact ⟨k _ _ (by omega) a,k _ _ (by omega) b,k _ _ (by omega) c,k _ _ (by omega) d,k _ _ (by omega) e⟩
theorem Tryz.infoA:(Tryz.prog.info? 77).map (fun i=>(i.zero,i.size,i.bytes))=some (some (.agg #[.int .i64 0,.int .i64 0,.int .i64 0,.string ByteArray.empty,.int .i64 0]),5,48):=by kernel_rfl
theorem aCK (ao:Option Addr) (len cap:Nat) (l:List Ask) (w:World) (h:aO w ao len l) (hl:len≤1048576) :
  Calls Tryz.prog 102 #[.slice ao len cap] w fun e w'=>∃v,e=.returned v∧rM w.heap.size w' v l∧Below w.heap.size w w':=by
 obtain ⟨i0,hi,hz0,hz1,hz2⟩:=info_parts Tryz.infoA
 cases ao with
 | none=>
  have hn:len=0:=by rcases h.2 with h | ⟨b,off,e,_⟩;exact h;cases e
  subst hn
  have hl0:l=[]:=List.length_eq_zero_iff.1 h.1.symm
  subst hl0
  have hnl:∀wx,(binOp .eql 72 (.slice none 0 cap) (.slice none 0 0)).run Tryz.prog wx=.ok (.bool true) wx:=fun wx=>Lib.run_eql_slice_nil wx _ _ none 0 cap 0 0 Tryz.underlying72
  clear h hl
  go_enter Tryz.func102,Tryz.ntmps102
  go_wp2
  go_ret
  exact ⟨_,rfl,aI3 _ _,Below.refl _ _⟩
 | some ad=>
  have hnew:∀j u,(aN l)[j]? = some u→(w.alloc (.cells #[] 77)).cell? (ad.add j)=some u:=fun j u hj=>by
   have hjl:j<l.length*5:=by rw [←aV];exact (List.getElem?_eq_some_iff.1 hj).1
   rcases h.2 with h0 | ⟨b,off,e,_⟩
   ·have:=h.1;omega
   ·cases e
    have:=nL (h.below (yA (Below.refl _ w) (.cells #[] 77))) j u hj
    rw [Lib.add_plain]
    exact this
  have HNW:=aA hnew
  have HLN:=aA h.1
  have hown:=rF w
  have hll:(aN l).length=len*5:=by rw [aV,h.1]
  have hone:=iB l
  have hnl:∀wx,(binOp .eql 72 (.slice (some ad) len cap) (.slice none 0 0)).run Tryz.prog wx=.ok (.bool false) wx:=fun wx=>Lib.run_eql_slice_nil wx _ _ (some ad) len cap 0 0 Tryz.underlying72
  clear h hnew
  go_enter Tryz.func102,Tryz.ntmps102
  go_wp2_with (at_builtin;refine wpList_append_own _ rfl _ _ 72 rfl w.heap.size 77 i0 (.agg #[.int .i64 0,.int .i64 0,.int .i64 0,.string ByteArray.empty,.int .i64 0]) 5 48 Tryz.underlying72 hi hz0 hz1 hz2 rfl (by decide) _ _ _ rfl hown ad len cap (aN l) rfl hll (uH HNW) hone ?c3 ?c4 ?c5 ?_)
  case c3=>unfold maxLen;omega
  case c4=>omega
  case c5=>simp
  intro v' w3 hown' hgrow _
  have HO:=aA (show rM w.heap.size w3 v' l by
   unfold rM
   rw [←uH HLN]
   exact hown')
  have HB:=aA (show Below w.heap.size w w3 from (yA (Below.refl _ w) (.cells #[] 77)).grown hgrow (by simp) (fun k e=>by simp [Value.ownBlock] at e;omega))
  clear hown' hgrow hown hone hll
  go_wp2
  go_ret
  exact ⟨_,rfl,uH HO,uH HB⟩
theorem aHi {arr:Array Value} {j:Nat} {x:Value} (h:arr[j]? = some x):arr.setIfInBounds j x=arr:=by
 apply Array.ext
 ·simp
 ·intro i h1 h2
  rw [Array.getElem_setIfInBounds]
  split
  ·rename_i e
   subst e
   rw [Array.getElem?_eq_getElem h2] at h
   exact (Option.some.inj h).symm
  ·rfl
theorem rM.same {w:World} {B g n cap j:Nat} {x:Value} {l:List Ask} (h:rM B w (.slice (some ⟨g,0,none⟩) n cap) l) (hc:w.cell? ⟨g,j,none⟩=some x):rM B (w.setCell ⟨g,j,none⟩ x) (.slice (some ⟨g,0,none⟩) n cap) l∧B≤g:=by
 obtain ⟨h1,h2⟩:=h
 rcases h2 with ⟨e,_⟩ | ⟨g',cap',cur,e,h3,h4,h5⟩
 ·cases e
 ·cases e
  have hx:cur[j]? = some x:=by simpa [World.cell?,h4] using hc
  refine ⟨⟨h1,.inr ⟨g,cap,cur,rfl,h3,?_,h5⟩⟩,h3⟩
  have:=heap_setCell_same w g j _ _ x h4
  rw [aHi hx] at this
  exact this
theorem rM.other3 {w:World} {B:Nat} {v:Value} {l:List Ask} (h:rM B w v l) (k j:Nat) (x:Value) (hk:k<B):rM B (w.setCell ⟨k,j,none⟩ x) v l:=by
 obtain ⟨h1,h2⟩:=h
 refine ⟨h1,?_⟩
 rcases h2 with h2 | ⟨g,cap,cur,a,b,c,d⟩
 ·exact .inl h2
 ·exact .inr ⟨g,cap,cur,a,b,(heap_setCell_other w ⟨k,j,none⟩ g x (show g≠k by omega)).trans c,d⟩
theorem aAj (id:Int) (qu:List UInt8) (ao:Option Addr) (len cap:Nat) (l:List Ask) (w:World) (h:aO w ao len l) (hl:len≤1048576) (hq:qu.length≤1048576) (hn:∀q ∈ l,q.node.length≤1048576) :
  Calls Tryz.prog 65 #[wN id qu ao len cap] w fun e w'=>∃v,e=.returned (.agg #[.int .i64 id,.string (bs qu),v])∧rM w.heap.size w' v l∧Below w.heap.size w w':=by
 have HN:=aA hn
 have hB:=yA (yA (Below.refl _ w) (.cells #[.int .i64 id,.string (bs qu),.slice ao len cap] 74)) (.cells #[.int .i64 0,.string ByteArray.empty,.slice none 0 0] 74)
 have CC:=aA (aCK ao len cap l _ (h.below hB) hl)
 have HB0:=aA hB
 have K0:=aA ((yD w #[.int .i64 id,.string (bs qu),.slice ao len cap] 74).al (.cells #[.int .i64 0,.string ByteArray.empty,.slice none 0 0] 74))
 have K1:=aA (show Blk _ (w.heap.size+1) #[.int .i64 0,.string ByteArray.empty,.slice none 0 0] 74 by have:=yD (w.alloc (.cells #[.int .i64 id,.string (bs qu),.slice ao len cap] 74)) #[.int .i64 0,.string ByteArray.empty,.slice none 0 0] 74;rwa [yE] at this)
 have hll:=aA h.1
 have hsq:(bs qu).size≤281474976710656:=by rw [dA];omega
 clear h hn hB
 go_enter Tryz.func65,Tryz.ntmps65
 go_wp2_with fail
 refine (uH CC).mono ?_
 rintro e w1 ⟨v,rfl,ho,hb⟩
 have HB1:=aA (yB (uH HB0) hb)
 have P0:=aA ((uH K0).below hb)
 have P1:=aA ((uH K1).below hb)
 have hsz1:w.heap.size+2≤w1.heap.size:=by have:=hb.size;rw [yE,yE] at this;omega
 have HO:=aA (ho.base (B':=w.heap.size+2) (by rw [yE,yE];omega))
 obtain ⟨xo,xc,rfl,_,hxc,hxg⟩:=ho.row
 obtain ⟨n,hnn⟩:∃n,l.length=n:=⟨_,rfl⟩
 have HLN:=aA hnn
 have hn2:n≤1048576:=by have:=uH hll;omega
 rw [hnn] at HO hxc ⊢
 clear ho hb CC HB0 K0 K1 hnn hxg
 go_wp2
 go_loopw [10] (fun i wr=>∃(k:Nat),k≤n∧i=.int .i64 k∧Hid (rM (w.heap.size+2) wr (.slice xo n xc) l)∧Hid (Below (w.heap.size+2) w1 wr)) (fun i _=>n - (intOf i).toNat)
 case atStart=>exact ⟨0,Nat.zero_le _,rfl,HO,aA (Below.refl _ _)⟩
 case round=>
  obtain ⟨k,hk,rfl,HOr,HBr⟩:=hrel
  by_cases hlt:k<n
  ·have hkl:k<l.length:=by have:=uH HLN;omega
   obtain ⟨xo',xc',e,hrow,_,hg⟩:=(uH HOr).row
   obtain ⟨g,cur,rfl,hg1,hg2,hg3⟩:=hg (by intro e;rw [e] at hkl;simp at hkl)
   rw [uH HLN] at e hrow
   cases e
   obtain ⟨b',off',e',hat⟩:=hrow.at hlt
   cases e'
   have c3:=(hat hkl).2.2.2.1
   simp only [Nat.zero_add] at c3
   have hnd:=uH HN l[k] (List.getElem_mem _)
   obtain ⟨nd,hs⟩:∃s,l[k].node=s:=⟨_,rfl⟩
   rw [hs] at c3 hnd
   have hsn:(bs nd).size≤281474976710656:=by rw [dA];omega
   have k0:(0:Int)≤k:=by omega
   have k1:(k:Int)<n:=by omega
   have hgs:g<wr.heap.size:=lt_of_block hg2
   clear hat hrow hg2 hg3 hs hkl
   go_wp2_with fail
   refine (gK (bs nd) _ hsn).mono ?_
   rintro e w2 ⟨rfl,hb⟩
   have HO2:=aA ((uH HOr).below hb)
   have c3':=(hb.cell (p:=⟨g,k*5+3,none⟩) hgs).trans c3
   have hsame:=(uH HO2).same c3'
   have f3:w2.frozen? ⟨g,k*5+3,none⟩=false:=by
    rcases (uH HO2).2 with ⟨e,_⟩ | ⟨g',cap',cur',e,_,h4,_⟩
    ·cases e
    ·cases e;simp [World.frozen?,h4]
   have HS:=aA hsame
   have HB2:=aA (show Below (w.heap.size+2) w1 (w2.setCell ⟨g,k*5+3,none⟩ (.string (bs nd))) from ((uH HBr).trans (hb.mono (by have:=(uH HBr).size;omega))).setCell (by exact hsame.2) _)
   clear hb hsame HOr HBr HO2 c3
   go_wp2
   go_roundw
   case rel=>exact ⟨k+1,by omega,by go_num,aA (uH HS).1,HB2⟩
   case measure=>simp [intOf];omega
  ·have q0:=(show Blk wr w.heap.size _ 74 from ((uH HBr).block _ (by omega)).trans (uH P0))
   have q1:=(show Blk wr (w.heap.size+1) _ 74 from ((uH HBr).block _ (by omega)).trans (uH P1))
   have HQ1:=aA q1
   have HBw:=aA (show Below w.heap.size w wr from (uH HB1).trans ((uH HBr).mono (by omega)))
   have hwr:w.heap.size+2≤wr.heap.size:=by have:=(uH HBr).size;omega
   have HQ0:=aA q0
   have a0:=q0.at 0
   have a1:=q0.at 1
   simp at a0 a1
   have CL:=aA (fun wx=>gK (bs qu) wx hsq)
   clear q0 q1
   go_wp2_with fail
   go_region_with (go_at_call 67;refine (uH CL _).mono ?_;rintro e w2 ⟨rfl,hb⟩;have HW2:=aA (yB (Below.refl _ wr).drew hb);have b0:=((uH HQ0).below (uH HW2)).at 0;have b1:=((uH HQ0).below (uH HW2)).at 1;have T2:=(uH HQ1).below (uH HW2);have t0:=T2.at 0;have t1:=T2.at 1;have t2:=T2.at 2;have tf0:=T2.f 0;have tf1:=T2.f 1;have tf2:=T2.f 2;simp at b0 b1 t0 t1 t2;have HT2:=aA T2;clear T2 hb)
   all_goals go_wp2
   all_goals
    have X1:=(((uH HT2).set 0 (.int .i64 id)).set 1 (.string (bs qu))).set 2 (.slice xo n xc)
    have x0:=X1.at 0
    have x1:=X1.at 1
    have x2:=X1.at 2
    simp at x0 x1 x2
    refine bodyPost_ret (v:=.agg #[.int .i64 id,.string (bs qu),.slice xo n xc]) (by simp [results,Tryz.results65,go_sem,x0,x1,x2]) rfl ⟨_,rfl,?_,?_⟩
    ·exact ((((((uH HOr).below (uH HW2)).other3 (w.heap.size+1) 0 (.int .i64 id) (by omega)).other3 (w.heap.size+1) 1 (.string (bs qu)) (by omega)).other3 (w.heap.size+1) 2 (.slice xo n xc) (by omega))).base (by omega)
    ·exact yC (yC (yC (yB (uH HBw) (uH HW2)) _ _ _ (by omega)) _ _ _ (by omega)) _ _ _ (by omega)
end
end Go.Proofs.YtdhibeclkdepiaaGreat
