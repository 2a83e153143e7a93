/-
  Texts in one: LeafS, OverM, LackM, WantI, PathS, UsedByS, OfSL, OfSD, OverS, WantS.
-/
import Derived.Test.YtngkddhcmfbjnaaGreatSackI
import Derived.Test.YtngkddhcmfbjnaaGreatSackE
import Derived.Test.YtngkddhcmfbjnaaGreatSackH
set_option maxRecDepth 100000
set_option maxHeartbeats 16000000
set_option linter.unusedVariables false
set_option linter.unusedSimpArgs false
namespace Go.Proofs.YtngkddhcmfbjnaaGreat
section
open Go.RowKit
variable {a:Ask} {d u w x y:Int} {p:Int×Int} {l:List Q} {nm:List UInt8} {k:Nat}
def vL (nm:List UInt8):List Q→Bool
 | []=>true
 | q::t=>decide (q.parent≠nm)&&vL nm t
def oI (l:List Q) (nm:List UInt8):Bool:=vL nm l&&(aH l&&decide (0≤place l nm))
theorem aFZ (h:k<l.length):vL nm (l.drop k)=(decide (l[k].parent≠nm)&&vL nm (l.drop (k+1))):=by
 rw [List.drop_eq_getElem_cons h,vL]
theorem aGl (h:l.length≤k):vL nm (l.drop k)=true:=by
 rw [List.drop_of_length_le h];rfl
theorem fP (ao:Option Addr) (len cap:Nat) (l:List Q) (nm:List UInt8) (w:World) (h:gJ w ao len l) (hl:len≤1048576) (hn:∀q ∈ l,q.name.length≤1048576) :
  cP 42 #[.slice ao len cap,.string (bs nm)] w fun e w'=>e=.returned (.bool (oI l nm))∧Bw w w':=by
 have HR:=aA h
 have HL:=aA h.1
 have HN:=aA hn
 clear h hn
 go_enter Tryz.func42,Tryz.ntmps42
 go_wp2
 go_loopw [5] (fun i wr=>∃k:Nat,k≤len∧i=.int .i64 k∧Hid (vL nm l=vL nm (l.drop k))∧wr=w) (fun i _=>len - (intOf i).toNat)
 case atStart=>exact ⟨0,Nat.zero_le _,rfl,aA (by simp),rfl⟩
 case round=>
  obtain ⟨k,hk,rfl,hp,rfl⟩:=hrel
  by_cases hlt:k<len
  ·obtain ⟨b,off,rfl,hq⟩:=(uH HR).at hlt
   have hkl:k<l.length:=by have:=uH HL;omega
   have hst:=aA (aFZ (nm:=nm) (l:=l) (k:=k) hkl)
   have hq0:=(hq hkl).2.1
   clear hq
   obtain ⟨s,hs⟩:∃s,l[k].parent=s:=⟨_,rfl⟩
   rw [hs] at hq0 hst
   have hbe:=lL s nm
   clear hs hkl
   by_cases he:s=nm
   ·have HE:=aA he
    rw [decide_eq_true he] at hbe
    clear he
    go_wp2
    go_ret
    exact ⟨yF (by rw [oI,uH hp,uH hst];simp [uH HE]),yH _ _⟩
   ·have HE:=aA he
    rw [decide_eq_false he] at hbe
    clear he
    go_wp2
    go_roundw
    case rel=>exact ⟨k+1,by omega,by go_num,aA (by rw [uH hp,uH hst];simp [uH HE]),trivial⟩
    case measure=>simp [intOf];omega
  ·have hk2:=aA (show oI l nm=(aH l&&decide (0≤place l nm)) by rw [oI,uH hp,aGl (by have:=uH HL;omega)];rfl)
   have CQ:=aA (jV ao len cap l wr (uH HR) hl (uH HN))
   obtain ⟨o,ho⟩:∃o,aH l=o:=⟨_,rfl⟩
   obtain ⟨p,hp2⟩:∃p,place l nm=p:=⟨_,rfl⟩
   rw [ho] at CQ hk2
   have CP:=aA (fun wx (hb:Bw wr wx)=>by have:=jQ ao len cap l nm wx ((uH HR).below hb) hl;rw [hp2] at this;exact this)
   rw [hp2] at hk2
   clear ho hp2 hp
   go_wp2_with fail
   refine (uH CQ).mono ?_
   rintro e w1 ⟨rfl,hb⟩
   have HB:=aA hb
   clear hb CQ
   cases o with
   | false=>
    go_wp2
    go_ret
    exact ⟨yF (by rw [uH hk2];rfl),uH HB⟩
   | true=>
    go_wp2_with fail
    refine (uH CP _ (uH HB)).mono ?_
    rintro e w2 ⟨rfl,rfl⟩
    by_cases h0:0≤p
    ·go_wp2
     go_ret
     exact ⟨yF (by rw [uH hk2];simp [h0]),uH HB⟩
    ·go_wp2
     go_ret
     exact ⟨yF (by rw [uH hk2];simp),uH HB⟩
def iO (s:St) (x:List UInt8):Int×Int:=ofR s.qs x (bC s).1 (bC s).2 false
def iM (s:St) (nm:List UInt8):Bool:=oI s.qs nm&&!within (aL s nm).1 (aL s nm).2 (iO s nm).1 (iO s nm).2
theorem jC:aM 0 0=true:=by decide
theorem aAK:∀(l:List (Int×Int)) (x y:Int),aM x y=true→aM (aS l x y).1 (aS l x y).2.1=true
 | [],x,y,h=>h
 | r::t,x,y,h=>by
  rw [aS]
  by_cases hb:aP 1 x y r.1 r.2=true
  ·rw [if_pos hb]
   refine aAK t _ _ ?_
   simp only [aP,yK] at hb
   exact hb.2
  ·rw [if_neg hb];exact jC
theorem aJ2 (l:List (Int×Int)):aM (iL l).1 (iL l).2.1=true:=aAK l 0 0 jC
theorem wK (s:St) (nm:List UInt8):aM (aL s nm).1 (aL s nm).2=true:=aJ2 _
theorem aG2 (a b n:Int):aM (fA a b n) (fB a b n)=true:=by
 by_cases h:gH a b n=true
 ·have e1:fA a b n=a*n / 10000:=by rw [fA,if_pos h]
  have e2:fB a b n=b*n / 10000:=by rw [fB,if_pos h]
  rw [e1,e2]
  simp only [gH,aM,inB,yK,yL] at h ⊢
  obtain ⟨⟨⟨h1,h2⟩,h3,h4⟩,h5,h6⟩:=h
  have:=uI h1 h2 h5 h6
  have:=uI h3 h4 h5 h6
  omega
 ·have e1:fA a b n=0:=by rw [fA,if_neg h]
  have e2:fB a b n=0:=by rw [fB,if_neg h]
  rw [e1,e2];exact jC
theorem aK1 (l:List Q) (most:Bool) {t:Int×Int} (h:aM t.1 t.2=true):∀p:List (List UInt8),aM (ofP l most t p).1 (ofP l most t p).2=true
 | []=>h
 | [_]=>h
 | n::m::r=>aG2 _ _ _
theorem aK0 (l:List Q) (nm:List UInt8) (a b:Int) (most:Bool):aM (ofR l nm a b most).1 (ofR l nm a b most).2=true:=by
 rw [ofR]
 split
 ·exact jC
 ·rename_i h
  refine aK1 l most ?_ _
  cases hr:aM a b
  ·exact absurd (.inr hr) h
  ·rfl
theorem aCj (s:St) (nm:List UInt8):aM (iO s nm).1 (iO s nm).2=true:=aK0 _ _ _ _ _
def kM (p:Int×Int) (a:Ask):Int×Int:=if iN a=true then (min 1000000000 (p.1+a.mem*a.count),min 1000000000 (p.2+a.cpu*a.count)) else p
def bV:List Ask→Int×Int→Int×Int
 | [],p=>p
 | a::t,p=>bV t (kM p a)
def fZ (nm:List UInt8):List bN→Int×Int→Int×Int
 | [],p=>p
 | a::t,p=>fZ nm t (if a.queue=nm then bV a.asks p else p)
def vK (s:St) (nm:List UInt8):Int×Int:=fZ nm s.apps (0,0)
theorem pR {l:List Ask} (h:k<l.length) (p:Int×Int):bV (l.drop k) p=bV (l.drop (k+1)) (kM p l[k]):=by
 rw [List.drop_eq_getElem_cons h,bV]
theorem tJ {l:List Ask} (h:l.length≤k) (p:Int×Int):bV (l.drop k) p=p:=by
 rw [List.drop_of_length_le h];rfl
theorem pU {l:List bN} (h:k<l.length) (p:Int×Int):fZ nm (l.drop k) p=fZ nm (l.drop (k+1)) (if l[k].queue=nm then bV l[k].asks p else p):=by
 rw [List.drop_eq_getElem_cons h,fZ]
theorem tK {l:List bN} (h:l.length≤k) (p:Int×Int):fZ nm (l.drop k) p=p:=by
 rw [List.drop_of_length_le h];rfl
theorem aBb (h:iN a=true):0≤a.mem∧a.mem≤1000000000∧0≤a.cpu∧a.cpu≤1000000000∧1≤a.count∧a.count≤1000:=by
 simp only [iN,lZ,aM,inB,yK,yL] at h
 omega
theorem o8 (h:iN a=true):kM (x,y) a=(min 1000000000 (x+a.mem*a.count),min 1000000000 (y+a.cpu*a.count)):=by rw [kM,if_pos h]
theorem rF (h:iN a=false):kM p a=p:=by rw [kM,if_neg (by simp [h])]
theorem aHi (h:iN a=true) (hr:aM x y=true):0≤a.mem*a.count∧a.mem*a.count≤1000000000000∧0≤a.cpu*a.count∧a.cpu*a.count≤1000000000000∧0≤x∧x≤1000000000∧0≤y∧y≤1000000000:=by
 obtain ⟨a0,a1,b0,b1,c0,c1⟩:=aBb h
 have e1:=uI a0 a1 (show 0≤a.count by omega) c1
 have e2:=uI b0 b1 (show 0≤a.count by omega) c1
 have e3:=aO hr
 omega
theorem rE (a:Ask) (h:aM p.1 p.2=true):aM (kM p a).1 (kM p a).2=true:=by
 obtain ⟨x,y⟩:=p
 cases ha:iN a
 ·rw [rF ha];exact h
 ·rw [o8 ha]
  have:=aHi ha h
  simp only [aM,inB,yK,yL]
  omega
theorem lY:∀(l:List Ask) (p:Int×Int),aM p.1 p.2=true→aM (bV l p).1 (bV l p).2=true
 | [],p,h=>h
 | a::t,p,h=>lY t _ (rE a h)
theorem wJ (nm:List UInt8):∀(l:List bN) (p:Int×Int),aM p.1 p.2=true→aM (fZ nm l p).1 (fZ nm l p).2=true
 | [],p,h=>h
 | a::t,p,h=>by
  rw [fZ]
  refine wJ nm t _ ?_
  split
  ·exact lY _ _ h
  ·exact h
theorem aGK (s:St) (nm:List UInt8):aM (vK s nm).1 (vK s nm).2=true:=wJ _ _ _ jC
def nI (d u w:Int):Int:=min (max (d - u) 0) w
def sG (s:St) (nm:List UInt8):Int×Int:=if oI s.qs nm=true then (nI (iO s nm).1 (aL s nm).1 (vK s nm).1,nI (iO s nm).2 (aL s nm).2 (vK s nm).2) else (0,0)
theorem qL (h:u<d):nI d u w=min (d - u) w:=by simp only [nI];omega
theorem qM (h:¬u<d) (hw:0≤w):nI d u w=0:=by simp only [nI];omega
def LS (w:World) (g5 g6 g7:Nat) (ux uy dx dy nx ny:Int) (wx:World):Prop:=Var wx 37 g5 ux uy∧Var wx 37 g6 dx dy∧Var wx 37 g7 nx ny∧Bw w wx
theorem aBP (x y:Int) (wx:World):(Builtin.min_ #[3,3] 3 #[.int .i64 x,.int .i64 y]).run Tryz.prog wx=.ok (.int .i64 (min x y)) wx:=by
 have:(if y<x then y else x)=min x y:=by omega
 simp [go_sem,this]
theorem aI3 (x y:Int) (wx:World):(Builtin.max_ #[3,3] 3 #[.int .i64 x,.int .i64 y]).run Tryz.prog wx=.ok (.int .i64 (max x y)) wx:=by
 have:(if x<y then y else x)=max x y:=by omega
 simp [go_sem,this]
theorem aA6 (d u v:Int) (w:World) (hd:0≤d∧d≤1000000000) (hu:0≤u∧u≤1000000000) :
  cP 47 #[.int .i64 d,.int .i64 u,.int .i64 v] w fun e w'=>e=.returned (.int .i64 (nI d u v))∧w'=w:=by
 have h1:=aI3 (d - u) 0
 have h2:=aBP (max (d - u) 0) v
 obtain ⟨hd0,hd1⟩:=hd
 obtain ⟨hu0,hu1⟩:=hu
 obtain ⟨t,ht⟩:∃t,max (d - u) 0=t:=⟨_,rfl⟩
 have h4:nI d u v=min t v:=by rw [nI,ht]
 rw [ht] at h1 h2
 rw [h4]
 clear h4 ht
 go_enter Tryz.func47,Tryz.ntmps47
 go_wp2
 go_ret
 exact ⟨rfl,rfl⟩
theorem vJ (q:Ask) (x y:Int) (w:World) (ha:iN q=true) (hr:aM x y=true) :
  cP 103 #[aKJ q,rv x y] w fun e w'=>e=.returned (rv (kM (x,y) q).1 (kM (x,y) q).2)∧Bw w w':=by
 obtain ⟨m0,m1,n0,n1,x0,x1,y0,y1⟩:=aHi ha hr
 obtain ⟨a0,a1,b0,b1,c0,c1⟩:=aBb ha
 rw [o8 ha]
 clear ha hr
 obtain ⟨me,cp,ct,nd,ms⟩:=q
 simp only at m0 m1 n0 n1 a0 a1 b0 b1 c0 c1 ⊢
 have h1:=aBP (x+me*ct) 1000000000
 have h2:=aBP (y+cp*ct) 1000000000
 rw [Int.min_comm] at h1 h2
 obtain ⟨u,hu⟩:∃t,min 1000000000 (x+me*ct)=t:=⟨_,rfl⟩
 obtain ⟨v,hv⟩:∃t,min 1000000000 (y+cp*ct)=t:=⟨_,rfl⟩
 rw [hu] at h1 ⊢
 rw [hv] at h2 ⊢
 clear hu hv
 go_enter Tryz.func103,Tryz.ntmps103
 go_wp2
 refine bodyPost_ret (v:=rv u v) (by simp [results,Tryz.results103,go_sem]) rfl ⟨rfl,?_⟩
 repeat (first | exact yH _ _ | refine yA ?_ _ | refine Below.drew ?_ | refine yC ?_ _ _ _ (by omega))
theorem aFC (x:Sls) (s:St) (nm:List UInt8) (w:World) (h:gU w x s) (hf:dI s) :
  cP 46 #[sv x s,.string (bs nm)] w fun e w'=>e=.returned (rv (vK s nm).1 (vK s nm).2)∧Bw w w':=by
 have hal:x.al≤1048576:=h.al hf
 have HR:=aA h.2.1
 have HL:=aA h.2.1.1
 have zw:=aA hf.2.1
 obtain ⟨⟨zx,zy⟩,hz⟩:∃z,vK s nm=z:=⟨_,rfl⟩
 have HZ:=aA (show fZ nm (s.apps.drop 0) (0,0)=(zx,zy) from hz)
 rw [hz]
 clear h hf hz
 obtain ⟨qa,ql,qc,aa,al,ac,ma,ml,mc,ca,cl,cc⟩:=x
 obtain ⟨qs,cv,ez,nv,sj,aj,ms,cs⟩:=s
 simp only at hal HR HL zw HZ
 have HB1:=aA (bZ w (svc ⟨qa,ql,qc,aa,al,ac,ma,ml,mc,ca,cl,cc⟩ ⟨qs,cv,ez,nv,sj,aj,ms,cs⟩))
 have V1:=aA (gY w (svc ⟨qa,ql,qc,aa,al,ac,ma,ml,mc,ca,cl,cc⟩ ⟨qs,cv,ez,nv,sj,aj,ms,cs⟩))
 have hsz:=nK w (svc ⟨qa,ql,qc,aa,al,ac,ma,ml,mc,ca,cl,cc⟩ ⟨qs,cv,ez,nv,sj,aj,ms,cs⟩)
 obtain ⟨W1,hW1⟩:∃W,zS w (svc ⟨qa,ql,qc,aa,al,ac,ma,ml,mc,ca,cl,cc⟩ ⟨qs,cv,ez,nv,sj,aj,ms,cs⟩)=W:=⟨_,rfl⟩
 rw [hW1] at HB1 V1 hsz
 have YC:=aA hsz
 have HV:=aA (show Var _ 37 (w.heap.size+1+1) 0 0 by have:=bD W1 37 0 0;rwa [hsz] at this)
 have QR:=aA (show Kp W1 _ from yA (yH _ W1) (.cells #[.int .i64 0,.int .i64 0] 37))
 have HW1:=aA hW1
 clear hW1 hsz
 go_enter Tryz.func46,Tryz.ntmps46
 go_wp2
 go_loopw [14] (fun i wr=>∃(k:Nat) (a b:Int),k≤al∧i=.int .i64 k∧Hid (fZ nm (aj.drop k) (a,b)=(zx,zy))∧Hid (aM a b=true)∧Hid (Var wr 37 (w.heap.size+1+1) a b)∧Hid (Kp W1 wr)) (fun i _=>al - (intOf i).toNat)
 case atStart=>
  obtain rfl:=uH HW1
  exact ⟨0,0,0,Nat.zero_le _,rfl,HZ,aA jC,HV,QR⟩
 case round=>
  obtain ⟨k,a,b,hk,rfl,HQ,HO,VD,HK⟩:=hrel
  obtain ⟨wo,rfl⟩:∃wo:World,wo=wr:=⟨_,rfl⟩
  clear HV QR HZ
  by_cases hlt:k<al
  ·obtain ⟨bb,off,rfl,hq⟩:=(uH HR).at hlt
   have KW:=aA (show Kp w wo from yB (uH HB1) (uH HK))
   have hkl:k<aj.length:=by have:=uH HL;omega
   have hst:=pU (nm:=nm) hkl (a,b)
   have hfa:=(uH zw).2 _ (yM hkl)
   obtain ⟨xo,xl,xc,c0,c1,c2,Hw,_⟩:=hq hkl
   replace c0:=(uH KW).cell c0
   replace c1:=(uH KW).cell c1
   replace c2:=(uH KW).cell c2
   obtain ⟨⟨id,qu,asks⟩,hs⟩:∃s,aj[k]=s:=⟨_,rfl⟩
   rw [hs] at c0 c1 hst Hw hfa
   simp only at c0 c1 hst Hw
   rw [uH HQ] at hst
   have hxl:xl≤1048576:=by have h1:=Hw.1;have h2:=hfa.2.1;simp only at h2;omega
   have HA:=aA Hw
   have Z8:=aA Hw.1
   have J4:=aA hfa.2.2
   have k0:(0:Int)≤k:=by omega
   have k1:(k:Int)<al:=by omega
   clear hq hs hkl Hw hfa HQ
   by_cases QY:qu=nm
   case neg=>
    have hqe:=lL qu nm
    rw [decide_eq_false QY] at hqe
    rw [if_neg QY] at hst
    have HST:=aA hst
    clear hst
    go_wp2
    go_roundw
    case rel=>exact ⟨k+1,a,b,by omega,by go_num,aA (uH HST).symm,HO,aA ((uH VD).al _),aA (yA (uH HK) _)⟩
    case measure=>simp [intOf];omega
   subst QY
   have hqe:=lL qu qu
   rw [decide_eq_true rfl] at hqe
   rw [if_pos rfl] at hst
   have hok:=lY asks (a,b) (uH HO)
   obtain ⟨⟨ax,ay⟩,hax⟩:∃z,bV asks (a,b)=z:=⟨_,rfl⟩
   rw [hax] at hst hok
   have HST:=aA hst
   have Zj:=aA hok
   have HX:=aA (show bV (asks.drop 0) (a,b)=(ax,ay) from hax)
   have GI:=aA ((uH VD).al (.cells #[.int .i64 id,.string (bs qu),.slice xo xl xc] 48))
   have WQ:=aA (show Kp W1 _ from yA (uH HK) (.cells #[.int .i64 id,.string (bs qu),.slice xo xl xc] 48))
   clear hst hok hax
   go_wp2
   go_loopw [25] (fun i wr=>∃(j:Nat) (a b:Int),j≤xl∧i=.int .i64 j∧Hid (bV (asks.drop j) (a,b)=(ax,ay))∧Hid (aM a b=true)∧Hid (Var wr 37 (w.heap.size+1+1) a b)∧Hid (Kp W1 wr)) (fun i _=>xl - (intOf i).toNat)
   case atStart=>exact ⟨0,a,b,Nat.zero_le _,rfl,HX,HO,GI,WQ⟩
   case round=>
    obtain ⟨j,a',b',hj,rfl,HQ',HO',Vz,ZU⟩:=hrel
    clear GI WQ HX VD HK HO
    by_cases hjl:j<xl
    ·obtain ⟨ab,aoff,rfl,ha⟩:=((uH HA).below (yB (uH HB1) (uH ZU))).at hjl
     have hjk:j<asks.length:=by have:=uH Z8;omega
     have hst:=pR hjk (a',b')
     have hnd:=uH J4 _ (yM hjk)
     obtain ⟨d0,d1,d2,d3,d4⟩:=ha hjk
     obtain ⟨q,hs⟩:∃s,asks[j]=s:=⟨_,rfl⟩
     rw [hs] at d0 d1 d2 d3 d4 hst hnd
     rw [uH HQ'] at hst
     have CA:=aA (fun wx=>aCv q wx hnd)
     have j0:(0:Int)≤j:=by omega
     have j1:(j:Int)<xl:=by omega
     have QG:=aA hst
     clear ha hs hjk hnd hst HQ'
     cases hak:iN q with
     | false=>
      rw [hak] at CA
      have HE:=aA (show bV (asks.drop (j+1)) (a',b')=(ax,ay) by rw [uH QG,rF hak])
      clear QG hak
      obtain ⟨me,cp,ct,nd,mi⟩:=q
      simp only at d0 d1 d2 d3 d4
      have XD:=aA ((uH Vz).al (.cells #[.int .i64 me,.int .i64 cp,.int .i64 ct,.string (bs nd),.int .i64 mi] 104))
      have Qy:=aA (show Kp W1 _ from yA (uH ZU) (.cells #[.int .i64 me,.int .i64 cp,.int .i64 ct,.string (bs nd),.int .i64 mi] 104))
      go_wp2_with fail
      refine (uH CA _).mono ?_
      rintro e w5 ⟨rfl,hb⟩
      have HV5:=aA ((uH XD).below hb)
      have XE:=aA (show Kp W1 _ from yB (uH Qy) hb)
      clear hb XD Qy CA
      go_wp2
      go_roundw
      case rel=>exact ⟨j+1,a',b',by omega,by go_num,HE,HO',HV5,XE⟩
      case measure=>simp [intOf];omega
     | true=>
      rw [hak] at CA
      have QU:=rE (p:=(a',b')) q (uH HO')
      have CB:=aA (fun wx=>vJ q a' b' wx hak (uH HO'))
      obtain ⟨⟨na,nb⟩,hn⟩:∃z,kM (a',b') q=z:=⟨_,rfl⟩
      rw [hn] at CB QU
      have HE:=aA (show bV (asks.drop (j+1)) (na,nb)=(ax,ay) by rw [uH QG,hn])
      have GD:=aA QU
      clear QG hak hn QU
      obtain ⟨me,cp,ct,nd,mi⟩:=q
      simp only at d0 d1 d2 d3 d4 CB
      have XD:=aA ((uH Vz).al (.cells #[.int .i64 me,.int .i64 cp,.int .i64 ct,.string (bs nd),.int .i64 mi] 104))
      have Qy:=aA (show Kp W1 _ from yA (uH ZU) (.cells #[.int .i64 me,.int .i64 cp,.int .i64 ct,.string (bs nd),.int .i64 mi] 104))
      have P4:=aA (yD wr #[.int .i64 me,.int .i64 cp,.int .i64 ct,.string (bs nd),.int .i64 mi] 104)
      go_wp2_with fail
      refine (uH CA _).mono ?_
      rintro e w5 ⟨rfl,hb⟩
      have HV5:=aA ((uH XD).below hb)
      have XE:=aA (show Kp W1 _ from yB (uH Qy) hb)
      have P5:=(uH P4).below hb
      have e0:=P5.at 0
      have e1:=P5.at 1
      have e2:=P5.at 2
      have e3:=P5.at 3
      have e4:=P5.at 4
      simp at e0 e1 e2 e3 e4
      have v0:=(uH HV5).c0
      have v1:=(uH HV5).c1
      clear hb XD Qy P4 P5 CA
      go_wp2_with fail
      refine (uH CB _).mono ?_
      rintro e w6 ⟨rfl,hb⟩
      have YB:=aA ((uH HV5).below hb)
      have Kw:=aA (show Kp W1 _ from yB (uH XE) hb)
      have u0:=(uH YB).f 0
      have u1:=(uH YB).f 1
      have v2:=(uH YB).c0
      have v3:=(uH YB).c1
      clear hb HV5 XE CB e0 e1 e2 e3 e4 v0 v1
      go_wp2
      go_roundw
      case rel=>exact ⟨j+1,na,nb,by omega,by go_num,HE,GD,aA ((uH YB).set _ _),aA (yC (yC (uH Kw) _ _ _ (by rw [uH YC];omega)) _ _ _ (by rw [uH YC];omega))⟩
      case measure=>simp [intOf];omega
    ·have hen:=tJ (l:=asks) (k:=j) (by have:=uH Z8;omega) (a',b')
     rw [uH HQ'] at hen
     simp only [Prod.mk.injEq] at hen
     obtain ⟨rfl,rfl⟩:=hen
     have j1:¬(j:Int)<xl:=by omega
     go_wp2
     go_roundw
     case rel=>exact ⟨k+1,ax,ay,by omega,by go_num,aA (uH HST).symm,Zj,Vz,ZU⟩
     case measure=>simp [intOf];omega
  ·have hen:=tK (nm:=nm) (l:=aj) (k:=k) (by have:=uH HL;omega) (a,b)
   rw [uH HQ] at hen
   simp only [Prod.mk.injEq] at hen
   obtain ⟨rfl,rfl⟩:=hen
   have k1:¬(k:Int)<al:=by omega
   have VR:=(uH V1).below (uH HK)
   have v0:=(uH VD).c0
   have v1:=(uH VD).c1
   have g0:=VR.c0
   have g1:=VR.c1
   have k2:=VR.f 0
   have k3:=VR.f 1
   have k4:=VR.s0 (.int .i64 zx)
   have k5:=VR.s1 (.int .i64 zx) (.int .i64 zy)
   have GM:=aA (yB (uH HB1) (uH HK))
   go_wp2
   refine bodyPost_ret (v:=rv zx zy) (by simp [results,Tryz.results46,go_sem,k4,k5]) rfl ⟨rfl,?_⟩
   repeat (first | exact uH GM | refine yA ?_ _ | refine yC ?_ _ _ _ (by omega))
theorem tY (ao:Option Addr) (len cap:Nat) (l:List Q) (nm:List UInt8) (w:World) (h:gJ w ao len l) (hl:len≤1048576) (hn:∀q ∈ l,q.name.length≤1048576) :
  cP 98 #[.slice ao len cap,.string (bs nm)] w fun e w'=>∃v,e=.returned v∧bY w.heap.size w' v (path l nm)∧Bw w w':=by
 obtain ⟨i0,hi,hz0,hz1,hz2⟩:=info_parts Tryz.infoS
 have HR:=aA h
 have HL:=aA h.1
 have hlw:=h.1
 have CQ:=aA (fun wx (hb:Bw w wx)=>jV ao len cap l wx (h.below hb) hl hn)
 have CP:=aA (fun (x:List UInt8) wx (hb:Bw w wx)=>jQ ao len cap l x wx (h.below hb) hl)
 obtain ⟨p0,hp0⟩:∃p,place l nm=p:=⟨_,rfl⟩
 have hpr:p0 = -1∨(0≤p0∧p0<len):=by have:=eX l nm;rw [hp0] at this;omega
 have Vv:=aA hp0
 have CP0:=aA (by have:=(uH CP) nm (w.alloc (.cells #[] 9)) (yA (yH _ _) _);rw [hp0] at this;exact this)
 obtain ⟨ok,hok⟩:∃ok,aH l=ok:=⟨_,rfl⟩
 rw [hok] at CQ
 have Zj:=aA hok
 have QE:=aA (rO w)
 clear h hn hp0 hok hlw
 go_enter Tryz.func98,Tryz.ntmps98
 go_wp2_with fail
 refine (uH CP0).mono ?_
 rintro e w1 ⟨rfl,rfl⟩
 clear CP0
 go_wp2
 go_loopw [5,6] (fun v i wr=>∃(p:Int) (o:List ByteArray),i=.int .i64 p∧(p = -1∨(0≤p∧p<len))∧o.length+p<len+1∧Hid (ok=true→o++(dZ l (l.length+1) p).map bs=(path l nm).map bs)∧Hid (ok=false→o=[])∧Hid (wr.ownsRow w.heap.size 9 1 v o.length (iY o))∧Hid (Bw w wr)) (fun _ i _=>(intOf i+1).toNat)
 case atStart=>
  refine ⟨p0,[],rfl,hpr,by simp;omega,aA (fun e=>?_),aA (fun _=>rfl),QE,aA (yA (yH _ _) _)⟩
  rw [path,uH Zj,e,if_pos rfl,uH Vv];rfl
 case round=>
  obtain ⟨p,o,rfl,hp,ho,HO,HE,HS,HB⟩:=hrel
  by_cases h0:0≤p
  ·obtain ⟨k,rfl⟩:∃k:Nat,p=k:=⟨p.toNat,by omega⟩
   have hlt:k<len:=by omega
   cases ok with
   | false=>
    go_wp2_with fail
    refine (uH CQ _ (uH HB)).mono ?_
    rintro e w2 ⟨rfl,hb⟩
    have HB2:=aA (yB (uH HB) hb)
    have HS2:=aA (gD (uH HS) hb)
    clear hb
    go_wp2
    go_ret
    refine ⟨_,rfl,bY.of (uH HS2) ?_,uH HB2⟩
    rw [uH HE (by first | rfl | trivial),show path l nm=[] by rw [path,uH Zj];rfl]
    rfl
   | true=>
    have hkl:k<l.length:=by have:=uH HL;omega
    have KV:=iF (uH Zj) hkl
    have xk:=aCJ (uH Zj) hkl (n:=l.length+1) (by omega)
    obtain ⟨b,off,rfl,hq⟩:=(uH HR).at hlt
    have hqq:=hq hkl
    obtain ⟨q,hs⟩:∃q,l[k]=q:=⟨_,rfl⟩
    rw [hs] at hqq KV xk
    obtain ⟨pn,hpn⟩:∃p,place l q.parent=p:=⟨_,rfl⟩
    have NJ:pn = -1∨(0≤pn∧pn<len):=by have:=eX l q.parent;rw [hpn] at this;have:=uH HL;omega
    rw [hpn] at KV xk
    have uz:=aA hqq
    have HST:=aA xk
    have MN:=aA hpn
    clear hq hqq hs hkl xk hpn
    go_wp2_with fail
    refine (uH CQ _ (uH HB)).mono ?_
    rintro e w2 ⟨rfl,hb⟩
    have Hq:=gD (uH HS) hb
    have Q4:=yB (uH HB) hb
    have HC:=aA ((uH uz).below Q4)
    have c0:=(uH HC).1
    have hsz:=Q4.size
    have hol:o.length≤1048576:=by omega
    clear hb HS HB CQ
    go_wp2_with (at_builtin;refine wpList_append_own _ rfl _ _ 41 rfl w.heap.size 9 i0 (.string ByteArray.empty) 1 16 Tryz.underlying41 hi hz0 hz1 hz2 rfl (by decide) _ _ _ rfl (Hq.alloc _) ⟨w2.heap.size,0,none⟩ 1 1 [.string (bs q.name)] rfl rfl ?c1 ?c2 ?c3 ?c4 ?c5 ?_)
    case c1=>intro j v hj;match j,hj with | 0,hj=>simp at hj;subst hj;simp [Addr.add]
    case c2=>intro v hv;simp at hv;subst hv;rfl
    case c3=>unfold maxLen;omega
    case c4=>omega
    case c5=>simp;omega
    intro v' w3 Hy Hz _
    have R:=pW Q4 Hq Hy Hz (by omega)
    have HR3:=aA R
    have c1:=(show QAt w3 b (off+k*4) q from (uH uz).below R.2).2.1
    clear Hy Hz Hq Q4 c0 R HC
    go_wp2_with fail
    refine (uH CP q.parent _ (uH HR3).2).mono ?_
    rintro e w4 ⟨rfl,rfl⟩
    rw [uH MN]
    go_wp2
    go_roundw
    case rel=>exact ⟨pn,o++[bs q.name],rfl,NJ,by simp;omega,aA (fun _=>by have:=uH HO (by first | rfl | trivial);rw [uH HST] at this;simpa using this),aA (fun e=>by cases e),aA (uH HR3).1,aA (uH HR3).2⟩
    case measure=>simp [intOf];omega
  ·have hp1:p = -1:=by omega
   subst hp1
   go_wp2
   go_ret
   refine ⟨_,rfl,bY.of (uH HS) ?_,uH HB⟩
   cases ok with
   | true=>
    have:=uH HO (by first | rfl | trivial)
    rw [aBH (by omega)] at this
    simpa using this
   | false=>
    rw [uH HE (by first | rfl | trivial),show path l nm=[] by rw [path,uH Zj];rfl]
    rfl
end
section
open Go.RowKit Go.Maps
theorem aBm {p:Con→Bool} (l:List Con):(aV p l).length≤l.length:=by simp [aV];exact List.length_filter_le _ _
theorem aFS (l:List Q) (nm:List UInt8) (h:l.length≤1048575):(path l nm).length≤1048576:=by
 have key:∀(n:Nat) (p:Int),(dZ l n p).length≤n:=by
  intro n
  induction n with
  | zero=>intro p;simp [dZ]
  | succ n ih=>
   intro p
   rw [dZ]
   split
   ·simp;exact ih _
   ·simp
 rw [path]
 split
 ·exact Nat.le_trans (key _ _) (by omega)
 ·simp
theorem jL (x:Sls) (s:St) (nm:List UInt8) (w:World) (h:gU w x s) (hf:dI s) :
  cP 43 #[sv x s,.string (bs nm)] w fun e w'=>e=.returned (rv (aL s nm).1 (aL s nm).2)∧Bw w w':=by
 obtain ⟨i0,hi,hz0,hz1,hz2⟩:=info_parts Tryz.infoR
 have GJ:x.ql≤1048576:=by have:=h.len.1;have:=hf.1.1;omega
 have hal:x.al≤1048576:=by have:=h.len.2.1;have:=hf.2.1.1;omega
 have hcl:x.cl≤1048576:=by have:=h.len.2.2.2;have:=hf.2.2.2.1;omega
 have HR:=aA h.2.2.2
 have HL:=aA h.2.2.2.1
 have Uz:=aA h.2.1
 have Z8:=aA h.2.1.1
 have CA:=aA (fun wx (hb:Bw w wx) (id:Int)=>sH x s id wx (h.2.1.below hb) hal)
 have CP:=aA (fun wx (hb:Bw w wx) (qu:List UInt8)=>tY x.qa x.ql x.qc s.qs qu wx (h.1.below hb) GJ (fun q hq=>(hf.1.2 q hq).1))
 have DK:=aA (fun qu:List UInt8=>show (path s.qs qu).length≤1048576 by
  cases ho:aH s.qs with
  | false=>simp [path,ho]
  | true=>
   refine aFS _ _ ?_
   have h2:=(aBL.1 (by have:=uC s.qs;rw [ho] at this;simp at this;exact this.1)).2.2
   omega)
 obtain ⟨⟨⟨sx,sy,so⟩,VX⟩,hlc⟩:(∃y,iL (aV (byQ s nm) s.cs)=y)∧(aV (byQ s nm) s.cs).length≤1048576:=⟨⟨_,rfl⟩,by have:=aBm (p:=byQ s nm) s.cs;have:=h.len.2.2.2;omega⟩
 have CS:=aA (fun ao cap wx (h:aGD wx ao (aV (byQ s nm) s.cs).length (aV (byQ s nm) s.cs))=>by have:=lT ao _ cap (aV (byQ s nm) s.cs) wx h hlc;rw [VX] at this;exact this)
 have Py:=aA (fun q:Con=>show byQ s nm q=match bH q.app s.apps with | none=>false | some a=>(path s.qs a.queue).any (fun x=>decide (x=nm)) from rfl)
 rw [show (aL s nm).1=sx by rw [aL,VX],show (aL s nm).2=sy by rw [aL,VX]]
 have WV:=aA (fun id:Int=>zH id s.apps)
 obtain ⟨p,hp⟩:∃p,byQ s nm=p:=⟨_,rfl⟩
 rw [hp] at Py CS
 have UC:=aA (fun k=>show (aV p (s.cs.take k)).length≤1048576 by have:=aBm (p:=p) (s.cs.take k);have:=h.len.2.2.2;simp only [List.length_take] at *;omega)
 clear h hf VX hp hlc
 obtain ⟨qa,ql,qc,aa,al,ac,ma,ml,mc,ca,cl,cc⟩:=x
 obtain ⟨qs,cv,ez,nv,sj,aj,ms,cs⟩:=s
 simp only at CA CP CS Py HR HL Uz Z8 UC WV DK GJ hal hcl
 have HB0:=aA (bZ w (svc ⟨qa,ql,qc,aa,al,ac,ma,ml,mc,ca,cl,cc⟩ ⟨qs,cv,ez,nv,sj,aj,ms,cs⟩))
 have V0:=aA (gY w (svc ⟨qa,ql,qc,aa,al,ac,ma,ml,mc,ca,cl,cc⟩ ⟨qs,cv,ez,nv,sj,aj,ms,cs⟩))
 have P0:=aA ((eB w (svc ⟨qa,ql,qc,aa,al,ac,ma,ml,mc,ca,cl,cc⟩ ⟨qs,cv,ez,nv,sj,aj,ms,cs⟩)).al (.cells #[.int .i64 0,.int .i64 0] 37))
 have YJ:=aA (rP (zS w (svc ⟨qa,ql,qc,aa,al,ac,ma,ml,mc,ca,cl,cc⟩ ⟨qs,cv,ez,nv,sj,aj,ms,cs⟩)))
 obtain ⟨W0,hW0⟩:∃W,zS w (svc ⟨qa,ql,qc,aa,al,ac,ma,ml,mc,ca,cl,cc⟩ ⟨qs,cv,ez,nv,sj,aj,ms,cs⟩)=W:=⟨_,rfl⟩
 have P0:=aA (show Blk W0 w.heap.size (svc ⟨qa,ql,qc,aa,al,ac,ma,ml,mc,ca,cl,cc⟩ ⟨qs,cv,ez,nv,sj,aj,ms,cs⟩) 29 by rw [←hW0];exact uH P0)
 have QS:W0.heap.size=w.heap.size+1+1:=by rw [←hW0];exact nK _ _
 rw [hW0] at HB0 V0 YJ
 have HW0:=aA hW0
 have YC:=aA QS
 clear hW0 QS
 go_enter Tryz.func43,Tryz.ntmps43
 go_wp2
 go_loopw [5,6] (fun v i wr=>∃(k:Nat),k≤cl∧i=.int .i64 k∧Hid (aAG W0.heap.size wr v (aV p (cs.take k)))∧Hid (Bw W0 wr)) (fun _ i _=>cl - (intOf i).toNat)
 case atStart=>
  obtain rfl:=uH HW0
  refine ⟨0,Nat.zero_le _,rfl,aA ?_,aA (yA (yH _ _) _)⟩
  have:=uH YJ
  rw [uH YC] at this ⊢
  exact this
 case round=>
  obtain ⟨k,hk,rfl,HO,HB⟩:=hrel
  have PB:=(uH P0).below (uH HB)
  have HPB:=aA PB
  obtain ⟨q0,q1,q2,q3,q4,q5,q6,q7⟩:_∧_∧_∧_∧_∧_∧_∧_:=⟨PB.at 0,PB.at 1,PB.at 2,PB.at 3,PB.at 4,PB.at 5,PB.at 6,PB.at 7⟩
  simp at q0 q1 q2 q3 q4 q5 q6 q7
  have JB:=aA (yB (uH HB0) (uH HB))
  clear PB
  by_cases hlt:k<cl
  ·obtain ⟨b,off,rfl,hq⟩:=((uH HR).below (uH JB)).at hlt
   have hkl:k<cs.length:=by have:=uH HL;omega
   have hst:=rJ (p:=p) hkl
   have HQ:=aA (hq hkl)
   obtain ⟨m,hs⟩:∃q,cs[k]=q:=⟨_,rfl⟩
   rw [hs] at HQ hst
   have rq:=uH UC k
   obtain ⟨acc,Gq⟩:∃a,aV p (cs.take k)=a:=⟨_,rfl⟩
   rw [Gq] at hst rq HO
   obtain ⟨id,ap,no,me,cp⟩:=m
   obtain ⟨c0,c1,c2,c3,c4⟩:=uH HQ
   simp only at c0 c1 c2 c3 c4
   have hbq:=uH Py ⟨id,ap,no,me,cp⟩
   simp only at hbq
   have hfp:=uH WV ap
   obtain ⟨at0,ha⟩:∃a,aJA aj ap=a:=⟨_,rfl⟩
   have CAk:=aA (fun wx (hb:Bw w wx)=>by have:=uH CA wx hb ap;rw [ha] at this;exact this)
   rw [ha] at hfp
   have k0:(0:Int)≤k:=by omega
   have k1:(k:Int)<cl:=by omega
   have FD:=aA hfp
   have Zy:=aA hbq
   have HST:=aA hst
   have R:∀wx,Kp wr wx→wx.cell? ⟨w.heap.size,0,none⟩=some (.slice qa ql qc)∧wx.cell? ⟨w.heap.size,1,none⟩=some (.int .i64 cv)∧wx.cell? ⟨w.heap.size,2,none⟩=some (.int .i64 ez)∧wx.cell? ⟨w.heap.size,3,none⟩=some (.int .i64 nv)∧wx.cell? ⟨w.heap.size,4,none⟩=some (.int .i64 sj)∧wx.cell? ⟨w.heap.size,5,none⟩=some (.slice aa al ac)∧wx.cell? ⟨w.heap.size,6,none⟩=some (.slice ma ml mc)∧wx.cell? ⟨w.heap.size,7,none⟩=some (.slice (some ⟨b,off,none⟩) cl cc)∧wx.cell? ⟨b,off+k*5+1,none⟩=some (.int .i64 ap):=fun wx h=>
    ⟨h.cell q0,h.cell q1,h.cell q2,h.cell q3,h.cell q4,h.cell q5,h.cell q6,h.cell q7,h.cell c1⟩
   have A0:=aA (Kp.new wr)
   have HS:=aA (aK wr)
   clear hq hs hkl Gq ha hfp hbq hst
   go_wp2_with fail
   go_cut [7] from 18 to 25 (fun v7 wx=>v7=.int .i64 at0∧Kp wr wx)
   case first=>
    go_region_held3 (fun wx=>Kp wr wx)
     (first | (with_reducible assumption) | exact uH SA | exact (uH HS).drew (uH A0) | exact (uH HS).call (by assumption) (by assumption))
     (first
     | (go_at_call 54;refine (uH CAk _ ?_).mono ?_;(exact yB (uH JB) ((uH HS).below (by assumption)));rintro e wt ⟨rfl,hb⟩;have SA:=aA ((uH HS).call (by assumption) hb)))
    all_goals
     go_wp2_with fail
     go_meet
     exact ⟨rfl,by first | assumption | exact uH SA⟩
   case rest=>
    obtain ⟨rfl,hA⟩:=hcut
    obtain ⟨w4,rfl⟩:∃w4,w4=wc:=⟨wc,rfl⟩
    have SF:=aA (yB (uH JB) hA)
    have HAk:=aA hA
    have g0:=hA.cell q0
    have g5:=hA.cell q5
    have g7:=hA.cell q7
    have d3:=hA.cell c3
    have d4:=hA.cell c4
    have kz:=aA ((uH HO).below hA)
    have G8:=aA (yB (uH HB) hA)
    clear A0 R HS CAk q0 q1 q2 q3 q4 q5 q6 q7 c0 c1 c2 c3 c4 hA HO HB HQ
    have HS:=aA (aK w4)
    have A0:=aA (Kp.new w4)
    obtain ⟨pv,hpv⟩:∃o,p ⟨id,ap,no,me,cp⟩=o:=⟨_,rfl⟩
    rw [hpv] at HST Zy
    clear hpv
    go_wp2_with fail
    go_cut [40] from 26 to 39 (fun v40 wx=>v40=.bool pv∧Kp w4 wx)
    case first=>
     rcases uH FD with ⟨hfn,rfl⟩ | ⟨j,hj,hfn,rfl⟩
     ·rw [hfn] at Zy
      obtain rfl:pv=false:=uH Zy
      clear hfn
      go_quiet (fail)
      all_goals
       go_wp2_with fail
       go_meet
       exact ⟨rfl,aIq (yH _ _) _⟩
     ·rw [hfn] at Zy
      have hjl:j<al:=by have:=uH Z8;omega
      obtain ⟨ab,ao,rfl,hq⟩:=((uH Uz).below (uH SF)).at hjl
      obtain ⟨xo,xl,xc,Y3⟩:=hq hj
      have e1:=Y3.2.1
      obtain ⟨⟨ai,qu,asks⟩,hs⟩:∃a,aj[j]=a:=⟨_,rfl⟩
      rw [hs] at e1 Zy
      simp only at e1
      have VJ:=aA (uH DK qu)
      have FP:=aA (show pv=(path qs qu).any (fun x=>decide (x=nm)) from uH Zy)
      have CPq:=aA (fun wx hb=>uH CP wx hb qu)
      obtain ⟨ps,hps⟩:∃ps,path qs qu=ps:=⟨_,rfl⟩
      rw [hps] at VJ FP CPq
      have CH:=aA (fun (v:Value) (B:Nat) wx (h:bY B wx v ps)=>by have:=aA7 v ps nm B wx h (uH VJ);rw [←uH FP] at this;exact this)
      have j0:(0:Int)≤j:=by omega
      have j1:(j:Int)<al:=by omega
      have R:∀wx,Kp w4 wx→wx.cell? ⟨w.heap.size,0,none⟩=some (.slice qa ql qc)∧wx.cell? ⟨w.heap.size,5,none⟩=some (.slice (some ⟨ab,ao,none⟩) al ac)∧wx.cell? ⟨ab,ao+j*3+1,none⟩=some (.string (bs qu)):=fun wx h=>⟨h.cell g0,h.cell g5,h.cell e1⟩
      clear hfn hq Y3 hs hps e1 hj
      go_region_held3 (fun wx=>Kp w4 wx)
       (first | (with_reducible assumption) | exact uH SA | exact (uH HS).drew (uH A0) | exact (uH HS).call (by assumption) (by assumption))
       (first
       | (go_at_call 98;refine (uH CPq _ ?_).mono ?_;(exact yB (uH SF) ((uH HS).below (by assumption)));rintro e wt ⟨v,rfl,htx,hb⟩;have HTX:=aA htx;have SA:=aA ((uH HS).call (by assumption) hb))
       | (go_at_call 33;refine (uH CH _ _ _ (uH HTX)).mono ?_;rintro e wt2 ⟨rfl,rfl⟩))
      all_goals
       go_wp2_with fail
       go_meet
       exact ⟨rfl,by first | assumption | exact uH SA⟩
    case rest=>
     obtain ⟨rfl,hA⟩:=hcut
     obtain ⟨w5,rfl⟩:∃w5,w5=wc:=⟨wc,rfl⟩
     have z7:=hA.cell g7
     have z3:=hA.cell d3
     have z4:=hA.cell d4
     have jw:=aA ((uH kz).below hA)
     have GR:=aA (yB (uH G8) hA)
     clear g0 g5 g7 d3 d4 hA kz G8 HS A0 HAk SF FD Zy
     cases pv with
     | true=>
      rw [if_pos rfl] at HST
      have hs2:W0.heap.size≤w5.heap.size:=(uH GR).size
      have Hq:w5.ownsRow W0.heap.size 37 2 _ acc.length (iZ acc):=uH jw
      go_wp2_with (at_builtin;refine wpList_append_own _ rfl _ _ 120 rfl W0.heap.size 37 i0 (.agg #[.int .i64 0,.int .i64 0]) 2 16 Tryz.underlying120 hi hz0 hz1 hz2 rfl (by decide) _ _ _ rfl (Hq.alloc _) ⟨w5.heap.size,0,none⟩ 1 1 (aBE (me,cp)) rfl rfl ?c1 ?c2 ?c3 ?c4 ?c5 ?_)
      case c1=>
       intro j x hj
       match j,hj with
       | 0,hj=>simp at hj;subst hj;simp [Addr.add]
       | 1,hj=>simp at hj;subst hj;simp [Addr.add]
       | _+2,hj=>simp at hj
      case c2=>intro x hx;simp at hx;rcases hx with rfl | rfl<;>rfl
      case c3=>unfold maxLen;omega
      case c4=>omega
      case c5=>simp at hs2 ⊢;omega
      intro v' w6 Hy Hz _
      have R:=mZ (q:=(me,cp)) (uH GR) (uH jw) Hy Hz hs2
      have HR3:=aA R
      clear Hy Hz Hq R z3 z4 z7
      go_wp2
      go_roundw
      case rel=>exact ⟨k+1,by omega,by go_num,aA (by rw [uH HST];exact (uH HR3).1),aA (uH HR3).2⟩
      case measure=>simp [intOf];omega
     | false=>
      rw [if_neg (by simp)] at HST
      go_wp2
      go_roundw
      case rel=>exact ⟨k+1,by omega,by go_num,aA (by rw [uH HST];exact uH jw),GR⟩
      case measure=>simp [intOf];omega
  ·have htk:cs.take k=cs:=List.take_of_length_le (by have:=uH HL;omega)
   rw [htk] at HO
   obtain ⟨so',scp,rfl,Hw,_⟩:=(uH HO).row
   have GX:=aA Hw
   have GH:=aA ((uH V0).below (uH HB))
   obtain ⟨n,hn⟩:∃n,(aV p cs).length=n:=⟨_,rfl⟩
   rw [hn] at CS GX ⊢
   clear Hw hn htk HO HB q0 q1 q2 q3 q4 q5 q6
   go_wp2_with fail
   refine (uH CS _ _ _ (uH GX)).mono ?_
   rintro e w2 ⟨rfl,hb⟩
   have V1:=(uH GH).below hb
   have HB2:=aA (yB (uH JB) hb)
   have V2:=V1.al (.cells #[.int .i64 sx,.int .i64 sy] 37)
   have t0:=V2.c0
   have t1:=V2.c1
   have f0:=V2.f 0
   have f1:=V2.f 1
   have VG:=V2.set sx sy
   have k6:=VG.c0
   have k7:=VG.c1
   clear hb V1 V2 VG CS GH GX
   go_wp2
   refine bodyPost_ret (v:=rv sx sy) (by simp [results,Tryz.results43,go_sem,k6,k7]) rfl ⟨rfl,?_⟩
   repeat (first | exact uH HB2 | refine yA ?_ _ | refine yC ?_ _ _ _ (by omega))
end
section
open Go.RowKit
theorem aGy (ao:Option Addr) (len cap:Nat) (l:List Q) (nm:List UInt8) (a b:Int) (most:Bool) (w:World) (h:gJ w ao len l) (hl:len≤1048576) (hn:∀q ∈ l,q.name.length≤1048576) :
  cP 100 #[.slice ao len cap,.string (bs nm),rv a b,.bool most] w fun e w'=>e=.returned (rv (ofR l nm a b most).1 (ofR l nm a b most).2)∧Bw w w':=by
 have HR:=aA h
 have GH:=aA ((bD w 37 a b).al (.cells #[.int .i64 0,.int .i64 0] 37))
 have GI:=aA (jK w 37 37 a b 0 0)
 have HB0:=aA (yA (yA (yH _ w) (.cells #[.int .i64 a,.int .i64 b] 37)) (.cells #[.int .i64 0,.int .i64 0] 37))
 have CPath:=aA (tY ao len cap l nm _ (h.below (uH HB0)) hl hn)
 have CP:=aA (fun (x:List UInt8) wx (hb:Bw w wx)=>jQ ao len cap l x wx (h.below hb) hl)
 have CK:=aA (aAy a b)
 have hpl:=aIU l nm
 have DK:=aA (show (path l nm).length≤len+1 by have:=h.1;omega)
 have Rv:=aA (aFT (l:=l) (nm:=nm))
 obtain ⟨ps,hps⟩:∃ps,path l nm=ps:=⟨_,rfl⟩
 obtain ⟨ok,hok⟩:∃ok,aM a b=ok:=⟨_,rfl⟩
 rw [hps] at CPath DK Rv
 rw [hok] at CK
 obtain ⟨⟨x,y⟩,hxy⟩:∃p,ofR l nm a b most=p:=⟨_,rfl⟩
 rw [hxy]
 have M8:=aA (show (if ps=[]∨ok=false then ((0:Int),(0:Int)) else ofP l most (a,b) ps)=(x,y) by rw [←hxy,ofR,hps,hok])
 have Xz:=aA h.1
 clear h hn hps hok hxy hpl
 go_enter Tryz.func100,Tryz.ntmps100
 go_wp2_with fail
 refine (uH CPath).mono ?_
 rintro e w1 ⟨v,rfl,ht,hb⟩
 have V1:=aA ((uH GH).below hb)
 have V2:=aA ((uH GI).below hb)
 have HB1:=aA (yB (uH HB0) hb)
 have HT:=aA ht
 clear ht hb GH GI HB0 CPath
 by_cases hp:ps=[]
 ·subst hp
  obtain ⟨va,vc,rfl⟩:=kJ (uH HT)
  have hz:(x,y)=((0:Int),(0:Int)):=by rw [←uH M8,if_pos (.inl rfl)]
  simp only [Prod.mk.injEq] at hz
  obtain ⟨rfl,rfl⟩:=hz
  have k0:=(uH V2).c0
  have k1:=(uH V2).c1
  have k2:=(uH V2).f 0
  have k3:=(uH V2).f 1
  have k4:=(uH V2).s0 (.int .i64 0)
  have k5:=(uH V2).s1 (.int .i64 0) (.int .i64 0)
  go_wp2
  refine bodyPost_ret (v:=rv 0 0) (by simp [results,Tryz.results100,go_sem,k4,k5]) rfl ⟨rfl,?_⟩
  repeat (first | exact uH HB1 | refine yA ?_ _ | refine Below.drew ?_ | refine yC ?_ _ _ _ (by omega))
 ·obtain ⟨g,gc,rfl,hss,hg⟩:=kI (uH HT) hp
  have YD:=aA hss
  have hlp:0<ps.length:=List.length_pos_iff.2 hp
  have MN:=aA hp
  have hln:((ps.length:Int)==0)=false:=by simp;exact hp
  have a0:=(uH V1).c0
  have a1:=(uH V1).c1
  have hpl2:ps.length≤1048577:=by have:=uH DK;omega
  clear hss hp HT
  go_wp2_with fail
  refine (uH CK _).mono ?_
  rintro e w2 ⟨rfl,hb⟩
  have dz:=aA ((uH YD).below hb (uH YD).lt)
  have W1:=aA ((uH V1).below hb)
  have W2:=aA ((uH V2).below hb)
  have HB2:=aA (yB (uH HB1) hb)
  have hs1:w.heap.size+1<w2.heap.size:=(uH W2).lt
  clear hb a0 a1 YD V1 V2 HB1 CK
  have hgl:g<w2.heap.size:=(uH dz).lt
  cases ok with
  | false=>
   have hz:(x,y)=((0:Int),(0:Int)):=by rw [←uH M8,if_pos (.inr rfl)]
   simp only [Prod.mk.injEq] at hz
   obtain ⟨rfl,rfl⟩:=hz
   have k0:=(uH W2).c0
   have k1:=(uH W2).c1
   have k2:=(uH W2).f 0
   have k3:=(uH W2).f 1
   have k4:=(uH W2).s0 (.int .i64 0)
   have k5:=(uH W2).s1 (.int .i64 0) (.int .i64 0)
   go_wp2
   refine bodyPost_ret (v:=rv 0 0) (by simp [results,Tryz.results100,go_sem,k4,k5]) rfl ⟨rfl,?_⟩
   repeat (first | exact uH HB2 | refine yA ?_ _ | refine Below.drew ?_ | refine yC ?_ _ _ _ (by omega))
  | true=>
   have HF:=aA (show ofP l most (a,b) ps=(x,y) by have:=uH M8;rw [if_neg (by simp;exact uH MN)] at this;exact this)
   have a0:=(uH W1).c0
   have a1:=(uH W1).c1
   have hw2:=(uH HB2).size
   clear M8
   go_wp2
   clear a0 a1
   go_loopw [11] (fun i wr=>∃(j u v:Int),i=.int .i64 j∧-1≤j∧j+2≤ps.length∧Hid (ofP l most (a,b) (ps.drop (j+1).toNat)=(u,v))∧Hid (Var wr 37 w2.heap.size u v)∧Hid (SS wr g gc (ps.map bs))∧Hid (Var wr 37 (w.heap.size+1) 0 0)∧Hid (Bw w wr)) (fun i _=>(intOf i+1).toNat)
   case atStart=>
    refine ⟨(ps.length:Int) - 2,a,b,by go_num,by omega,by omega,aA ?_,aA (bD _ _ _ _),aA ((uH dz).below (yA (yH _ _) _) hgl),aA ((uH W2).al _),aA (yA (uH HB2) _)⟩
    rw [show ((ps.length:Int) - 2+1).toNat=ps.length - 1 by omega]
    exact aI0 l most (a,b) (uH MN)
   case round=>
    obtain ⟨j,u,v,rfl,hj1,hj2,HO,HU,HS,HT,HB⟩:=hrel
    by_cases h0:0≤j
    ·obtain ⟨k,rfl⟩:∃k:Nat,j=k:=⟨j.toNat,by omega⟩
     have hk1:k+1<ps.length:=by omega
     obtain ⟨kk,hkk,hpk,hbn⟩:=uH Rv ps[k] (yM _)
     have hkl:kk<len:=by have:=uH Xz;omega
     obtain ⟨rb,off,rfl,hq⟩:=((uH HR).below (uH HB)).at hkl
     have hqq:=hq hkk
     have hst:=aIZ l most (a,b) hk1
     rw [hbn] at hst
     obtain ⟨q,hs⟩:∃q,l[kk]=q:=⟨_,rfl⟩
     rw [hs] at hqq hst
     have e0:ofP l most (a,b) (ps.drop (k+1))=(u,v):=by have:=uH HO;rw [show ((k:Int)+1).toNat=k+1 by omega] at this;exact this
     rw [e0] at hst
     simp only at hst
     obtain ⟨c0,c1,c2,c3⟩:=hqq
     have ct:=(uH HS).text (show k<ps.length by omega)
     have u0:=((uH HU).al (.cells #[.string (bs q.name),.string (bs q.parent),.int .i64 q.due,.int .i64 q.most] 56)).c0
     have u1:=((uH HU).al (.cells #[.string (bs q.name),.string (bs q.parent),.int .i64 q.due,.int .i64 q.most] 56)).c1
     obtain ⟨u',hu'⟩:∃z,fA u v (dV most q)=z:=⟨_,rfl⟩
     obtain ⟨v',hv'⟩:∃z,fB u v (dV most q)=z:=⟨_,rfl⟩
     rw [hu',hv'] at hst
     have DW:=aA (show ofP l most (a,b) (ps.drop ((k:Int) - 1+1).toNat)=(u',v') by rw [show ((k:Int) - 1+1).toNat=k by omega];exact hst)
     have hsh:∀wx,cP 153 #[rv u v,.int .i64 (dV most q)] wx fun e w'=>e=.returned (rv u' v')∧Bw wx w':=fun wx=>by have:=aAx u v (dV most q) wx;rw [hu',hv'] at this;exact this
     have k00:(0:Int)≤kk:=by omega
     have k01:(kk:Int)<len:=by omega
     have p00:(0:Int)≤k:=by omega
     have p01:(k:Int)<ps.length:=by omega
     clear hq hbn hs hst e0 hu' hv' hkk HO
     cases most with
     | true=>
      have CSh:=aA (show ∀wx,cP 153 #[rv u v,.int .i64 q.most] wx fun e w'=>e=.returned (rv u' v')∧Bw wx w' from hsh)
      clear hsh
      go_wp2_with fail
      refine (uH CP ps[k] _ (uH HB)).mono ?_
      rintro e w4 ⟨rfl,rfl⟩
      rw [hpk]
      go_wp2_with fail
      refine (uH CSh _).mono ?_
      rintro e w5 ⟨rfl,hb⟩
      have U:=((uH HU).al (.cells #[.string (bs q.name),.string (bs q.parent),.int .i64 q.due,.int .i64 q.most] 56)).below hb
      have RG:=aA U
      have T:=aA (((uH HT).al (.cells #[.string (bs q.name),.string (bs q.parent),.int .i64 q.due,.int .i64 q.most] 56)).below hb)
      have S5:=aA (((uH HS).below (yA (yH _ _) (.cells #[.string (bs q.name),.string (bs q.parent),.int .i64 q.due,.int .i64 q.most] 56)) (uH HS).lt).below hb (by have:=(uH HS).lt;simp;omega))
      have GR:=aA (yB (yA (uH HB) (.cells #[.string (bs q.name),.string (bs q.parent),.int .i64 q.due,.int .i64 q.most] 56)) hb)
      have k0:=U.c0
      have k1:=U.c1
      have k2:=U.f 0
      have k3:=U.f 1
      clear hb U c0 c1 c2 c3 ct u0 u1
      go_wp2
      go_roundw
      case rel=>exact ⟨(k:Int) - 1,u',v',by go_num,by omega,by omega,DW,aA ((uH RG).set u' v'),aA (((uH S5).same (heap_setCell_other _ ⟨w2.heap.size,0,none⟩ g _ (by simp;omega))).same (heap_setCell_other _ ⟨w2.heap.size,1,none⟩ g _ (by simp;omega))),aA (((uH T).other w2.heap.size 0 _ (by omega)).other w2.heap.size 1 _ (by omega)),aA (yC (yC (uH GR) _ _ _ (by omega)) _ _ _ (by omega))⟩
      case measure=>simp [intOf]
     | false=>
      have CSh:=aA (show ∀wx,cP 153 #[rv u v,.int .i64 q.due] wx fun e w'=>e=.returned (rv u' v')∧Bw wx w' from hsh)
      clear hsh
      go_wp2_with fail
      refine (uH CP ps[k] _ (uH HB)).mono ?_
      rintro e w4 ⟨rfl,rfl⟩
      rw [hpk]
      go_wp2_with fail
      refine (uH CSh _).mono ?_
      rintro e w5 ⟨rfl,hb⟩
      have U:=((uH HU).al (.cells #[.string (bs q.name),.string (bs q.parent),.int .i64 q.due,.int .i64 q.most] 56)).below hb
      have RG:=aA U
      have T:=aA (((uH HT).al (.cells #[.string (bs q.name),.string (bs q.parent),.int .i64 q.due,.int .i64 q.most] 56)).below hb)
      have S5:=aA (((uH HS).below (yA (yH _ _) (.cells #[.string (bs q.name),.string (bs q.parent),.int .i64 q.due,.int .i64 q.most] 56)) (uH HS).lt).below hb (by have:=(uH HS).lt;simp;omega))
      have GR:=aA (yB (yA (uH HB) (.cells #[.string (bs q.name),.string (bs q.parent),.int .i64 q.due,.int .i64 q.most] 56)) hb)
      have k0:=U.c0
      have k1:=U.c1
      have k2:=U.f 0
      have k3:=U.f 1
      clear hb U c0 c1 c2 c3 ct u0 u1
      go_wp2
      go_roundw
      case rel=>exact ⟨(k:Int) - 1,u',v',by go_num,by omega,by omega,DW,aA ((uH RG).set u' v'),aA (((uH S5).same (heap_setCell_other _ ⟨w2.heap.size,0,none⟩ g _ (by simp;omega))).same (heap_setCell_other _ ⟨w2.heap.size,1,none⟩ g _ (by simp;omega))),aA (((uH T).other w2.heap.size 0 _ (by omega)).other w2.heap.size 1 _ (by omega)),aA (yC (yC (uH GR) _ _ _ (by omega)) _ _ _ (by omega))⟩
      case measure=>simp [intOf]
    ·have hjm:j = -1:=by omega
     subst hjm
     have Y3:(u,v)=(x,y):=by rw [←uH HO,←uH HF];simp
     simp only [Prod.mk.injEq] at Y3
     obtain ⟨rfl,rfl⟩:=Y3
     have u0:=(uH HU).c0
     have u1:=(uH HU).c1
     have k0:=(uH HT).c0
     have k1:=(uH HT).c1
     have k2:=(uH HT).f 0
     have k3:=(uH HT).f 1
     have k4:=(uH HT).s0 (.int .i64 u)
     have k5:=(uH HT).s1 (.int .i64 u) (.int .i64 v)
     go_wp2
     refine bodyPost_ret (v:=rv u v) (by simp [results,Tryz.results100,go_sem,k4,k5]) rfl ⟨rfl,?_⟩
     repeat (first | exact uH HB | refine yA ?_ _ | refine Below.drew ?_ | refine yC ?_ _ _ _ (by omega))
theorem j5 (ao:Option Addr) (len cap:Nat) (l:List Q) (nm:List UInt8) (a b:Int) (w:World) (h:gJ w ao len l) (hl:len≤1048576) (hn:∀q ∈ l,q.name.length≤1048576) :
  cP 44 #[.slice ao len cap,.string (bs nm),rv a b] w fun e w'=>e=.returned (rv (ofR l nm a b false).1 (ofR l nm a b false).2)∧Bw w w':=by
 have HB0:=aA (yA (yA (yH _ w) (.cells #[.int .i64 a,.int .i64 b] 37)) (.cells #[.int .i64 0,.int .i64 0] 37))
 have GI:=aA (jK w 37 37 a b 0 0)
 have C:=aA (aGy ao len cap l nm a b false _ (h.below (uH HB0)) hl hn)
 obtain ⟨⟨x,y⟩,hxy⟩:∃p,ofR l nm a b false=p:=⟨_,rfl⟩
 rw [hxy] at C ⊢
 clear hxy h hn
 go_enter Tryz.func44,Tryz.ntmps44
 go_wp2_with fail
 refine (uH C).mono ?_
 rintro e w1 ⟨rfl,hb⟩
 have V2:=(uH GI).below hb
 have k0:=V2.c0
 have k1:=V2.c1
 have k2:=V2.f 0
 have k3:=V2.f 1
 have k4:=V2.s0 (.int .i64 x)
 have k5:=V2.s1 (.int .i64 x) (.int .i64 y)
 have HB:=aA (yB (uH HB0) hb)
 clear hb V2 GI HB0 C
 go_wp2
 refine bodyPost_ret (v:=rv x y) (by simp [results,Tryz.results44,go_sem,k4,k5]) rfl ⟨rfl,?_⟩
 repeat (first | exact uH HB | refine yA ?_ _ | refine Below.drew ?_ | refine yC ?_ _ _ _ (by omega))
end
section
open Go.RowKit Go.Maps
theorem uA (x:Sls) (s:St) (nm:List UInt8) (w:World) (h:gU w x s) (hf:dI s) :
  cP 11 #[sv x s,.string (bs nm)] w fun e w'=>e=.returned (.bool (iM s nm))∧Bw w w':=by
 have GJ:x.ql≤1048576:=h.ql hf
 have GN:x.ml≤1048576:=h.ml hf
 have CL:=aA (fun wx (hb:Bw w wx)=>fP x.qa x.ql x.qc s.qs nm wx (h.1.below hb) GJ (fun q hq=>(hf.1.2 q hq).1))
 have CT:=aA (fun wx (hb:Bw w wx)=>j4 x s wx (h.2.2.1.below hb) GN)
 have CD:=aA (fun wx (hb:Bw w wx)=>show cP 44 #[.slice x.qa x.ql x.qc,.string (bs nm),rv (bC s).1 (bC s).2] wx (fun e w'=>e=.returned (rv (iO s nm).1 (iO s nm).2)∧Bw wx w') from j5 x.qa x.ql x.qc s.qs nm (bC s).1 (bC s).2 wx (h.1.below hb) GJ (fun q hq=>(hf.1.2 q hq).1))
 have CU:=aA (fun wx (hb:Bw w wx)=>jL x s nm wx (h.below hb) hf)
 obtain ⟨lf,hlf⟩:∃b,oI s.qs nm=b:=⟨_,rfl⟩
 obtain ⟨⟨tx,ty⟩,ht⟩:∃t,bC s=t:=⟨_,rfl⟩
 obtain ⟨⟨dx,dy⟩,hd⟩:∃t,iO s nm=t:=⟨_,rfl⟩
 obtain ⟨⟨ux,uy⟩,hu⟩:∃t,aL s nm=t:=⟨_,rfl⟩
 obtain ⟨wi,Gv⟩:∃b,within ux uy dx dy=b:=⟨_,rfl⟩
 have CW:=aA (fun wx=>by have:=eD ux uy dx dy wx;rw [Gv] at this;exact this)
 have HO:iM s nm=(lf&&!wi):=by simp only [iM,hlf,hu,hd,Gv]
 rw [HO]
 rw [show (iL (aT s.ms)).1=tx from congrArg Prod.fst ht,show (iL (aT s.ms)).2.1=ty from congrArg Prod.snd ht] at CT
 rw [hlf] at CL
 rw [ht,hd] at CD
 rw [hu] at CU
 simp only at CD CU
 clear h hf hlf ht hd hu Gv HO
 obtain ⟨qa,ql,qc,aa,al,ac,ma,ml,mc,ca,cl,cc⟩:=x
 obtain ⟨qs,cv,ez,nv,sj,aj,ms,cs⟩:=s
 simp only at CL CT CD CU GJ GN
 have HB0:=aA (gG w (svc ⟨qa,ql,qc,aa,al,ac,ma,ml,mc,ca,cl,cc⟩ ⟨qs,cv,ez,nv,sj,aj,ms,cs⟩))
 have P0:=aA (eB w (svc ⟨qa,ql,qc,aa,al,ac,ma,ml,mc,ca,cl,cc⟩ ⟨qs,cv,ez,nv,sj,aj,ms,cs⟩))
 obtain ⟨q0,q1,q2,q3,q4,q5,q6,q7⟩:_∧_∧_∧_∧_∧_∧_∧_:=⟨(uH P0).at 0,(uH P0).at 1,(uH P0).at 2,(uH P0).at 3,(uH P0).at 4,(uH P0).at 5,(uH P0).at 6,(uH P0).at 7⟩
 simp at q0 q1 q2 q3 q4 q5 q6 q7
 obtain ⟨W0,hW0⟩:∃W,o5 w (svc ⟨qa,ql,qc,aa,al,ac,ma,ml,mc,ca,cl,cc⟩ ⟨qs,cv,ez,nv,sj,aj,ms,cs⟩)=W:=⟨_,rfl⟩
 rw [hW0] at HB0 q0 q1 q2 q3 q4 q5 q6 q7
 have R:∀wx,Kp W0 wx→wx.cell? ⟨w.heap.size,0,none⟩=some (.slice qa ql qc)∧wx.cell? ⟨w.heap.size,1,none⟩=some (.int .i64 cv)∧wx.cell? ⟨w.heap.size,2,none⟩=some (.int .i64 ez)∧wx.cell? ⟨w.heap.size,3,none⟩=some (.int .i64 nv)∧wx.cell? ⟨w.heap.size,4,none⟩=some (.int .i64 sj)∧wx.cell? ⟨w.heap.size,5,none⟩=some (.slice aa al ac)∧wx.cell? ⟨w.heap.size,6,none⟩=some (.slice ma ml mc)∧wx.cell? ⟨w.heap.size,7,none⟩=some (.slice ca cl cc):=fun wx h=>
  ⟨h.cell q0,h.cell q1,h.cell q2,h.cell q3,h.cell q4,h.cell q5,h.cell q6,h.cell q7⟩
 have A0:=aA (Kp.new W0)
 have HS:=aA (aK W0)
 clear q0 q1 q2 q3 q4 q5 q6 q7 P0
 go_enter Tryz.func11,Tryz.ntmps11
 go_wp2_with fail
 change Code.wp _ _ _ _ (o5 w (svc ⟨qa,ql,qc,aa,al,ac,ma,ml,mc,ca,cl,cc⟩ ⟨qs,cv,ez,nv,sj,aj,ms,cs⟩))
 rw [hW0]
 clear hW0
 cases lf
 case true=>
  go_region_held3 (fun wx=>Kp W0 wx)
   (first | (with_reducible assumption) | exact uH SA | exact (uH HS).drew (uH A0) | exact (uH HS).call (by assumption) (by assumption))
   (first
   | (go_at_call 42;refine (uH CL _ ?_).mono ?_;(exact yB (uH HB0) ((uH HS).below (by assumption)));rintro e wt ⟨rfl,hb⟩;have SA:=aA ((uH HS).call (by assumption) hb))
   | (go_at_call 43;refine (uH CU _ ?_).mono ?_;(exact yB (uH HB0) ((uH HS).below (by assumption)));rintro e wt ⟨rfl,hb⟩;have SA:=aA ((uH HS).call (by assumption) hb))
   | (go_at_call 45;refine (uH CT _ ?_).mono ?_;(exact yB (uH HB0) ((uH HS).below (by assumption)));rintro e wt ⟨rfl,hb⟩;have SA:=aA ((uH HS).call (by assumption) hb))
   | (go_at_call 44;refine (uH CD _ ?_).mono ?_;(exact yB (uH HB0) ((uH HS).below (by assumption)));rintro e wt ⟨rfl,hb⟩;have SA:=aA ((uH HS).call (by assumption) hb))
   | (go_at_call 35;refine (uH CW _).mono ?_;rintro e wt ⟨rfl,hb⟩;have SA:=aA ((uH HS).call (by assumption) hb)))
  all_goals
   have GM:=aA (yB (uH HB0) ((uH HS).below (by first | exact uH SA | assumption)))
   go_wp2
   go_ret
   exact ⟨rfl,uH GM⟩
 case false=>
  refine wp_region_held_drew (S:=fun wx=>Kp W0 wx) (by kernel_rfl) ((uH HS).drew (uH A0)) (fun S0=>?_)
  refine mP (i:=0) (d:=some 5) (v:=.pointer (some ⟨w.heap.size,0,none⟩)) rfl rfl (by kernel_rfl) (by kernel_rfl) (by kernel_rfl) (fun _ _ _ h=>h) (Or.inl ⟨by rfl,fun wz hz=>by go_simp⟩) S0 ?_
  try simp only [zW]
  refine mP (i:=1) (d:=some 6) (v:=.slice qa ql qc) rfl rfl (by kernel_rfl) (by kernel_rfl) (by kernel_rfl) (fun _ _ _ h=>h) (Or.inl ⟨by rfl,fun wz hz=>by obtain ⟨r0,_⟩:=R wz hz;go_simp⟩) S0 ?_
  try simp only [zW]
  refine mP (i:=2) (d:=some 7) (v:=.string (bs nm)) rfl rfl (by kernel_rfl) (by kernel_rfl) (by kernel_rfl) (fun _ _ _ h=>h) (Or.inl ⟨by rfl,fun wz hz=>by go_simp⟩) S0 ?_
  try simp only [zW]
  refine yRq 3 rfl (fun K hK=>?_)
  go_simp
  refine (uH CL _ (yB (uH HB0) ((uH HS).below S0))).mono ?_
  rintro e wt ⟨rfl,hb⟩
  have S1:=(uH HS).call S0 hb
  go_wp2_with fail
  refine hK.out _ _ S1 (fun S0=>?_)
  clear hK K
  refine mP (i:=4) (d:=some 9) (v:=.bool false) rfl rfl (by kernel_rfl) (by kernel_rfl) (by kernel_rfl) (fun _ _ _ h=>h) (Or.inl ⟨by rfl,fun wz hz=>by go_simp⟩) S0 ?_
  try simp only [zW]
  refine tU 5 10 S0 ?_
  simp only [zW]
  refine tU 6 11 S0 ?_
  simp only [zW]
  refine tU 7 12 S0 ?_
  simp only [zW]
  refine tU 8 13 S0 ?_
  simp only [zW]
  refine tU 9 14 S0 ?_
  simp only [zW]
  refine tU 10 15 S0 ?_
  simp only [zW]
  refine tU 11 16 S0 ?_
  simp only [zW]
  refine tU 12 17 S0 ?_
  simp only [zW]
  refine tU 13 18 S0 ?_
  simp only [zW]
  refine tU 14 19 S0 ?_
  simp only [zW]
  refine tU 15 20 S0 ?_
  simp only [zW]
  refine mP (i:=16) (d:=some 21) (v:=.bool false) rfl rfl (by kernel_rfl) (by kernel_rfl) (by kernel_rfl) (fun _ _ _ h=>h) (Or.inl ⟨by rfl,fun wz hz=>by go_simp⟩) S0 ?_
  try simp only [zW]
  refine mP (i:=17) (d:=some 4) (v:=.bool false) rfl rfl (by kernel_rfl) (by kernel_rfl) (by kernel_rfl) (fun _ _ _ h=>h) (Or.inl ⟨by rfl,fun wz hz=>by go_simp⟩) S0 ?_
  try simp only [zW]
  refine wpAnyH_done (by kernel_rfl) ?_ _
  have GM:=aA (yB (uH HB0) ((uH HS).below S0))
  go_wp2
  go_ret
  exact ⟨rfl,uH GM⟩
end
section
open Go.RowKit
variable {a b:Int} {g:Nat} {t:TypeId} {w:World}
theorem Var.set0 (h:Var w t g a b) (x:Int):Var (w.setCell ⟨g,0,none⟩ (.int .i64 x)) t g x b:=heap_setCell_same w g 0 _ _ (.int .i64 x) h
theorem Var.set1 (h:Var w t g a b) (y:Int):Var (w.setCell ⟨g,1,none⟩ (.int .i64 y)) t g a y:=heap_setCell_same w g 1 _ _ (.int .i64 y) h
theorem kW (a b:Int) (w:World) :
  cP 49 #[.int .i64 a,.int .i64 b] w fun e w'=>e=.returned (.int .i64 (min a b))∧w'=w:=by
 by_cases h:a<b
 ·go_enter Tryz.func49,Tryz.ntmps49
  go_wp2
  go_ret
  exact ⟨eP (by omega),rfl⟩
 ·go_enter Tryz.func49,Tryz.ntmps49
  go_wp2
  go_ret
  exact ⟨eP (by omega),rfl⟩
theorem aC4 (x:Sls) (s:St) (nm:List UInt8) (w:World) (h:gU w x s) (hf:dI s) :
  cP 48 #[sv x s,.string (bs nm)] w fun e w'=>e=.returned (rv (vK s nm).1 (vK s nm).2)∧Bw w w':=by
 have hal:x.al≤1048576:=h.al hf
 have HR:=aA h.2.1
 have HL:=aA h.2.1.1
 have zw:=aA hf.2.1
 obtain ⟨⟨zx,zy⟩,hz⟩:∃z,vK s nm=z:=⟨_,rfl⟩
 have HZ:=aA (show fZ nm (s.apps.drop 0) (0,0)=(zx,zy) from hz)
 rw [hz]
 clear h hf hz
 obtain ⟨qa,ql,qc,aa,al,ac,ma,ml,mc,ca,cl,cc⟩:=x
 obtain ⟨qs,cv,ez,nv,sj,aj,ms,cs⟩:=s
 simp only at hal HR HL zw HZ
 have HB1:=aA (bZ w (svc ⟨qa,ql,qc,aa,al,ac,ma,ml,mc,ca,cl,cc⟩ ⟨qs,cv,ez,nv,sj,aj,ms,cs⟩))
 have V1:=aA (gY w (svc ⟨qa,ql,qc,aa,al,ac,ma,ml,mc,ca,cl,cc⟩ ⟨qs,cv,ez,nv,sj,aj,ms,cs⟩))
 have P1:=aA ((eB w (svc ⟨qa,ql,qc,aa,al,ac,ma,ml,mc,ca,cl,cc⟩ ⟨qs,cv,ez,nv,sj,aj,ms,cs⟩)).al (.cells #[.int .i64 0,.int .i64 0] 37))
 have hsz:=nK w (svc ⟨qa,ql,qc,aa,al,ac,ma,ml,mc,ca,cl,cc⟩ ⟨qs,cv,ez,nv,sj,aj,ms,cs⟩)
 have p5:=(uH P1).at 5
 simp at p5
 obtain ⟨W1,hW1⟩:∃W,zS w (svc ⟨qa,ql,qc,aa,al,ac,ma,ml,mc,ca,cl,cc⟩ ⟨qs,cv,ez,nv,sj,aj,ms,cs⟩)=W:=⟨_,rfl⟩
 have p5':W1.cell? ⟨w.heap.size,5,none⟩=some (.slice aa al ac):=by rw [←hW1];exact p5
 rw [hW1] at HB1 V1 hsz
 have U6:=aA p5'
 have YC:=aA hsz
 have HV:=aA (show Var _ 37 (w.heap.size+1+1) 0 0 by have:=bD W1 37 0 0;rwa [hsz] at this)
 have QR:=aA (show Kp W1 _ from yA (yH _ W1) (.cells #[.int .i64 0,.int .i64 0] 37))
 have HW1:=aA hW1
 clear hW1 hsz p5 p5' P1
 go_enter Tryz.func48,Tryz.ntmps48
 go_wp2
 go_loopw [6] (fun i wr=>∃(k:Nat) (a b:Int),k≤al∧i=.int .i64 k∧Hid (fZ nm (aj.drop k) (a,b)=(zx,zy))∧Hid (aM a b=true)∧Hid (Var wr 37 (w.heap.size+1+1) a b)∧Hid (Kp W1 wr)) (fun i _=>al - (intOf i).toNat)
 case atStart=>
  obtain rfl:=uH HW1
  exact ⟨0,0,0,Nat.zero_le _,rfl,HZ,aA jC,HV,QR⟩
 case round=>
  obtain ⟨k,a,b,hk,rfl,HQ,HO,VD,HK⟩:=hrel
  obtain ⟨wo,rfl⟩:∃wo:World,wo=wr:=⟨_,rfl⟩
  clear HV QR HZ
  have p5:=(uH HK).cell (uH U6)
  by_cases hlt:k<al
  ·obtain ⟨bb,off,rfl,hq⟩:=(uH HR).at hlt
   have hkl:k<aj.length:=by have:=uH HL;omega
   have hst:=pU (nm:=nm) hkl (a,b)
   have hfa:=(uH zw).2 _ (yM hkl)
   obtain ⟨xo,xl,xc,c0,c1,c2,Hw,_⟩:=hq hkl
   obtain ⟨⟨id,qu,asks⟩,hs⟩:∃s,aj[k]=s:=⟨_,rfl⟩
   rw [hs] at c0 c1 hst Hw hfa
   simp only at c0 c1 hst Hw
   rw [uH HQ] at hst
   have hxl:xl≤1048576:=by have h1:=Hw.1;have h2:=hfa.2.1;simp only at h2;omega
   have HA:=aA Hw
   have Z8:=aA Hw.1
   have J4:=aA hfa.2.2
   have Z7:=aA c1
   have Zw:=aA c2
   have k0:(0:Int)≤k:=by omega
   have k1:(k:Int)<al:=by omega
   have hqe:=lL qu nm
   obtain ⟨⟨ax,ay⟩,hax⟩:∃z,(if qu=nm then bV asks (a,b) else (a,b))=z:=⟨_,rfl⟩
   have hok:aM ax ay=true:=by
    have:aM (if qu=nm then bV asks (a,b) else (a,b)).1 (if qu=nm then bV asks (a,b) else (a,b)).2=true:=by
     split
     ·exact lY asks (a,b) (uH HO)
     ·exact uH HO
    rw [hax] at this;exact this
   rw [hax] at hst
   have HST:=aA hst
   have Zj:=aA hok
   have HX:=aA (show (if qu=nm then bV (asks.drop 0) (a,b) else (a,b))=(ax,ay) from hax)
   clear hq hs hkl Hw hfa HQ hst hok hax c0 c1 c2
   go_wp2
   go_loopw [7] (fun i wr=>∃(j:Nat) (a b:Int),j≤xl∧i=.int .i64 j∧Hid ((if qu=nm then bV (asks.drop j) (a,b) else (a,b))=(ax,ay))∧Hid (aM a b=true)∧Hid (Var wr 37 (w.heap.size+1+1) a b)∧Hid (Kp W1 wr)) (fun i _=>xl - (intOf i).toNat)
   case atStart=>exact ⟨0,a,b,Nat.zero_le _,rfl,HX,HO,VD,HK⟩
   case round=>
    obtain ⟨j,a',b',hj,rfl,HQ',HO',Vz,ZU⟩:=hrel
    clear HX VD HK HO p5
    have p5:=(uH ZU).cell (uH U6)
    have KW:=aA (show Kp w wr from yB (uH HB1) (uH ZU))
    have c1:=(uH KW).cell (uH Z7)
    have c2:=(uH KW).cell (uH Zw)
    by_cases hjl:j<xl
    case neg=>
     have hen:(a',b')=(ax,ay):=by
      have:=uH HQ'
      rw [tJ (by have:=uH Z8;omega),ite_self] at this
      exact this
     simp only [Prod.mk.injEq] at hen
     obtain ⟨rfl,rfl⟩:=hen
     have j1:¬(j:Int)<xl:=by omega
     go_wp2
     go_roundw
     case rel=>exact ⟨k+1,a',b',by omega,by go_num,aA (uH HST).symm,Zj,Vz,ZU⟩
     case measure=>simp [intOf];omega
    have j0:(0:Int)≤j:=by omega
    have j1:(j:Int)<xl:=by omega
    by_cases QY:qu=nm
    case neg=>
     rw [decide_eq_false QY] at hqe
     have hen:(a',b')=(ax,ay):=by
      have:=uH HQ'
      rw [if_neg QY] at this
      exact this
     simp only [Prod.mk.injEq] at hen
     obtain ⟨rfl,rfl⟩:=hen
     go_wp2
     go_roundw
     case rel=>exact ⟨k+1,a',b',by omega,by go_num,aA (uH HST).symm,Zj,Vz,ZU⟩
     case measure=>simp [intOf];omega
    rw [decide_eq_true QY] at hqe
    have HN:=aA QY
    have DD:=aA (show bV (asks.drop j) (a',b')=(ax,ay) by have:=uH HQ';rwa [if_pos QY] at this)
    clear QY HQ'
    obtain ⟨ab,aoff,rfl,ha⟩:=((uH HA).below (uH KW)).at hjl
    have hjk:j<asks.length:=by have:=uH Z8;omega
    have hst:=pR hjk (a',b')
    have hnd:=uH J4 _ (yM hjk)
    obtain ⟨d0,d1,d2,d3,d4⟩:=ha hjk
    obtain ⟨q,hs⟩:∃s,asks[j]=s:=⟨_,rfl⟩
    rw [hs] at d0 d1 d2 d3 d4 hst hnd
    rw [uH DD] at hst
    have CA:=aA (fun wx=>aA8 q wx hnd)
    have QG:=aA hst
    clear ha hs hjk hnd hst DD
    cases hak:iN q with
    | false=>
     rw [hak] at CA
     have HE:=aA (show (if qu=nm then bV (asks.drop (j+1)) (a',b') else (a',b'))=(ax,ay) by rw [if_pos (uH HN),uH QG,rF hak])
     clear QG hak
     obtain ⟨me,cp,ct,nd,mi⟩:=q
     simp only at d0 d1 d2 d3 d4
     have XD:=aA ((uH Vz).al (.cells #[.int .i64 me,.int .i64 cp,.int .i64 ct,.string (bs nd),.int .i64 mi] 104))
     have Qy:=aA (show Kp W1 _ from yA (uH ZU) (.cells #[.int .i64 me,.int .i64 cp,.int .i64 ct,.string (bs nd),.int .i64 mi] 104))
     go_wp2_with fail
     refine (uH CA _).mono ?_
     rintro e w5 ⟨rfl,hb⟩
     have HV5:=aA ((uH XD).below hb)
     have XE:=aA (show Kp W1 _ from yB (uH Qy) hb)
     clear hb XD Qy CA
     go_wp2
     go_roundw
     case rel=>exact ⟨j+1,a',b',by omega,by go_num,HE,HO',HV5,XE⟩
     case measure=>simp [intOf];omega
    | true=>
     rw [hak] at CA
     have QU:=rE (p:=(a',b')) q (uH HO')
     obtain ⟨m0,m1,n0,n1,x0,x1,y0,y1⟩:=aHi hak (uH HO')
     obtain ⟨a0,a1,b0,b1,t0,t1⟩:=aBb hak
     rw [o8 hak] at QG QU
     clear hak
     obtain ⟨me,cp,ct,nd,mi⟩:=q
     simp only at d0 d1 d2 d3 d4 m0 m1 n0 n1 a0 a1 b0 b1 t0 t1 QG QU
     have L1:=aA (fun wx=>kW 1000000000 (a'+me*ct) wx)
     have L2:=aA (fun wx=>kW 1000000000 (b'+cp*ct) wx)
     obtain ⟨na,hna⟩:∃t,min 1000000000 (a'+me*ct)=t:=⟨_,rfl⟩
     obtain ⟨nb,hnb⟩:∃t,min 1000000000 (b'+cp*ct)=t:=⟨_,rfl⟩
     rw [hna] at L1 QG QU
     rw [hnb] at L2 QG QU
     have HE:=aA (show (if qu=nm then bV (asks.drop (j+1)) (na,nb) else (na,nb))=(ax,ay) by rw [if_pos (uH HN),uH QG])
     have GD:=aA QU
     clear QG hna hnb QU
     have XD:=aA ((uH Vz).al (.cells #[.int .i64 me,.int .i64 cp,.int .i64 ct,.string (bs nd),.int .i64 mi] 104))
     have Qy:=aA (show Kp W1 _ from yA (uH ZU) (.cells #[.int .i64 me,.int .i64 cp,.int .i64 ct,.string (bs nd),.int .i64 mi] 104))
     have P4:=aA (yD wr #[.int .i64 me,.int .i64 cp,.int .i64 ct,.string (bs nd),.int .i64 mi] 104)
     have YV:w.heap.size+1+1<wr.heap.size:=(uH Vz).lt
     go_wp2_with fail
     refine (uH CA _).mono ?_
     rintro e w5 ⟨rfl,hb⟩
     have HV5:=aA ((uH XD).below hb)
     have XE:=aA (show Kp W1 _ from yB (uH Qy) hb)
     have P5:=aA ((uH P4).below hb)
     have e0:=(uH P5).at 0
     have e1:=(uH P5).at 1
     have e2:=(uH P5).at 2
     simp at e0 e1 e2
     have v0:=(uH HV5).c0
     have v1:=(uH HV5).c1
     clear hb XD Qy P4 CA d0 d1 d2 d3 d4 p5 c1 c2
     go_wp2_with fail
     refine (uH L1 _).mono ?_
     rintro e w6 ⟨rfl,rfl⟩
     have u0:=(uH HV5).f 0
     have Vx:=aA ((uH HV5).set0 na)
     have YM:=aA (show Kp W1 _ from yC (uH XE) (w.heap.size+1+1) 0 (.int .i64 na) (by rw [uH YC];omega))
     have P7:=aA ((uH P5).other (w.heap.size+1+1) 0 (.int .i64 na) (by omega))
     have f0:=(uH P7).at 0
     have f1:=(uH P7).at 1
     have f2:=(uH P7).at 2
     simp at f0 f1 f2
     have v2:=(uH Vx).c0
     have v3:=(uH Vx).c1
     clear XE L1 e0 e1 e2 P5
     go_wp2_with fail
     refine (uH L2 _).mono ?_
     rintro e w7 ⟨rfl,rfl⟩
     have u1:=(uH Vx).f 1
     clear f0 f1 f2 P7 v0 v1 HV5
     go_wp2
     go_roundw
     case rel=>exact ⟨j+1,na,nb,by omega,by go_num,HE,GD,aA ((uH Vx).set1 nb),aA (yC (uH YM) (w.heap.size+1+1) 1 (.int .i64 nb) (by rw [uH YC];omega))⟩
     case measure=>simp [intOf];omega
  ·have hen:=tK (nm:=nm) (l:=aj) (k:=k) (by have:=uH HL;omega) (a,b)
   rw [uH HQ] at hen
   simp only [Prod.mk.injEq] at hen
   obtain ⟨rfl,rfl⟩:=hen
   have k1:¬(k:Int)<al:=by omega
   have VR:=(uH V1).below (uH HK)
   have v0:=(uH VD).c0
   have v1:=(uH VD).c1
   have g0:=VR.c0
   have g1:=VR.c1
   have k2:=VR.f 0
   have k3:=VR.f 1
   have k4:=VR.s0 (.int .i64 zx)
   have k5:=VR.s1 (.int .i64 zx) (.int .i64 zy)
   have GM:=aA (yB (uH HB1) (uH HK))
   go_wp2
   refine bodyPost_ret (v:=rv zx zy) (by simp [results,Tryz.results48,go_sem,k4,k5]) rfl ⟨rfl,?_⟩
   repeat (first | exact uH GM | refine yA ?_ _ | refine yC ?_ _ _ _ (by omega))
end
end Go.Proofs.YtngkddhcmfbjnaaGreat
