/-
  Texts in one: MKey, MachI, MacAt, MarkS, MarkX.
-/
import Derived.Test.YtmkedfdnokmglaaGreatSackC
set_option maxRecDepth 100000
set_option maxHeartbeats 16000000
set_option linter.unusedVariables false
set_option linter.unusedSimpArgs false
namespace Go.Proofs.YtmkedfdnokmglaaGreat
section
open Go.RowKit Go.Maps
def md (m:Mac):DataW Unit:=.agg [.lit (.string m.name),.lit (.int .i64 m.mem),.lit (.int .i64 m.cpu),.lit (.int .i64 m.seen)]
def macElem:Value→Option (DataW Unit×List MemPlace)
 | .agg cs=>match cs.toList with
  | [.string s,.int .i64 x,.int .i64 y,.int .i64 z]=>some (md ⟨s.data.toList,x,y,z⟩,[])
  | _=>none
 | _=>none
theorem macElem_mk (m:Mac):macElem (macv m)=some (md m,[]):=by
 obtain ⟨nm,x,y,z⟩:=m
 simp [macElem,bs]
theorem macElem_inv {v:Value} {m:Mac} {ps:List MemPlace} (h:macElem v=some (md m,ps)):v=macv m:=by
 unfold macElem at h
 split at h
 ·rename_i cs
  split at h
  ·rename_i s x y z e
   have e2:cs=#[.string s,.int .i64 x,.int .i64 y,.int .i64 z]:=by cases cs;simpa using e
   obtain ⟨nm,a,b,c⟩:=m
   simp [md] at h
   obtain ⟨⟨h1,h2,h3,h4⟩,_⟩:=h
   subst h1 h2 h3 h4
   rw [e2]
   simp [macv,bs_data]
  ·cases h
 ·cases h
def findM (nm:List UInt8) (l:List Mac):Option Mac:=l.find? (fun m=>decide (m.name=nm))
def KnownM (l:List Mac) (D:DataW Unit):Prop:=∀nm kl,keyOf Tryz.prog 217 (keyv nm 0)=some kl→Maps.has D kl=(findM nm l).isSome∧∀m,findM nm l=some m→∀zd,D.atKey kl zd=md m
theorem knownM_empty:KnownM [] (.map []):=fun nm kl _=>⟨by simp [Maps.has,findM],fun m h=>by simp [findM] at h⟩
theorem KnownM.put {l:List Mac} {D:DataW Unit} (h:KnownM l D) (hD:IsMap D) {m:Mac} {kl:Lit} (hk:keyOf Tryz.prog 217 (keyv m.name 0)=some kl):KnownM (m::l) (D.put kl (md m)):=fun nm kl' hk'=>by
 by_cases e:kl'=kl
 ·subst e
  have:=keyLaw.inj hk hk'
  simp [keyv] at this
  have hn:m.name=nm:=by
   have h1:=congrArg (fun b:ByteArray=>b.data.toList) this
   simpa [bs] using h1
  have hf:findM nm (m::l)=some m:=by simp [findM,hn]
  rw [hf]
  refine ⟨?_,fun m' h' zd=>?_⟩
  ·rw [has_put_same hD (keyLaw.key hk)];rfl
  ·cases h'
   exact atKey_put_same hD (keyLaw.key hk) _ _
 ·have hn:¬m.name=nm:=fun hn=>e (by subst hn;rw [hk] at hk';exact (Option.some.inj hk').symm)
  have hf:findM nm (m::l)=findM nm l:=by simp [findM,hn]
  rw [hf,has_put_other e]
  refine ⟨(h nm kl' hk').1,fun m' h' zd=>?_⟩
  rw [atKey_put_other e]
  exact (h nm kl' hk').2 m' h' zd
theorem macZero (w:World):(zeroValue 177).run Tryz.prog w=.ok (macv ⟨[],0,0,0⟩) w:=by kernel_rfl
theorem lookM {w:World} {bm n:Nat} {l:List Mac} {D:DataW Unit} (hown:w.ownsMap Tryz.prog 217 macElem bm n D) (hk:KnownM l D) {nm:List UInt8} {kl:Lit} (hkey:keyOf Tryz.prog 217 (keyv nm 0)=some kl) :
  (Instr.lookup 213 (.map (some bm)) (keyv nm 0) true).run Tryz.prog w=.ok (.tuple #[macv ((findM nm l).getD ⟨[],0,0,0⟩),.bool (findM nm l).isSome]) w:=by
 obtain ⟨v,ps,hrun,hv⟩:=hown.look_ok keyLaw Tryz.underlying213 (macZero w) (macElem_mk ⟨[],0,0,0⟩) hkey
 obtain ⟨h1,h2⟩:=hk nm kl hkey
 rw [hrun,h1]
 cases hf:findM nm l with
 | none=>
  rw [hf] at h1
  rw [atKey_of_not_has h1] at hv
  rw [macElem_inv hv]
  rfl
 | some m=>
  rw [h2 m hf] at hv
  rw [macElem_inv hv]
  rfl
end
section
open Go.RowKit Go.Shelf Go.Maps
attribute [local go_sem] Oper.semAt_some
def mapW (w:World) (c:Array Value):World:=((w.alloc (.cells c 42)).alloc (.map #[] 0)).alloc (.cells #[.map (some (w.heap.size+1))] 213)
theorem mapW_size (w:World) (c:Array Value):(mapW w c).heap.size=w.heap.size+1+1+1:=by simp only [mapW,yE]
theorem mapW_below (w:World) (c:Array Value):Below w.heap.size w (mapW w c):=yA (yA (yA (yH _ w) _) _) _
theorem mapW_own (w:World) (c:Array Value):(mapW w c).ownsMap Tryz.prog 217 macElem (w.heap.size+1) 0 (.map []):=by
 have:=(World.ownsMap_made (w.alloc (.cells c 42)) Tryz.prog 217 macElem).alloc (.cells #[.map (some (w.heap.size+1))] 213)
 rw [yE] at this
 exact this
theorem mapW_var (w:World) (c:Array Value):Blk (mapW w c) (w.heap.size+1+1) #[.map (some (w.heap.size+1))] 213:=by
 have:=yD ((w.alloc (.cells c 42)).alloc (.map #[] 0)) #[.map (some (w.heap.size+1))] 213
 rw [yE,yE] at this
 exact this
def MapInv (w:World) (l:List Mac) (W:World):Prop:=(∃D,W.ownsMap Tryz.prog 217 macElem (w.heap.size+1) l.length D∧KnownM l D)∧Blk W (w.heap.size+1+1) #[.map (some (w.heap.size+1))] 213
theorem MapInv.grown {w W W':World} {l:List Mac} {row:Option Nat} (h:MapInv w l W) (hg:W.grownBy W' row) (hr:∀r,row=some r→w.heap.size+1+1<r):MapInv w l W':=by
 obtain ⟨⟨D,h1,h2⟩,h3⟩:=h
 exact ⟨⟨D,h1.kept hg (fun e=>by have:=hr _ e.symm;omega),h2⟩,(hg.block _ h3.lt (fun e=>by have:=hr _ e.symm;omega)).trans h3⟩
theorem MapInv.below {w W W':World} {l:List Mac} (h:MapInv w l W) (hb:Below W.heap.size W W'):MapInv w l W':=h.grown (grownBy_below (grownBy_refl W none) hb) (fun r e=>by cases e)
theorem machines_any (x:Sls) (s:St) (w:World) (h:MacRow w x.ma x.ml s.ms) (hl:x.ml≤1048576) (hn:∀m ∈ s.ms,m.name.length≤1048576) :
  Calls Tryz.prog 161 #[sv x s] w fun e w'=>e=.returned (.map (some (w.heap.size+1)))∧MapInv w s.ms w'∧Below w.heap.size w w':=by
 obtain ⟨qa,ql,qc,aa,al,ac,ma,ml,mc,ca,cl,cc⟩:=x
 obtain ⟨qs,clock,epoch,next,serial,apps,ms,cs⟩:=s
 simp only at h hl hn ⊢
 have HR:=hide h
 have HL:=hide h.1
 have HN:=hide hn
 have hmx:Tryz.prog.follows .mixedOrders=true:=by kernel_rfl
 have hmm:=fun (t:TypeId) (wx:World)=>run_makeMap (P:=Tryz.prog) t wx
 clear h hn
 refine (callsIn_wide (n:=3)).1 ?_
 refine callsIn_of_wp_marks Tryz.func161 rfl trivial ?_ rfl
 simp only [Tryz.ntmps161,List.size_toArray,List.length_cons,List.length_nil,Nat.reduceAdd,Nat.reduceSub,Array.replicate_succ,Array.replicate_zero,List.push_toArray,List.append_toArray,List.nil_append,List.cons_append]
 gi_wp2_with fail
 first | refine ⟨trivial,?_⟩ | skip
 first | refine ⟨(by intro e;cases e),?_⟩ | skip
 refine (callsIn_wide.2 (backM_any (.slice ma ml mc) _ rfl)).mono ?_
 rintro e w4 ⟨rfl,rfl⟩
 gi_wp2
 have hsz0:=yE (mapW w (svc ⟨qa,ql,qc,aa,al,ac,ma,ml,mc,ca,cl,cc⟩ ⟨qs,clock,epoch,next,serial,apps,ms,cs⟩)) (.cells #[.slice ma ml mc] 39)
 rw [mapW_size] at hsz0
 have hB0:=yA (mapW_below w (svc ⟨qa,ql,qc,aa,al,ac,ma,ml,mc,ca,cl,cc⟩ ⟨qs,clock,epoch,next,serial,apps,ms,cs⟩)) (.cells #[.slice ma ml mc] 39)
 have hI0:=MapInv.below (w:=w) (l:=[]) ⟨⟨_,mapW_own w (svc ⟨qa,ql,qc,aa,al,ac,ma,ml,mc,ca,cl,cc⟩ ⟨qs,clock,epoch,next,serial,apps,ms,cs⟩),knownM_empty⟩,mapW_var w _⟩ (yA (yH _ _) (.cells #[.slice ma ml mc] 39))
 have hBs:=(yD (mapW w (svc ⟨qa,ql,qc,aa,al,ac,ma,ml,mc,ca,cl,cc⟩ ⟨qs,clock,epoch,next,serial,apps,ms,cs⟩)) #[.slice ma ml mc] 39).at 0
 rw [mapW_size] at hBs
 obtain ⟨W0,hW0⟩:∃W0,(mapW w (svc ⟨qa,ql,qc,aa,al,ac,ma,ml,mc,ca,cl,cc⟩ ⟨qs,clock,epoch,next,serial,apps,ms,cs⟩)).alloc (.cells #[.slice ma ml mc] 39)=W0:=⟨_,rfl⟩
 rw [hW0] at hsz0 hB0 hI0 hBs
 have HC:=hide (backM_stops (3 - 1) (w.heap.size+1+1+1) ml mc ma ms W0 hBs ((uH HR).below hB0) hl (uH HN))
 show Code.wpIn _ _ _ _ _ _ ((mapW w (svc ⟨qa,ql,qc,aa,al,ac,ma,ml,mc,ca,cl,cc⟩ ⟨qs,clock,epoch,next,serial,apps,ms,cs⟩)).alloc (.cells #[.slice ma ml mc] 39))
 rw [hW0]
 clear hW0 hBs
 refine wpIn_rangeFunc_ownH rfl (by omega) (gf:=192) (lb:=#[.pointer (some ⟨w.heap.size+1+1+1,0,none⟩)]) rfl trivial (enters_of Tryz.func192 (by kernel_rfl) rfl)
  (uH HC) kpa_t kpa_b (yH _ _) (fun _=>rfl)
  (fun pre W=>MapInv w ((pre.map (fun x:Int×NMac=>x.2.1)).reverse) W∧Below w.heap.size w W)
  (fun _ _ _=>False)
  (OwnFrom.and (fun s X Y row hs hg hr=>MapInv.grown hs hg (fun r e=>by have:=(hr r e).1;omega)) (ownFrom_below (yJ _) (by omega)))
  (fun _ _ _ _ _ hs _ _=>hs)
  ⟨hI0,hB0⟩
  (fun x a' W=>∃Bx,w.heap.size+1+1<Bx∧Blk W Bx #[.string (bs x.2.1.name),.int .i64 x.2.1.mem,.int .i64 x.2.1.cpu,.int .i64 x.2.1.seen] 177∧a' = { tmps:=#[sv ⟨qa,ql,qc,aa,al,ac,ma,ml,mc,ca,cl,cc⟩ ⟨qs,clock,epoch,next,serial,apps,ms,cs⟩,.pointer (some ⟨w.heap.size,0,none⟩),.map none,.pointer (some ⟨w.heap.size+1+1,0,none⟩),undef,.pointer (some ⟨Bx,0,none⟩),.map (some (w.heap.size+1)),.pointer (some ⟨w.heap.size,6,none⟩),.slice ma ml mc,.func (.func 192) #[] #[.pointer (some ⟨w.heap.size+1+1+1,0,none⟩)],.int .i64 x.1,macv x.2.1,undef,undef,undef,undef,undef],defers:=[] })
  (fun x a' _ X Y row hs hg hr=>by
   obtain ⟨Bx,h1,h2,h3⟩:=hs
   refine ⟨Bx,h1,(hg.block Bx h2.lt (fun e=>?_)).trans h2,h3⟩
   obtain ⟨_,o,ho,hc⟩:=hr Bx e.symm
   rw [show X.heap[Bx]? = _ from h2] at ho
   cases ho
   cases hc)
  ?assign ?body ?done ?stop
 case assign=>
  rintro lp pre ⟨i,⟨⟨nm,me,cp,se⟩,hnm⟩⟩ W K ⟨hI,hB⟩ hK
  have hlt:=hI.2.lt
  gi_wp2
  exact hK _ _ ((KeepsOthers.alloc _ _).from _) (kpa_below (yA (yH _ W) _)) ⟨hI.below (yA (yH _ W) _),yA hB _⟩ ⟨W.heap.size,hlt,yD W _ _,rfl⟩
 case body=>
  rintro lp pre ⟨i,⟨⟨nm,me,cp,se⟩,hnm⟩⟩ a' W hlp _ ⟨hI,hB⟩ ⟨Bx,hBx,hX,rfl⟩ hlt
  have HI:=hide hI
  have HX:=hide hX
  have HB:=hide hB
  have x0:=hX.at 0
  have x1:=hX.at 1
  have x2:=hX.at 2
  have x3:=hX.at 3
  have v0:=hI.2.at 0
  simp at x0 x1 x2 x3 v0
  have hpl:pre.length<1048576:=by have:=uH HL;omega
  clear hI hX hB
  have hnm':nm.length≤1048576:=hnm
  obtain ⟨kl,hkey⟩:=keyKey (nm:=nm) (k:=0) (by omega) (by decide)
  have HKEY:=hide hkey
  clear hkey
  gi_wp2_with fail
  gi_region_with_o (first | (first | refine ⟨trivial,?_⟩ | skip);(first | refine ⟨(by intro e;cases e),?_⟩ | skip);refine (CallsIn.inRound lp (callsIn_wide.2 (macKey_any ⟨nm,me,cp,se⟩ _))).mono ?_;rintro e wc ⟨rfl,hbc⟩;have HW3:=hide (yB (yH _ W).drew hbc);have y0:=((uH HX).below (uH HW3)).at 0;have y1:=((uH HX).below (uH HW3)).at 1;have y2:=((uH HX).below (uH HW3)).at 2;have y3:=((uH HX).below (uH HW3)).at 3;have u0:=((uH HI).below (uH HW3)).2.at 0;simp at y0 y1 y2 y3 u0;obtain ⟨D,hown,hk⟩:=((uH HI).below (uH HW3)).1;obtain ⟨w4,hrun,hown2,hgrow2⟩:=hown.update keyLaw Tryz.underlying213 (by unfold maxLen;simp;omega) (uH HKEY) (macElem_mk ⟨nm,me,cp,se⟩);have HFIN:=hide (And.intro hown2 (And.intro hgrow2 (KnownM.put (m:=⟨nm,me,cp,se⟩) hk hown.isMap (uH HKEY))));clear hown2 hgrow2 hk hown hbc)
  all_goals gi_wp2
  all_goals
   obtain ⟨f1,f2,f3⟩:=uH HFIN
   have hbelow:=(uH HW3)
   have hv4:=(f2.block _ ((uH HI).below hbelow).2.lt (by simp)).trans ((uH HI).below hbelow).2
   have hmi:MapInv w (⟨nm,me,cp,se⟩::(pre.map (fun x:Int×NMac=>x.2.1)).reverse) w4:=⟨⟨_,f1,f3⟩,hv4⟩
   refine ⟨((keepsO_below hbelow).from _).trans (KeepsFrom.of_grownBy f2 (fun j e=>by cases e;omega)),kpa_t (kpa_below hbelow) (fun k o ho hc=>(f2.block k (lt_of_block ho) (fun e=>?_)).trans ho),by simpa using hmi,?_⟩
   ·obtain ⟨D',hD',_⟩:=((uH HI).below hbelow).1
    obtain ⟨es,ck,hm',_⟩:=hD'
    obtain rfl:k=w.heap.size+1:=by simpa using e
    rw [hm'] at ho
    cases ho
    cases hc
   ·exact ((uH HB).trans (hbelow.mono (uH HB).size)).grown f2 (by have:=(uH HB).size;have:=hbelow.size;omega) (fun k e=>by cases e;omega)
 case done=>
  rintro D ys W hD hys ⟨hI,hB⟩ hK
  rw [uH hys,List.reverse_reverse] at hI
  have v0:=hI.2.at 0
  simp at v0
  have HI:=hide hI
  have HB:=hide hB
  clear hI hB
  gi_wp2
  refine ⟨by simp,.inl ⟨_,_,rfl,run_takeDeferred hK,?_⟩⟩
  exact ⟨_,results_tmp rfl _ _ _,rfl,(uH HI).grown (grownBy_putObj' W D _) (fun r e=>by cases e;omega),(uH HB).trans (belowK_b (w:=w) (yJ _) W D _ _ (by omega) hK rfl rfl)⟩
 case stop=>
  rintro D c pre W _ _ h _
  exact h.elim
theorem machines_ex (x:Sls) (s:St) (w:World) (h:MacRow w x.ma x.ml s.ms) (hl:x.ml≤1048576) (hn:∀m ∈ s.ms,m.name.length≤1048576) :
  Calls Tryz.prog 161 #[sv x s] w fun e w'=>∃bm,e=.returned (.map (some bm))∧(w.heap.size≤bm∧∃D,w'.ownsMap Tryz.prog 217 macElem bm s.ms.length D∧KnownM s.ms D)∧Below w.heap.size w w':=
 (machines_any x s w h hl hn).mono fun e w' ⟨h1,h2,h3⟩=>⟨_,h1,⟨by omega,h2.1⟩,h3⟩
end
section
open Go.RowKit Go.Maps
def macFrom (nm:List UInt8):List Mac→Nat→Int
 | [],_=>-1
 | q::t,k=>if q.name=nm then k else macFrom nm t (k+1)
def macAt (l:List Mac) (nm:List UInt8):Int:=macFrom nm l 0
theorem macFrom_step {nm:List UInt8} {l:List Mac} {k:Nat} (h:k<l.length):macFrom nm (l.drop k) k=if l[k].name=nm then (k:Int) else macFrom nm (l.drop (k+1)) (k+1):=by
 rw [List.drop_eq_getElem_cons h,macFrom]
theorem macFrom_end {nm:List UInt8} {l:List Mac} {k:Nat} (h:l.length≤k):macFrom nm (l.drop k) k = -1:=by
 rw [List.drop_of_length_le h];rfl
theorem macFrom_find (nm:List UInt8):∀(l:List Mac) (k:Nat),(findM nm l=none∧macFrom nm l k = -1)∨(∃(j:Nat) (h:j<l.length),findM nm l=some l[j]∧macFrom nm l k=((k+j:Nat):Int))
 | [],k=>.inl ⟨rfl,rfl⟩
 | q::t,k=>by
  by_cases h:q.name=nm
  ·right
   exact ⟨0,by simp,by simp [findM,h],by rw [macFrom,if_pos h];simp⟩
  ·have hf:findM nm (q::t)=findM nm t:=by simp [findM,h]
   rw [hf,macFrom,if_neg h]
   rcases macFrom_find nm t (k+1) with ⟨a,b⟩ | ⟨j,hj,a,b⟩
   ·exact .inl ⟨a,b⟩
   ·exact .inr ⟨j+1,by simpa using hj,by simpa using a,by rw [b];congr 1;omega⟩
theorem macAt_find (nm:List UInt8) (l:List Mac):(findM nm l=none∧macAt l nm = -1)∨(∃(j:Nat) (h:j<l.length),findM nm l=some l[j]∧macAt l nm=(j:Int)):=by
 rcases macFrom_find nm l 0 with h | ⟨j,h,a,b⟩
 ·exact .inl h
 ·exact .inr ⟨j,h,a,by rw [macAt,b];congr 1;omega⟩
theorem l04Machine_any (x:Sls) (s:St) (nm:List UInt8) (w:World) (h:MacRow w x.ma x.ml s.ms) (hl:x.ml≤1048576) :
  Calls Tryz.prog 134 #[sv x s,.string (bs nm)] w fun e w'=>e=.returned (.int .i64 (macAt s.ms nm))∧Below w.heap.size w w':=by
 have HR:=hide h
 have HL:=hide h.1
 have HB0:=hide (yA (yH _ w) (.cells (svc x s) 42))
 have P0:=hide (yD w (svc x s) 42)
 clear h
 obtain ⟨qa,ql,qc,aa,al,ac,ma,ml,mc,ca,cl,cc⟩:=x
 obtain ⟨qs,clock,epoch,next,serial,apps,ms,cs⟩:=s
 simp only at hl HR HL ⊢
 go_enter Tryz.func134,Tryz.ntmps134
 go_wp2
 go_loopw [5] (fun i wr=>∃(k:Nat),k≤ml∧i=.int .i64 k∧Hid (macAt ms nm=macFrom nm (ms.drop k) k)∧Hid (Blk wr w.heap.size (svc ⟨qa,ql,qc,aa,al,ac,ma,ml,mc,ca,cl,cc⟩ ⟨qs,clock,epoch,next,serial,apps,ms,cs⟩) 42)∧Hid (Below w.heap.size w wr)) (fun i _=>ml - (intOf i).toNat)
 case atStart=>exact ⟨0,Nat.zero_le _,rfl,hide (by simp [macAt]),P0,HB0⟩
 case round=>
  obtain ⟨k,hk,rfl,HQ,HP,HB⟩:=hrel
  have p6:=(uH HP).at 6
  simp at p6
  by_cases hlt:k<ml
  ·obtain ⟨b,off,rfl,hq⟩:=((uH HR).below (uH HB)).at hlt
   have hkl:k<ms.length:=by have:=uH HL;omega
   have hst:=hide (macFrom_step (nm:=nm) hkl)
   have c0:=(hq hkl).1
   clear hq
   obtain ⟨s,hs⟩:∃s,ms[k].name=s:=⟨_,rfl⟩
   rw [hs] at c0 hst
   have hbe:=bs_eq s nm
   clear hs hkl
   by_cases he:s=nm
   ·have HE:=hide he
    rw [decide_eq_true he] at hbe
    clear he
    go_wp2
    go_ret
    exact ⟨ret_int (by rw [uH HQ,uH hst,if_pos (uH HE)]),uH HB⟩
   ·have HE:=hide he
    rw [decide_eq_false he] at hbe
    clear he
    go_wp2
    go_roundw
    case rel=>exact ⟨k+1,by omega,by go_num,hide (by rw [uH HQ,uH hst,if_neg (uH HE)]),HP,HB⟩
    case measure=>simp [intOf];omega
  ·go_wp2
   go_ret
   exact ⟨ret_int (by rw [uH HQ,macFrom_end (by have:=uH HL;omega)]),uH HB⟩
end
section
open Go.RowKit
theorem markContS_from (g n c:Nat) (k0:Int) (w:World) (h:Cel w 74 g (c*5)) (hc:n≤c) (hn:n≤1048576) (h0:0<k0) (h1:k0≤1000000000000000) :
  Calls Tryz.prog 51 #[.slice (some ⟨g,0,none⟩) n c,.int .i64 k0] w fun e w'=>e=.returned (.int .i64 (k0+5*(n:Int)))∧Mkd g (g+1) w w':=by
 have HQ0:=hide h
 clear h
 go_enter Tryz.func51,Tryz.ntmps51
 go_wp2
 go_loopw [1,5] (fun s i wr=>∃(j:Nat) (k:Int),j≤n∧i=.int .i64 j∧s=.int .i64 k∧k=k0+5*(j:Int)∧Hid (Cel wr 74 g (c*5))∧Hid (Mkd g (g+1) w wr)) (fun _ i _=>n - (intOf i).toNat)
 case atStart=>exact ⟨0,k0,Nat.zero_le _,rfl,rfl,by omega,HQ0,hide (Mkd.refl _ _ _)⟩
 case round=>
  obtain ⟨j,k,hj,rfl,rfl,hk,HQ,HG⟩:=hrel
  by_cases hlt:j<n
  ·have HK:=hide hk
   have hk0:0<k:=by omega
   have hk1:k≤1000000010000000:=by omega
   clear hk
   obtain ⟨v0,d0⟩:=(uH HQ).cell (j:=j*5) (by omega)
   have f0:=(uH HQ).frozen (j*5)
   have HQs0:=hide ((uH HQ).set g (j*5) (.int .i64 k))
   have HGs0:=hide ((uH HG).sc g (j*5) (.int .i64 k) (yJ _) (by omega))
   obtain ⟨v1,d1⟩:=(uH HQs0).cell (j:=j*5+1) (by omega)
   have f1:=(uH HQs0).frozen (j*5+1)
   have HQs1:=hide ((uH HQs0).set g (j*5+1) (.int .i64 (k+1)))
   have HGs1:=hide ((uH HGs0).sc g (j*5+1) (.int .i64 (k+1)) (yJ _) (by omega))
   go_wp2_with fail
   refine (markText_int (k+1+1) _ (by omega) (by omega)).mono ?_
   rintro e w1 ⟨rfl,hb⟩
   have HQt2:=hide ((uH HQs1).below hb)
   have HGt2:=hide ((uH HGs1).on hb)
   clear hb d0 f0 HQ HG d1 f1 HQs0 HGs0 HQs1 HGs1
   obtain ⟨v2,d2⟩:=(uH HQt2).cell (j:=j*5+2) (by omega)
   have f2:=(uH HQt2).frozen (j*5+2)
   have HQs2:=hide ((uH HQt2).set g (j*5+2) (.string (mk (k+1+1).toNat)))
   have HGs2:=hide ((uH HGt2).sc g (j*5+2) (.string (mk (k+1+1).toNat)) (yJ _) (by omega))
   obtain ⟨v3,d3⟩:=(uH HQs2).cell (j:=j*5+3) (by omega)
   have f3:=(uH HQs2).frozen (j*5+3)
   have HQs3:=hide ((uH HQs2).set g (j*5+3) (.int .i64 (k+1+1+1)))
   have HGs3:=hide ((uH HGs2).sc g (j*5+3) (.int .i64 (k+1+1+1)) (yJ _) (by omega))
   obtain ⟨v4,d4⟩:=(uH HQs3).cell (j:=j*5+4) (by omega)
   have f4:=(uH HQs3).frozen (j*5+4)
   have HQs4:=hide ((uH HQs3).set g (j*5+4) (.int .i64 (k+1+1+1+1)))
   have HGs4:=hide ((uH HGs3).sc g (j*5+4) (.int .i64 (k+1+1+1+1)) (yJ _) (by omega))
   go_wp2
   go_roundw
   case rel=>exact ⟨j+1,k+1+1+1+1+1,by omega,by go_num,by go_num,by have:=uH HK;omega,HQs4,HGs4⟩
   case measure=>simp [intOf];omega
  ·have hjn:j=n:=by omega
   subst hjn
   go_wp2
   go_ret
   exact ⟨ret_int (by omega),uH HG⟩
def AWh (w:World) (B E g n:Nat):Prop:=Cel w 174 g (n*3)∧∀i,i<n→∃b len,w.cell? ⟨g,i*3+2,none⟩=some (.slice (some ⟨b,0,none⟩) len len)∧Cel w 198 b (len*5)∧len≤1048576∧B≤b∧b<E∧b≠g
theorem AWh.below {w w':World} {B E g n:Nat} (h:AWh w B E g n) (hb:Below w.heap.size w w'):AWh w' B E g n:=
 ⟨h.1.below hb,fun i hi=>let ⟨b,len,a,c,d⟩:=h.2 i hi;⟨b,len,cellBel a hb,c.below hb,d⟩⟩
theorem AWh.sc {w:World} {B E g n:Nat} (h:AWh w B E g n) (j:Nat) (v:Value) (hj:∀i,j≠i*3+2):AWh (w.setCell ⟨g,j,none⟩ v) B E g n:=
 ⟨h.1.set _ _ _,fun i hi=>let ⟨b,len,a,c,d⟩:=h.2 i hi;⟨b,len,cellKeep a (hj i),c.set _ _ _,d⟩⟩
theorem AWh.mkd {w w':World} {B E g n b:Nat} (h:AWh w B E g n) (hm:Mkd b (b+1) w w') (hn:b≠g):AWh w' B E g n:=
 ⟨hm.cel _ _ _ h.1,fun i hi=>let ⟨b',len,a,c,d⟩:=h.2 i hi;⟨b',len,(World.cell?_of_block (w:=w) (a:=⟨g,i*3+2,none⟩) (hm.block g h.1.lt (by omega))).trans a,hm.cel _ _ _ c,d⟩⟩
theorem ApplBlk.wh {w:World} {g n:Nat} {l:List Appl} (h:ApplBlk w 174 g n n l) (hl:n=l.length) (hk:∀q ∈ l,q.asks.length≤1048576):AWh w (g+1) w.heap.size g n:=by
 refine ⟨h.cel,fun i hi=>?_⟩
 obtain ⟨arr,h1,h2,h3⟩:=h
 have hil:i<l.length:=by omega
 obtain ⟨_,_,ao,len,cap,e,ho⟩:=h3 i hil hi
 obtain ⟨b,rfl,rfl,hb⟩:=ho.2.2.2
 have hg:=ho.2.2.1 b 0 rfl
 have hlen:=hk l[i] (yM _)
 have:=ho.1.1
 exact ⟨b,cap,by simp [World.cell?,h1,e],hb.cel,by omega,by omega,hb.lt,by omega⟩
theorem AWh.mono {w:World} {B E B' E' g n:Nat} (h:AWh w B E g n) (h1:B'≤B) (h2:E≤E'):AWh w B' E' g n:=
 ⟨h.1,fun i hi=>let ⟨b,len,a,c,d,e,f,k⟩:=h.2 i hi;⟨b,len,a,c,d,by omega,by omega,k⟩⟩
end
end Go.Proofs.YtmkedfdnokmglaaGreat
