/-
  Texts in one: DropM, StLaw, TakG0, TakGD, RcvA.
-/
import Derived.Test.YtjkfappkpopbdaaGreatSackAD
set_option maxRecDepth 100000
set_option maxHeartbeats 16000000
set_option linter.unusedVariables false
set_option linter.unusedSimpArgs false
namespace Go.Proofs.YtjkfappkpopbdaaGreat
section
open Go.RowKit
theorem conts_pair {apps:List Appl} {ms:List Mac}:∀(cs:List Con) (last:Int),contsS apps ms last cs=true→(∀c ∈ cs,last<c.id∧(findAp c.app apps).isSome=true∧(findM c.node ms).isSome=true)∧cs.Pairwise (fun a b=>a.id<b.id)
 | [],last,_=>⟨fun c h=>absurd h (by simp),.nil⟩
 | c::t,last,h=>by
  simp only [contsS,yK,yL] at h
  obtain ⟨h1,_,h3,h4,_,h6⟩:=h
  obtain ⟨i1,i2⟩:=conts_pair t c.id h6
  refine ⟨fun d hd=>?_,List.pairwise_cons.2 ⟨fun d hd=>(i1 d hd).1,i2⟩⟩
  rcases List.mem_cons.1 hd with rfl | hd
  ·exact ⟨h1,h3,h4⟩
  ·exact ⟨by have:=(i1 d hd).1;omega,(i1 d hd).2⟩
theorem apps_pair {qs:List Q} {nx:Int}:∀(l:List Appl) (last:Int),appsFrom qs nx last l=true→(∀a ∈ l,last<a.id)∧l.Pairwise (fun a b=>a.id≠b.id)
 | [],last,_=>⟨fun c h=>absurd h (by simp),.nil⟩
 | a::t,last,h=>by
  simp only [appsFrom,yK,yL] at h
  obtain ⟨h1,_,_,_,h5⟩:=h
  obtain ⟨i1,i2⟩:=apps_pair t a.id h5
  refine ⟨fun d hd=>?_,List.pairwise_cons.2 ⟨fun d hd=>by have:=i1 d hd;omega,i2⟩⟩
  rcases List.mem_cons.1 hd with rfl | hd
  ·exact h1
  ·have:=i1 d hd;omega
theorem machs_pair {ck:Int}:∀(l:List Mac) (last:List UInt8),machsFrom ck last l=true→l.Pairwise (fun a b=>a.name≠b.name)
 | [],last,_=>.nil
 | m::t,last,h=>by
  have h':=h
  simp only [machsFrom,yK,yL] at h
  obtain ⟨_,_,_,_,h5⟩:=h
  refine List.pairwise_cons.2 ⟨fun d hd e=>?_,machs_pair t m.name h5⟩
  have:=machs_above t m.name h5 d hd
  rw [e,bl_irr] at this
  exact absurd this (by simp)
theorem erase_filter {α β:Type} [DecidableEq β] (f:α→β) (v:β):∀(l:List α) (j:Nat) (h:j<l.length),l.Pairwise (fun a b=>f a≠f b)→f l[j]=v→l.eraseIdx j=l.filter (fun a=>!decide (f a=v))
 | a::t,0,_,hp,e=>by
  have hp':=List.pairwise_cons.1 hp
  simp only [List.getElem_cons_zero] at e
  rw [List.eraseIdx_cons_zero,List.filter_cons_of_neg (by simp [e])]
  symm
  rw [List.filter_eq_self]
  intro b hb
  simp
  exact fun h=>hp'.1 b hb (e.trans h.symm)
 | a::t,j+1,h,hp,e=>by
  have hp':=List.pairwise_cons.1 hp
  simp only [List.getElem_cons_succ] at e
  have hj:j<t.length:=by simpa using h
  rw [List.eraseIdx_cons_succ,erase_filter f v t j hj hp'.2 e,List.filter_cons_of_pos]
  simp
  exact fun h=>hp'.1 t[j] (yM hj) (h.trans e.symm)
theorem filter_none {α β:Type} [DecidableEq β] (f:α→β) (v:β) (l:List α) (h:l.find? (fun a=>decide (f a=v))=none):l.filter (fun a=>!decide (f a=v))=l∧l.filter (fun a=>decide (f a=v))=[]:=by
 rw [List.find?_eq_none] at h
 refine ⟨?_,?_⟩
 ·rw [List.filter_eq_self]
  intro a ha
  simpa using h a ha
 ·rw [List.filter_eq_nil_iff]
  exact h
theorem ids_filter (p:Con→Bool) (cs:List Con) (hp:cs.Pairwise (fun a b=>a.id<b.id)):∀c ∈ cs,hasI c.id ((cs.filter p).map (fun c=>c.id))=p c:=by
 intro c hc
 by_cases h:p c=true
 ·rw [h,hasI_iff]
  exact List.mem_map.2 ⟨c,List.mem_filter.2 ⟨hc,h⟩,rfl⟩
 ·have h':p c=false:=by simpa using h
  rw [h',←Bool.not_eq_true,hasI_iff,List.mem_map]
  rintro ⟨d,hd,e⟩
  obtain ⟨hd1,hd2⟩:=List.mem_filter.1 hd
  have:d=c:=by
   obtain ⟨i,hi,rfl⟩:=List.getElem_of_mem hc
   obtain ⟨j,hj,rfl⟩:=List.getElem_of_mem hd1
   have hpw:=List.pairwise_iff_getElem.1 hp
   rcases Nat.lt_trichotomy i j with hij | hij | hij
   ·have:=hpw i j hi hj hij;omega
   ·subst hij;rfl
   ·have:=hpw j i hj hi hij;omega
  rw [this] at hd2
  exact h hd2
theorem okParts {s:St} (h:stateOkV s=true):s.cs.Pairwise (fun a b=>a.id<b.id)∧(∀c ∈ s.cs,(findAp c.app s.apps).isSome=true∧(findM c.node s.ms).isSome=true)∧s.apps.Pairwise (fun a b=>a.id≠b.id)∧s.ms.Pairwise (fun a b=>a.name≠b.name):=by
 simp only [stateOkV,stateOkS,yK,appsOkV,machsOkS] at h
 obtain ⟨_,_,_,_,_,⟨_,h6⟩,⟨h7,_⟩,_,h9⟩:=h
 obtain ⟨c1,c2⟩:=conts_pair _ _ h9
 exact ⟨c2,fun c hc=>(c1 c hc).2,(apps_pair _ _ h6).2,machs_pair _ _ ((machsS_iff _ _).1 h7).1⟩
def idsOf (p:Con→Bool) (cs:List Con):List Int:=(cs.filter p).map (fun c=>c.id)
theorem take_ids {s:St} (h:stateOkV s=true) (p:Con→Bool):takeV s (idsOf p s.cs)=(⟨s.qs,s.clock,s.epoch,s.next,s.serial,s.apps,s.ms,s.cs.filter (fun q=>!p q)⟩,s.cs.filter p):=by
 have hp:=ids_filter p s.cs (okParts h).1
 rw [(takeV_eq s _).1 h]
 have e1:s.cs.filter (fun q=>hasI q.id (idsOf p s.cs))=s.cs.filter p:=List.filter_congr hp
 have e2:s.cs.filter (fun q=>!hasI q.id (idsOf p s.cs))=s.cs.filter (fun q=>!p q):=List.filter_congr (fun c hc=>by rw [idsOf,hp c hc])
 rw [e1,e2]
theorem drop_none {s:St} {app:Int} (h:stateOkV s=true) (hn:apAt s.apps app<0):dropV s app=(s,[]):=by
 rcases apAt_find app s.apps with ⟨h1,_⟩ | ⟨j,hj,_,h2⟩
 ·rw [(dropV_eq s app).1 h]
  have e1:=(filter_none (fun a:Appl=>a.id) app s.apps h1).1
  have hc:∀c ∈ s.cs,¬c.app=app:=fun c hc e=>by
   have:=((okParts h).2.1 c hc).1
   rw [e,h1] at this
   exact absurd this (by simp)
  have e2:s.cs.filter (fun q=>!decide (q.app=app))=s.cs:=List.filter_eq_self.2 (fun c hx=>by simpa using hc c hx)
  have e3:s.cs.filter (fun q=>decide (q.app=app))=[]:=List.filter_eq_nil_iff.2 (fun c hx=>by simpa using hc c hx)
  rw [e1,e2,e3]
 ·omega
theorem drop_some {s:St} {app:Int} (h:stateOkV s=true) {j:Nat} (hn:apAt s.apps app=(j:Int)):j<s.apps.length∧dropV s app=(⟨s.qs,s.clock,s.epoch,s.next,s.serial,s.apps.eraseIdx j,s.ms,(takeV s (idsOf (fun q=>decide (q.app=app)) s.cs)).1.cs⟩,(takeV s (idsOf (fun q=>decide (q.app=app)) s.cs)).2):=by
 rcases apAt_find app s.apps with ⟨_,h1⟩ | ⟨i,hi,h1,h2⟩
 ·omega
 ·obtain rfl:i=j:=by omega
  refine ⟨hi,?_⟩
  have hid:s.apps[i].id=app:=by simpa using List.find?_some h1
  rw [(dropV_eq s app).1 h,take_ids h,erase_filter (fun a:Appl=>a.id) app s.apps i hi (okParts h).2.2.1 hid]
theorem StAns.lay {w w':World} {s:St} {gone:List Con} {e:Ending} (h:StAns w s gone e w'):∃y hs go gn gc,e=.returned (.tuple #[sv y s,.slice go gn gc])∧AnsL w.heap.size w'.heap.size (w'.alloc (.cells (svc y s) 37)) w'.heap.size y s hs go gn gone∧Below w.heap.size w w':=by
 obtain ⟨y,hs,go,gn,gc,rfl,h1,h2,h3,h4⟩:=h
 have hb:=yA (yH _ w') (.cells (svc y s) 37)
 exact ⟨y,hs,go,gn,gc,rfl,⟨yD _ _ _,h1.below hb,h2.1.below hb,h2.2.below hb,h3,yJ _⟩,h4⟩
theorem step_append_own {P:Program} {w:World} {ops:Array Oper} {o:Oper} {a:Act} {K:Act→World→Prop} {Q:Exit→Act→World→Prop} {E:Prop} (hgd:o.guard=none) (s x:Operand) (t:TypeId)
  (ho:o.op=.call { callee:=.builtin .append,args:=#[s,x],argTypes:=#[t,t] })
  (base:Nat) (e:TypeId) (i:TypeInfo) (z:Value) (size bytes:Nat) (ht:P.underlying t=some (.slice e)) (hi:P.info? e=some i) (hz:i.zero=some z)
  (hsize:i.size=size) (hby:i.bytes=bytes) (hzs:z.cells.size=size) (hsz:0<size)
  (v:Value) (n:Nat) (xs:List Value) (hs:a.eval s=v) (hown:w.ownsRow base e size v n xs)
  (ad:Addr) (m c:Nat) (news:List Value) (hx:a.eval x=.slice (some ad) m c) (hl:news.length=m*size) (hnews:∀j u,news[j]? = some u→w.cell? (ad.add j)=some u) (h1:∀u ∈ news,u.oneCell'=true)
  (h63:n+m≤maxLen) (hbytes:(n+m)*bytes≤140737488355328) (hbase:base≤w.heap.size)
  (h:∀v' w',w'.ownsRow base e size v' (n+m) (xs++news)→w.grownBy w' v.ownBlock→(v'=.slice none 0 0↔v=.slice none 0 0∧m=0)→K (a.put o.dst v') w') :
  if Region.wanted o (yielded ops a.tmps)=true then Oper.wp P o a w K Q else E:=by
 have hw:Region.wanted o (yielded ops a.tmps)=true:=by simp [Region.wanted,hgd]
 rw [if_pos hw]
 exact wp_append_own w s x t ho base e i z size bytes ht hi hz hsize hby hzs hsz v n xs hs hown ad m c news hx hl hnews h1 h63 hbytes hbase h
theorem owns_recount {w:World} {B sz n n':Nat} {e:TypeId} {v:Value} {xs xs':List Value} (h:w.ownsRow B e sz v n xs) (hn:n=n') (hx:xs=xs'):w.ownsRow B e sz v n' xs':=by subst hn hx;exact h
theorem owns_some {w:World} {B sz n:Nat} {e:TypeId} {v:Value} {xs:List Value} (h:w.ownsRow B e sz v n xs) (hv:v≠.slice none 0 0):∃g cap,v=.slice (some ⟨g,0,none⟩) n cap:=by
 rcases h.2 with ⟨e,_⟩ | ⟨g,cap,cur,e,_⟩
 ·exact absurd e hv
 ·exact ⟨g,cap,e⟩
theorem heads_erase {w:World}:∀(hs:List AV) (l:List Appl) (j:Nat),Heads w hs l→Heads w (hs.eraseIdx j) (l.eraseIdx j)
 | [],[],j,_=>heads_nil w
 | [],a::s,j,h=>absurd h.1 (by simp)
 | v::t,[],j,h=>absurd h.1 (by simp)
 | v::t,a::s,0,h=>(heads_cons h).2
 | v::t,a::s,j+1,h=>heads_put (heads_cons h).1 (heads_erase t s j (heads_cons h).2)
theorem KHas.erase {B:Nat} {w:World} {hs:List AV} {l:List Appl} (h:KHas B w hs l) (j:Nat):KHas B w (hs.eraseIdx j) (l.eraseIdx j):=
 ⟨heads_erase hs l j h.heads,fun v hv=>h.own v (List.mem_of_mem_eraseIdx hv),h.apart.sublist (List.eraseIdx_sublist _ _)⟩
theorem specDrop_any (x:Sls) (s:St) (hs0:List AV) (app:Int) (w:World) (h:SRow w x s) (hav:AVRow w x.aa x.al hs0) (hhd:Heads w hs0 s.apps) (hss:SSome x hs0) (hf:FitSt s) :
  Calls Tryz.prog 80 #[sv x s,.int .i64 app] w (StAns w (dropV s app).1 (dropV s app).2):=by
 have hlc:x.cl≤1048576:=by have:=hf.2.2.2.1;have:=h.2.2.2.1;omega
 have hla:x.al≤1048576:=by have:=hf.2.1.1;have:=h.2.1.1;omega
 have hlm:x.ml≤1048576:=by have:=hf.2.2.1.1;have:=h.2.2.1.1;omega
 have hlms:s.ms.length≤1048576:=hf.2.2.1.1
 have hlap:s.apps.length≤1048576:=hf.2.1.1
 obtain ⟨o,ho⟩:∃o,stateOkV s=o:=⟨_,rfl⟩
 have HO:=hide ho
 have HV:=hide (dropV_eq s app)
 have hb0:=yA (yA (yH _ w) (.cells (svc x s) 37)) (.cells #[.slice none 0 0,.int .i64 0,.int .i64 0,.int .i64 0,.int .i64 0,.slice none 0 0,.slice none 0 0,.slice none 0 0] 37)
 have P3:=hide ((yD w (svc x s) 37).al (.cells #[.slice none 0 0,.int .i64 0,.int .i64 0,.int .i64 0,.int .i64 0,.slice none 0 0,.slice none 0 0,.slice none 0 0] 37))
 have R3:=hide (show Blk _ (w.heap.size+1) #[.slice none 0 0,.int .i64 0,.int .i64 0,.int .i64 0,.int .i64 0,.slice none 0 0,.slice none 0 0,.slice none 0 0] 37 by have:=yD (w.alloc (.cells (svc x s) 37)) #[.slice none 0 0,.int .i64 0,.int .i64 0,.int .i64 0,.int .i64 0,.slice none 0 0,.slice none 0 0,.slice none 0 0] 37;rwa [yE] at this)
 have B3:=hide hb0
 have CL:=hide (fun wx (hb:Below w.heap.size w wx)=>l04Copy_any x s hs0 wx (h.below hb) (hav.below hb) (hhd.below hb) hss hf)
 have CO:=hide (fun wx (hb:Below w.heap.size w wx)=>by have:=specStateOk_any x s wx (h.below hb) hf;rw [ho] at this;exact this)
 obtain ⟨fi,hfi⟩:∃i,apAt s.apps app=i:=⟨_,rfl⟩
 have HFI:=hide hfi
 have CA:=hide (fun wx (hb:Below w.heap.size w wx)=>by have:=l04App_any x s app wx (h.2.1.below hb) hla;rw [hfi] at this;exact this)
 have HTI:=hide (fun (ho:stateOkV s=true)=>take_ids ho (fun q=>decide (q.app=app)))
 have CT:=hide (fun wx (io:Option Addr) (il ic:Nat) (hb:Below w.heap.size w wx) (hi:NRow wx io il (idsOf (fun q=>decide (q.app=app)) s.cs)) (hil:il≤1048576)=>specTakeBack_any x s hs0 io il ic (idsOf (fun q=>decide (q.app=app)) s.cs) wx (h.below hb) (hav.below hb) (hhd.below hb) hss hf hi hil)
 have HSM:=hide (fun (ho:stateOkV s=true) (j:Nat) (e:apAt s.apps app=(j:Int))=>drop_some ho e)
 have HNO:=hide (fun (ho:stateOkV s=true) (e:apAt s.apps app<0)=>drop_none ho e)
 obtain ⟨qa,ql,qc,aa,al,ac,ma,ml,mc,ca,cl,cc⟩:=x
 obtain ⟨qs,clock,epoch,next,serial,apps,ms,cs⟩:=s
 simp only at *
 have RC:=hide (show ConRow w ca cl cs from h.2.2.2)
 have HLC:=hide (show cl=cs.length from h.2.2.2.1)
 clear h hb0 hf ho hav hhd hss hfi
 go_enter Tryz.func80,Tryz.ntmps80
 have B3a:=B3
 have P3a:=P3
 have R3a:=R3
 clear B3 P3 R3
 obtain ⟨a0,a1,a2,a3,a4,a5,a6,a7⟩:=zq (uH P3a)
 go_wp2_with fail
 refine (uH CO _ (uH B3a)).mono ?_
 rintro e w4a ⟨rfl,hb⟩
 have B4a:=hide (yB (uH B3a) hb)
 have P4a:=hide ((uH P3a).below hb)
 have R4a:=hide ((uH R3a).below hb)
 clear hb B3a P3a R3a a0 a1 a2 a3 a4 a5 a6 a7 CO
 cases o
 case false=>
  have B4:=B4a
  have P4:=P4a
  have R4:=R4a
  clear B4a P4a R4a
  obtain ⟨a0,a1,a2,a3,a4,a5,a6,a7⟩:=zq (uH P4)
  go_wp2_with fail
  refine (uH CL _ (uH B4)).mono ?_
  rintro e w5 ⟨y,hs,rfl,ha,hb⟩
  obtain ⟨yqa,yql,yqc,yaa,yal,yac,yma,yml,ymc,yca,ycl,ycc⟩:=y
  have b5:=yA hb (.cells #[] 150)
  have hz4:w.heap.size+2≤w4a.heap.size:=by have:=(uH R4).lt;omega
  have H5:=hide (((ha.has (yJ _)).base hz4).below (yA (yH _ w5) (.cells #[] 150)))
  have R5:=hide (((uH R4).below hb).al (.cells #[] 150))
  have B5:=hide (yB (uH B4) b5)
  obtain ⟨g5,hg5⟩:∃g,w5.heap.size=g:=⟨_,rfl⟩
  have HG5:=hide hg5
  clear ha hb b5 a0 a1 a2 a3 a4 a5 a6 a7 CL hg5
  obtain ⟨c0,c1,c2,c3,c4,c5,c6,c7⟩:=zq (uH R5)
  have f0:=(uH R5).f 0;have f1:=(uH R5).f 1;have f2:=(uH R5).f 2;have f3:=(uH R5).f 3;have f4:=(uH R5).f 4;have f5:=(uH R5).f 5;have f6:=(uH R5).f 6;have f7:=(uH R5).f 7
  obtain ⟨w5a,hw5a⟩:∃w',w5.alloc (.cells #[] 150)=w':=⟨_,rfl⟩
  rw [hw5a] at H5 R5 B5 c0 c1 c2 c3 c4 c5 c6 c7 f0 f1 f2 f3 f4 f5 f6 f7
  go_wp2
  have RR:=hide (show Blk ((((((((w5a.setCell ⟨w.heap.size+1,0,none⟩ (.slice yqa yql yqc)).setCell ⟨w.heap.size+1,1,none⟩ (.int .i64 clock)).setCell ⟨w.heap.size+1,2,none⟩ (.int .i64 epoch)).setCell ⟨w.heap.size+1,3,none⟩ (.int .i64 next)).setCell ⟨w.heap.size+1,4,none⟩ (.int .i64 serial)).setCell ⟨w.heap.size+1,5,none⟩ (.slice yaa yal yac)).setCell ⟨w.heap.size+1,6,none⟩ (.slice yma yml ymc)).setCell ⟨w.heap.size+1,7,none⟩ (.slice yca ycl ycc)) (w.heap.size+1) #[.slice yqa yql yqc,.int .i64 clock,.int .i64 epoch,.int .i64 next,.int .i64 serial,.slice yaa yal yac,.slice yma yml ymc,.slice yca ycl ycc] 37 from (((((((((uH R5).set 0 (.slice yqa yql yqc)).set 1 (.int .i64 clock)).set 2 (.int .i64 epoch)).set 3 (.int .i64 next)).set 4 (.int .i64 serial)).set 5 (.slice yaa yal yac)).set 6 (.slice yma yml ymc)).set 7 (.slice yca ycl ycc)))
  have H9:=hide (((((((((uH H5).sc (k:=w.heap.size+1) (j:=0) (v:=.slice yqa yql yqc) (by omega)).sc (k:=w.heap.size+1) (j:=1) (v:=.int .i64 clock) (by omega)).sc (k:=w.heap.size+1) (j:=2) (v:=.int .i64 epoch) (by omega)).sc (k:=w.heap.size+1) (j:=3) (v:=.int .i64 next) (by omega)).sc (k:=w.heap.size+1) (j:=4) (v:=.int .i64 serial) (by omega)).sc (k:=w.heap.size+1) (j:=5) (v:=.slice yaa yal yac) (by omega)).sc (k:=w.heap.size+1) (j:=6) (v:=.slice yma yml ymc) (by omega)).sc (k:=w.heap.size+1) (j:=7) (v:=.slice yca ycl ycc) (by omega))
  have B9:=hide (yC (yC (yC (yC (yC (yC (yC (yC (uH B5) (w.heap.size+1) 0 (.slice yqa yql yqc) (by omega)) (w.heap.size+1) 1 (.int .i64 clock) (by omega)) (w.heap.size+1) 2 (.int .i64 epoch) (by omega)) (w.heap.size+1) 3 (.int .i64 next) (by omega)) (w.heap.size+1) 4 (.int .i64 serial) (by omega)) (w.heap.size+1) 5 (.slice yaa yal yac) (by omega)) (w.heap.size+1) 6 (.slice yma yml ymc) (by omega)) (w.heap.size+1) 7 (.slice yca ycl ycc) (by omega))
  generalize ((((((((w5a.setCell ⟨w.heap.size+1,0,none⟩ (.slice yqa yql yqc)).setCell ⟨w.heap.size+1,1,none⟩ (.int .i64 clock)).setCell ⟨w.heap.size+1,2,none⟩ (.int .i64 epoch)).setCell ⟨w.heap.size+1,3,none⟩ (.int .i64 next)).setCell ⟨w.heap.size+1,4,none⟩ (.int .i64 serial)).setCell ⟨w.heap.size+1,5,none⟩ (.slice yaa yal yac)).setCell ⟨w.heap.size+1,6,none⟩ (.slice yma yml ymc)).setCell ⟨w.heap.size+1,7,none⟩ (.slice yca ycl ycc))=W9 at RR H9 B9 ⊢
  obtain ⟨z0,z1,z2,z3,z4,z5,z6,z7⟩:=zq (uH RR)
  refine bodyPost_ret (v:=.tuple #[.agg #[.slice yqa yql yqc,.int .i64 clock,.int .i64 epoch,.int .i64 next,.int .i64 serial,.slice yaa yal yac,.slice yma yml ymc,.slice yca ycl ycc],.slice (some ⟨w5.heap.size,0,none⟩) 0 0]) (by simp [results,Tryz.results80,go_sem,z0,z1,z2,z3,z4,z5,z6,z7]) rfl ?_
  rw [(uH HV).2 (uH HO)]
  exact ⟨⟨yqa,yql,yqc,yaa,yal,yac,yma,yml,ymc,yca,ycl,ycc⟩,hs,some ⟨w5.heap.size,0,none⟩,0,0,rfl,(uH H9).ans.mono (by omega) (yJ _),⟨⟨rfl,.inl rfl⟩,.inl rfl⟩,fun k hk=>absurd rfl hk.1,uH B9⟩
 obtain ⟨a0,a1,a2,a3,a4,a5,a6,a7⟩:=zq (uH P4a)
 go_wp2_with fail
 refine (uH CA _ (uH B4a)).mono ?_
 rintro e w4 ⟨rfl,hb⟩
 have B4:=hide (yB (uH B4a) hb)
 have P4:=hide ((uH P4a).below hb)
 have R4:=hide ((uH R4a).below hb)
 clear hb B4a P4a R4a a0 a1 a2 a3 a4 a5 a6 a7
 by_cases hfn:fi<0
 ·have HFN:=hide (show apAt apps app<0 by rw [uH HFI];exact hfn)
  obtain ⟨a0,a1,a2,a3,a4,a5,a6,a7⟩:=zq (uH P4)
  go_wp2_with fail
  refine (uH CL _ (uH B4)).mono ?_
  rintro e w5 ⟨y,hs,rfl,ha,hb⟩
  obtain ⟨yqa,yql,yqc,yaa,yal,yac,yma,yml,ymc,yca,ycl,ycc⟩:=y
  have b5:=yA hb (.cells #[] 150)
  have hz4:w.heap.size+2≤w4.heap.size:=by have:=(uH R4).lt;omega
  have H5:=hide (((ha.has (yJ _)).base hz4).below (yA (yH _ w5) (.cells #[] 150)))
  have R5:=hide (((uH R4).below hb).al (.cells #[] 150))
  have B5:=hide (yB (uH B4) b5)
  obtain ⟨g5,hg5⟩:∃g,w5.heap.size=g:=⟨_,rfl⟩
  have HG5:=hide hg5
  clear ha hb b5 a0 a1 a2 a3 a4 a5 a6 a7 CL hg5
  obtain ⟨c0,c1,c2,c3,c4,c5,c6,c7⟩:=zq (uH R5)
  have f0:=(uH R5).f 0;have f1:=(uH R5).f 1;have f2:=(uH R5).f 2;have f3:=(uH R5).f 3;have f4:=(uH R5).f 4;have f5:=(uH R5).f 5;have f6:=(uH R5).f 6;have f7:=(uH R5).f 7
  obtain ⟨w5a,hw5a⟩:∃w',w5.alloc (.cells #[] 150)=w':=⟨_,rfl⟩
  rw [hw5a] at H5 R5 B5 c0 c1 c2 c3 c4 c5 c6 c7 f0 f1 f2 f3 f4 f5 f6 f7
  go_wp2
  have RR:=hide (show Blk ((((((((w5a.setCell ⟨w.heap.size+1,0,none⟩ (.slice yqa yql yqc)).setCell ⟨w.heap.size+1,1,none⟩ (.int .i64 clock)).setCell ⟨w.heap.size+1,2,none⟩ (.int .i64 epoch)).setCell ⟨w.heap.size+1,3,none⟩ (.int .i64 next)).setCell ⟨w.heap.size+1,4,none⟩ (.int .i64 serial)).setCell ⟨w.heap.size+1,5,none⟩ (.slice yaa yal yac)).setCell ⟨w.heap.size+1,6,none⟩ (.slice yma yml ymc)).setCell ⟨w.heap.size+1,7,none⟩ (.slice yca ycl ycc)) (w.heap.size+1) #[.slice yqa yql yqc,.int .i64 clock,.int .i64 epoch,.int .i64 next,.int .i64 serial,.slice yaa yal yac,.slice yma yml ymc,.slice yca ycl ycc] 37 from (((((((((uH R5).set 0 (.slice yqa yql yqc)).set 1 (.int .i64 clock)).set 2 (.int .i64 epoch)).set 3 (.int .i64 next)).set 4 (.int .i64 serial)).set 5 (.slice yaa yal yac)).set 6 (.slice yma yml ymc)).set 7 (.slice yca ycl ycc)))
  have H9:=hide (((((((((uH H5).sc (k:=w.heap.size+1) (j:=0) (v:=.slice yqa yql yqc) (by omega)).sc (k:=w.heap.size+1) (j:=1) (v:=.int .i64 clock) (by omega)).sc (k:=w.heap.size+1) (j:=2) (v:=.int .i64 epoch) (by omega)).sc (k:=w.heap.size+1) (j:=3) (v:=.int .i64 next) (by omega)).sc (k:=w.heap.size+1) (j:=4) (v:=.int .i64 serial) (by omega)).sc (k:=w.heap.size+1) (j:=5) (v:=.slice yaa yal yac) (by omega)).sc (k:=w.heap.size+1) (j:=6) (v:=.slice yma yml ymc) (by omega)).sc (k:=w.heap.size+1) (j:=7) (v:=.slice yca ycl ycc) (by omega))
  have B9:=hide (yC (yC (yC (yC (yC (yC (yC (yC (uH B5) (w.heap.size+1) 0 (.slice yqa yql yqc) (by omega)) (w.heap.size+1) 1 (.int .i64 clock) (by omega)) (w.heap.size+1) 2 (.int .i64 epoch) (by omega)) (w.heap.size+1) 3 (.int .i64 next) (by omega)) (w.heap.size+1) 4 (.int .i64 serial) (by omega)) (w.heap.size+1) 5 (.slice yaa yal yac) (by omega)) (w.heap.size+1) 6 (.slice yma yml ymc) (by omega)) (w.heap.size+1) 7 (.slice yca ycl ycc) (by omega))
  generalize ((((((((w5a.setCell ⟨w.heap.size+1,0,none⟩ (.slice yqa yql yqc)).setCell ⟨w.heap.size+1,1,none⟩ (.int .i64 clock)).setCell ⟨w.heap.size+1,2,none⟩ (.int .i64 epoch)).setCell ⟨w.heap.size+1,3,none⟩ (.int .i64 next)).setCell ⟨w.heap.size+1,4,none⟩ (.int .i64 serial)).setCell ⟨w.heap.size+1,5,none⟩ (.slice yaa yal yac)).setCell ⟨w.heap.size+1,6,none⟩ (.slice yma yml ymc)).setCell ⟨w.heap.size+1,7,none⟩ (.slice yca ycl ycc))=W9 at RR H9 B9 ⊢
  obtain ⟨z0,z1,z2,z3,z4,z5,z6,z7⟩:=zq (uH RR)
  refine bodyPost_ret (v:=.tuple #[.agg #[.slice yqa yql yqc,.int .i64 clock,.int .i64 epoch,.int .i64 next,.int .i64 serial,.slice yaa yal yac,.slice yma yml ymc,.slice yca ycl ycc],.slice (some ⟨w5.heap.size,0,none⟩) 0 0]) (by simp [results,Tryz.results80,go_sem,z0,z1,z2,z3,z4,z5,z6,z7]) rfl ?_
  rw [drop_none (uH HO) (uH HFN)]
  exact ⟨⟨yqa,yql,yqc,yaa,yal,yac,yma,yml,ymc,yca,ycl,ycc⟩,hs,some ⟨w5.heap.size,0,none⟩,0,0,rfl,(uH H9).ans.mono (by omega) (yJ _),⟨⟨rfl,.inl rfl⟩,.inl rfl⟩,fun k hk=>absurd rfl hk.1,uH B9⟩
 obtain ⟨j,rfl⟩:=Int.eq_ofNat_of_zero_le (show 0≤fi by omega)
 obtain ⟨hjl,hdr⟩:=uH HSM (uH HO) j (uH HFI)
 have HJL:=hide hjl
 have HDR:=hide hdr
 try simp only at HJL HDR
 have HT:=hide (uH HTI (uH HO))
 try simp only at HT
 clear hjl hdr HSM HNO HTI CL HV
 have hb1:=yA (yH _ w4) (.cells #[] 3)
 have L5:=hide (iown_empty w4)
 have P5:=hide ((uH P4).below hb1)
 have R5:=hide ((uH R4).below hb1)
 have B5:=hide (yB (uH B4) hb1)
 have hz4:w.heap.size+2≤w4.heap.size:=by have:=(uH R4).lt;omega
 obtain ⟨b,hbb⟩:∃b,w4.heap.size=b:=⟨_,rfl⟩
 have HBB:=hide hbb
 rw [hbb] at L5 hz4
 have hjn0:¬((j:Int)<0):=by omega
 clear hb1 P4 R4 B4 hbb hfn
 go_upto_region 4 with fail
 rw [uH HBB]
 have hz5:b<(w4.alloc (.cells #[] 3)).heap.size:=by rw [yE,uH HBB];omega
 generalize w4.alloc (.cells #[] 3)=w5 at L5 P5 R5 B5 hz5 ⊢
 go_wp2
 go_loopw [6,7] (fun v i wr=>∃(k:Nat),k≤cl∧i=.int .i64 k∧Hid (IOwn b wr v (idsOf (fun q=>decide (q.app=app)) (cs.take k)))∧Hid (Blk wr w.heap.size #[.slice qa ql qc,.int .i64 clock,.int .i64 epoch,.int .i64 next,.int .i64 serial,.slice aa al ac,.slice ma ml mc,.slice ca cl cc] 37∧Blk wr (w.heap.size+1) #[.slice none 0 0,.int .i64 0,.int .i64 0,.int .i64 0,.int .i64 0,.slice none 0 0,.slice none 0 0,.slice none 0 0] 37)∧Hid (Below w.heap.size w wr)∧b<wr.heap.size) (fun _ i _=>cl - (intOf i).toNat)
 case atStart=>exact ⟨0,Nat.zero_le _,rfl,hide (by simpa [idsOf] using uH L5),hide ⟨uH P5,uH R5⟩,B5,hz5⟩
 case round=>
  clear L5 P5 R5 B5 hz5
  obtain ⟨k,hk,rfl,HI,HBK,HB,hzr⟩:=hrel
  have p7:=(uH HBK).1.at 7
  simp at p7
  by_cases hlt:k<cl
  ·obtain ⟨b',off,rfl,hq⟩:=((uH RC).below (uH HB)).at hlt
   have hkl:k<cs.length:=by have:=uH HLC;omega
   obtain ⟨c0,c1,c2,c3,c4⟩:=hq hkl
   have htk:cs.take (k+1)=cs.take k++[cs[k]]:=List.take_succ_eq_append_getElem hkl
   obtain ⟨q,hqe⟩:∃q,cs[k]=q:=⟨_,rfl⟩
   rw [hqe] at c0 c1 c2 c3 c4 htk
   obtain ⟨id,ap,nd,me,cp⟩:=q
   simp only at c0 c1 c2 c3 c4
   have hst:idsOf (fun q=>decide (q.app=app)) (cs.take (k+1))=idsOf (fun q=>decide (q.app=app)) (cs.take k)++(if decide (ap=app)=true then [id] else []):=by
    rw [htk,idsOf,idsOf,List.filter_append,List.map_append]
    cases hc:decide (ap=app)<;>simp [hc]
   have hll:(idsOf (fun q=>decide (q.app=app)) (cs.take k)).length≤1048576:=by
    rw [idsOf,List.length_map]
    have:=List.length_filter_le (fun q=>decide (q.app=app)) (cs.take k)
    rw [List.length_take] at this
    omega
   obtain ⟨IL,hIL⟩:∃l,idsOf (fun q=>decide (q.app=app)) (cs.take k)=l:=⟨_,rfl⟩
   rw [hIL] at HI hst hll
   have j0:(0:Int)≤k:=by omega
   have j1:(k:Int)<cl:=by omega
   clear hq hqe hkl htk hIL
   cases hpq:decide (ap=app) with
   | true=>
    rw [hpq,if_pos rfl] at hst
    have HST:=hide hst
    have hcmp:(ap==app)=true:=by simpa using hpq
    clear hpq hst
    obtain ⟨i0,hi,hz0,hz1,hz2⟩:=info_parts Tryz.infoI
    have hown:=uH HI
    unfold IOwn at hown
    have HOW:=hide hown
    go_wp2_with (at_builtin;refine wpList_append_own _ rfl _ _ 72 rfl b 3 i0 (.int .i64 0) 1 8 Tryz.underlying72 hi hz0 hz1 hz2 rfl (by decide) _ _ _ rfl (hown.alloc _) ⟨wr.heap.size,0,none⟩ 1 1 [.int .i64 id] rfl rfl ?c1 ?c2 ?c3 ?c4 ?c5 ?_)
    case c1=>exact World.news_of_block (yD wr #[.int .i64 id] 3)
    case c2=>intro u hu;simp at hu;subst hu;rfl
    case c3=>unfold maxLen;omega
    case c4=>omega
    case c5=>simp;omega
    intro v' w3 hown' hgrow _
    have hbx:=yA (yH _ wr) (.cells #[.int .i64 id] 3)
    have hrow:∀k,_=some k→b≤k∧∃N,Cel (wr.alloc (.cells #[.int .i64 id] 3)) 3 k N:=fun k e=>by
     obtain ⟨N,hc⟩:=owns_cel (uH HOW) k e
     exact ⟨(World.ownsRow.lt (uH HOW) k e).1,N,hc.below hbx⟩
    have N1:=hide (show IOwn b w3 v' (IL++[id]) by
     unfold IOwn
     rw [List.length_append,icells,List.map_append]
     exact hown')
    have N2:=hide (show Blk w3 w.heap.size _ 37∧Blk w3 (w.heap.size+1) #[.slice none 0 0,.int .i64 0,.int .i64 0,.int .i64 0,.int .i64 0,.slice none 0 0,.slice none 0 0,.slice none 0 0] 37 from ⟨((uH HBK).1.below hbx).grown hgrow (fun k e=>(hrow k e).2) (by decide),((uH HBK).2.below hbx).grown hgrow (fun k e=>(hrow k e).2) (by decide)⟩)
    have N3:=hide (show Below w.heap.size w w3 from (yB (uH HB) hbx).grown hgrow (by have:=(uH HB).size;simp;omega) (fun k e=>by have:=(hrow k e).1;omega))
    have N4:=hide (show b<w3.heap.size by have h1:=hbx.size;have h2:=hgrow.size;omega)
    clear hown hown' hgrow hbx hrow c0 c1 c2 c3 c4 HBK HB HI
    go_wp2
    go_roundw
    case rel=>exact ⟨k+1,by omega,by go_num,hide (by rw [uH HST];exact uH N1),N2,N3,by have:=(uH N3).size;have:=uH N4;omega⟩
    case measure=>simp [intOf];omega
   | false=>
    rw [hpq,if_neg (by simp),List.append_nil] at hst
    have HST:=hide hst
    have hcmp:(ap==app)=false:=by simpa using hpq
    clear hpq hst
    go_wp2
    go_roundw
    case rel=>exact ⟨k+1,by omega,by go_num,hide (by rw [uH HST];exact uH HI),HBK,HB,hzr⟩
    case measure=>simp [intOf];omega
  ·obtain rfl:k=cl:=by omega
   have htk:cs.take k=cs:=List.take_of_length_le (by have:=uH HLC;omega)
   rw [htk] at HI
   obtain ⟨io,ic,rfl,hir⟩:=iown_row (uH HI)
   have hil2:(idsOf (fun q=>decide (q.app=app)) cs).length≤1048576:=by
    rw [idsOf,List.length_map]
    have:=List.length_filter_le (fun q=>decide (q.app=app)) cs
    have:=uH HLC
    omega
   have ct:=uH CT wr io _ ic (uH HB) hir hil2
   rw [uH HT] at ct
   simp only at ct
   have hdr:=uH HDR
   rw [uH HT] at hdr
   simp only at hdr
   obtain ⟨il,hil⟩:∃n,(idsOf (fun q=>decide (q.app=app)) cs).length=n:=⟨_,rfl⟩
   obtain ⟨CF,hCF⟩:∃l,cs.filter (fun q=>!(fun q=>decide (q.app=app)) q)=l:=⟨_,rfl⟩
   obtain ⟨CG,hCG⟩:∃l,cs.filter (fun q=>decide (q.app=app))=l:=⟨_,rfl⟩
   simp only at hCF
   rw [hCF,hCG] at ct hdr
   rw [hil] at ct ⊢
   have CTT:=hide ct
   have HDR2:=hide hdr
   have j1:¬(k:Int)<k:=by omega
   have hzr2:w.heap.size+2≤wr.heap.size:=by have:=(uH HBK).2.lt;omega
   have a0:=(uH HBK).1.at 0;have a1:=(uH HBK).1.at 1;have a2:=(uH HBK).1.at 2;have a3:=(uH HBK).1.at 3;have a4:=(uH HBK).1.at 4;have a5:=(uH HBK).1.at 5;have a6:=(uH HBK).1.at 6;have a7:=(uH HBK).1.at 7
   simp at a0 a1 a2 a3 a4 a5 a6 a7
   clear ct hdr hir htk hlt hil hCF hCG hil2 HI p7 HDR CT
   go_wp2_with fail
   refine (uH CTT).mono ?_
   rintro e w6 ⟨y,hs,go,gn,gc,rfl,ha,hg,hap,hb⟩
   obtain ⟨yqa,yql,yqc,yaa,yal,yac,yma,yml,ymc,yca,ycl,ycc⟩:=y
   have bx:=yA (yH _ w6) (.cells #[.slice yqa yql yqc,.int .i64 clock,.int .i64 epoch,.int .i64 next,.int .i64 serial,.slice yaa yal yac,.slice yma yml ymc,.slice yca ycl ycc] 37)
   have HH7:=hide (((ha.has (yJ _)).base hzr2).below bx)
   have HG7:=hide ((hg.base hzr2).below bx)
   have HAP:=hide hap
   obtain ⟨b6,hb6⟩:∃b,w6.heap.size=b:=⟨_,rfl⟩
   have HB6:=hide hb6
   have HQ7:=hide (show Blk (w6.alloc (.cells #[.slice yqa yql yqc,.int .i64 clock,.int .i64 epoch,.int .i64 next,.int .i64 serial,.slice yaa yal yac,.slice yma yml ymc,.slice yca ycl ycc] 37)) w.heap.size _ 37∧Blk (w6.alloc (.cells #[.slice yqa yql yqc,.int .i64 clock,.int .i64 epoch,.int .i64 next,.int .i64 serial,.slice yaa yal yac,.slice yma yml ymc,.slice yca ycl ycc] 37)) (w.heap.size+1) #[.slice none 0 0,.int .i64 0,.int .i64 0,.int .i64 0,.int .i64 0,.slice none 0 0,.slice none 0 0,.slice none 0 0] 37∧Blk (w6.alloc (.cells #[.slice yqa yql yqc,.int .i64 clock,.int .i64 epoch,.int .i64 next,.int .i64 serial,.slice yaa yal yac,.slice yma yml ymc,.slice yca ycl ycc] 37)) b6 #[.slice yqa yql yqc,.int .i64 clock,.int .i64 epoch,.int .i64 next,.int .i64 serial,.slice yaa yal yac,.slice yma yml ymc,.slice yca ycl ycc] 37∧Below w.heap.size w (w6.alloc (.cells #[.slice yqa yql yqc,.int .i64 clock,.int .i64 epoch,.int .i64 next,.int .i64 serial,.slice yaa yal yac,.slice yma yml ymc,.slice yca ycl ycc] 37)) from ⟨((uH HBK).1.below hb).below bx,((uH HBK).2.below hb).below bx,by have:=yD w6 #[.slice yqa yql yqc,.int .i64 clock,.int .i64 epoch,.int .i64 next,.int .i64 serial,.slice yaa yal yac,.slice yma yml ymc,.slice yca ycl ycc] 37;rwa [hb6] at this,yB (yB (uH HB) hb) bx⟩)
   have hb62:w.heap.size+2≤b6:=by have:=hb.size;omega
   clear ha hg hap hb bx hb6 HBK HB CTT a0 a1 a2 a3 a4 a5 a6 a7 hzr hzr2
   go_upto_region 10 with fail
   rw [uH HB6]
   generalize w6.alloc (.cells #[.slice yqa yql yqc,.int .i64 clock,.int .i64 epoch,.int .i64 next,.int .i64 serial,.slice yaa yal yac,.slice yma yml ymc,.slice yca ycl ycc] 37)=w7a at HH7 HG7 HQ7 ⊢
   have P7:=hide (uH HQ7).1
   obtain ⟨a0,a1,a2,a3,a4,a5,a6,a7⟩:=zq (uH P7)
   go_wp2_with fail
   refine (uH CA _ (uH HQ7).2.2.2).mono ?_
   rintro e w7a2 ⟨rfl,hb⟩
   have HQ8:=hide (show Blk w7a2 w.heap.size _ 37∧Blk w7a2 (w.heap.size+1) #[.slice none 0 0,.int .i64 0,.int .i64 0,.int .i64 0,.int .i64 0,.slice none 0 0,.slice none 0 0,.slice none 0 0] 37∧Blk w7a2 b6 _ 37∧Below w.heap.size w w7a2 from ⟨(uH HQ7).1.below hb,(uH HQ7).2.1.below hb,(uH HQ7).2.2.1.below hb,yB (uH HQ7).2.2.2 hb⟩)
   have HH8:=hide ((uH HH7).below hb)
   have HG8:=hide ((uH HG7).below hb)
   clear hb HQ7 HH7 HG7 P7 a0 a1 a2 a3 a4 a5 a6 a7
   have HQ7:=HQ8
   have HH7:=HH8
   have HG7:=HG8
   clear HQ8 HH8 HG8
   go_upto_region 11 with fail
   have hjl:=uH HJL
   have hln:yal=hs.length:=(uH HH7).p.1.1
   have hjn:j<yal:=by have h2:hs.length=apps.length:=(uH HH7).k.heads.1;omega
   have hcap:yal≤yac:=(uH HH7).cap.a
   have hnl:yal≤1048576:=by have h2:hs.length=apps.length:=(uH HH7).k.heads.1;omega
   have hjz:j<hs.length:=by omega
   obtain ⟨g,M,rfl,hgB,hgE,hbk⟩:=(uH HH7).p.blk hjn
   have SRCR:=hide (uH HH7).p.1
   have hbz:=yA (yH _ w7a2) (.cells #[] 139)
   obtain ⟨NC1,hNC1⟩:∃c,pcells (hs.take j)=c:=⟨_,rfl⟩
   obtain ⟨NC2,hNC2⟩:∃c,pcells (hs.drop (j+1))=c:=⟨_,rfl⟩
   have HL1:=hide (show NC1.length=j*3 by rw [←hNC1,pcells_len,List.length_take,Nat.min_eq_left (by omega)])
   have HL2:=hide (show NC2.length=(yal - (j+1))*3 by rw [←hNC2,pcells_len,List.length_drop,hln])
   have HONE1:=hide (show ∀u ∈ NC1,u.oneCell'=true by rw [←hNC1];exact pcells_one _)
   have HONE2:=hide (show ∀u ∈ NC2,u.oneCell'=true by rw [←hNC2];exact pcells_one _)
   have NEWS1:=hide (show ∀wx:World,Below w7a2.heap.size w7a2 wx→∀i u,NC1[i]? = some u→wx.cell? (Addr.add ⟨g,0,none⟩ i)=some u from fun wx hb i u hu=>by
    rw [Lib.add_plain]
    refine pcells_row ((uH SRCR).below hb) i u ?_
    rw [←hNC1,←pcells_take _ _ (by omega)] at hu
    have hlt:=(List.getElem?_eq_some_iff.1 hu).1
    rw [List.length_take] at hlt
    rw [List.getElem?_take_of_lt (by omega)] at hu
    exact hu)
   have NEWS2:=hide (show ∀wx:World,Below w7a2.heap.size w7a2 wx→∀i u,NC2[i]? = some u→wx.cell? (Addr.add ⟨g,(j+1)*3,none⟩ i)=some u from fun wx hb i u hu=>by
    rw [Lib.add_plain]
    have:=pcells_row ((uH SRCR).below hb) ((j+1)*3+i) u (by rw [←hNC2,←pcells_drop _ _ (by omega),List.getElem?_drop] at hu;exact hu)
    rwa [Nat.zero_add] at this)
   have HER:=hide (show NC1++NC2=pcells (hs.eraseIdx j) by rw [←hNC1,←hNC2,←pcells_append,List.eraseIdx_eq_take_drop_succ])
   obtain ⟨n9,hn9⟩:∃n,(hs.eraseIdx j).length=n:=⟨_,rfl⟩
   have hn9':n9=j+(yal - (j+1)):=by rw [←hn9,List.length_eraseIdx_of_lt hjz,←hln];omega
   have HN9:=hide hn9
   have HN9':=hide hn9'
   have OWN0:=hide (pown_empty w7a2)
   obtain ⟨i0,hi,hz0,hz1,hz2⟩:=info_parts Tryz.infoApp
   have d5:=(uH HQ7).2.2.1.at 5
   simp at d5
   have hb6z:b6<w7a2.heap.size:=(uH HQ7).2.2.1.lt
   have j0:(0:Int)≤j:=by omega
   have j2:(j:Int)≤yac:=by omega
   have j3:j≤yac:=by omega
   have j4:j+1≤yal:=by omega
   have j5:(j:Int)+1≤yal:=by omega
   have j6:(0:Int)≤(j:Int)+1:=by omega
   have j7:((j:Int)+1).toNat=j+1:=by omega
   have j8:IntKind.i64.wrap ((j:Int)+1)=(j:Int)+1:=by rw [IntKind.wrap_i64];omega
   have hLn:=hide hln
   clear hNC1 hNC2 hn9 hn9' hbz hjl hln hjz
   have FIRST:=hide (fun (wx:World) (h:Below w7a2.heap.size w7a2 wx)=>((uH HQ7).2.2.1.below h).at 5)
   go_cut [] from 11 to 69 (fun wx=>∃ng nc,Hid (SHas (w.heap.size+2) wx ⟨yqa,yql,yqc,some ⟨ng,0,none⟩,n9,nc,yma,yml,ymc,yca,ycl,ycc⟩ ⟨qs,clock,epoch,next,serial,apps.eraseIdx j,ms,CF⟩ (hs.eraseIdx j))∧Hid (CHas (w.heap.size+2) wx go gn CG)∧Hid (Blk wx (w.heap.size+1) #[.slice none 0 0,.int .i64 0,.int .i64 0,.int .i64 0,.int .i64 0,.slice none 0 0,.slice none 0 0,.slice none 0 0] 37)∧Hid (Blk wx b6 #[.slice yqa yql yqc,.int .i64 clock,.int .i64 epoch,.int .i64 next,.int .i64 serial,.slice (some ⟨ng,0,none⟩) n9 nc,.slice yma yml ymc,.slice yca ycl ycc] 37)∧Hid (Below w.heap.size w wx))
   case first=>
    by_cases hce:yac=j+1
    ·have hye:yal=j+1:=by omega
     have j9:(j:Int)≤(j:Int)+1:=by omega
     obtain rfl:NC2=[]:=List.eq_nil_of_length_eq_zero (by have:=uH HL2;omega)
     go_region_law (first | (refine step_append_own rfl (.tmp 57) (.tmp 61) 33 rfl w7a2.heap.size 139 i0 (.agg #[.int .i64 0,.string ByteArray.empty,.slice none 0 0]) 3 48 Tryz.underlying33 hi hz0 hz1 hz2 rfl (by decide) (.slice (some ⟨w7a2.heap.size,0,none⟩) 0 0) 0 [] rfl (uH OWN0) ⟨g,0,none⟩ j _ NC1 rfl (uH HL1) (fun i u hu=>uH NEWS1 _ (by first | exact (yA (yH _ w7a2) _).drew | exact yA (yH _ w7a2).drew _ | exact yA (yH _ w7a2) _) i u hu) (uH HONE1) (by unfold maxLen;omega) (by omega) (by simp) ?_;intro v6 w8 hown6 hgrow6 hnil6;have HB8:=hide (show Below w7a2.heap.size w7a2 w8 from (by first | exact ((yA (yH _ w7a2) (.cells #[] 139)).drew).grown hgrow6 (by simp) (fun k e=>by simp [Value.ownBlock] at e;omega) | exact (yA (yH _ w7a2) (.cells #[] 139)).grown hgrow6 (by simp) (fun k e=>by simp [Value.ownBlock] at e;omega)));have HN6:=hide (show v6≠.slice none 0 0 from fun e=>by have:=(hnil6.1 e).1;simp at this);have O6:=hide hown6;have e5:=uH FIRST _ (uH HB8);simp at e5;have hz8:w7a2.heap.size≤w8.heap.size:=(uH HB8).size;clear hown6 hgrow6 hnil6) | (refine step_append_own rfl (.tmp 62) (.tmp 67) 33 rfl w7a2.heap.size 139 i0 (.agg #[.int .i64 0,.string ByteArray.empty,.slice none 0 0]) 3 48 Tryz.underlying33 hi hz0 hz1 hz2 rfl (by decide) v6 (0+j) ([]++NC1) rfl (uH O6) _ _ _ [] rfl (by first | rfl | simp) (fun i u hu=>by simp at hu) (uH HONE2) (by unfold maxLen;omega) (by omega) (by first | exact hz8 | (simp;omega)) ?_;intro v7 w9 hown7 hgrow7 hnil7;have HB9:=hide (show Below w7a2.heap.size w7a2 w9 from (by first | exact ((uH HB8).drew).grown hgrow7 hz8 (fun k e=>(World.ownsRow.lt (uH O6) k e).1) | exact (uH HB8).grown hgrow7 hz8 (fun k e=>(World.ownsRow.lt (uH O6) k e).1)));have O7:=hide (owns_recount (n':=n9) (xs':=pcells (hs.eraseIdx j)) hown7 (by have:=uH HN9';omega) (by rw [List.nil_append];exact uH HER));have hv7:v7≠.slice none 0 0:=fun e=>uH HN6 (hnil7.1 e).1;obtain ⟨ng,nc,rfl⟩:=owns_some (uH O7) hv7;have e6:=uH FIRST _ (uH HB9);have f6:=((uH HQ7).2.2.1.below (uH HB9)).f 5;simp at e6;clear hown7 hgrow7 hnil7 hv7))
     all_goals
      have PN0:=pown_has (show POwn w7a2.heap.size w9 (.slice (some ⟨ng,0,none⟩) n9 nc) (hs.eraseIdx j) by unfold POwn;rw [uH HN9];exact uH O7)
      rw [uH HN9] at PN0
      obtain ⟨_,_,epn,hnc,hpn⟩:=PN0
      cases epn
      have PN:=hide hpn
      have PRM:=hide (own1_of (uH O7))
      have HNC:=hide hnc
      have O9:=hide ((uH HQ7).2.2.1.below (uH HB9))
      have HH9:=hide ((uH HH7).below (uH HB9))
      have hm:Mks (fun k=>k=b6) w9 (w9.setCell ⟨b6,5,none⟩ (.slice (some ⟨ng,0,none⟩) n9 nc)):=Mks.one _ _ _ _ _ rfl
      have H10:=hide (show SHas (w.heap.size+2) (w9.setCell ⟨b6,5,none⟩ (.slice (some ⟨ng,0,none⟩) n9 nc)) ⟨yqa,yql,yqc,some ⟨ng,0,none⟩,n9,nc,yma,yml,ymc,yca,ycl,ycc⟩ ⟨qs,clock,epoch,next,serial,apps.eraseIdx j,ms,CF⟩ (hs.eraseIdx j) from by
       have hx:=(uH HH9).mkt hm (uH O9)
       exact ⟨hx.q,by have:=(uH PN).mkt hm (uH O9);exact this.base (by omega),((uH HH9).k.erase j).mkt hm (uH O9),hx.m,hx.c,⟨hx.cap.q,uH HNC,hx.cap.m,hx.cap.c⟩,⟨hx.rm.1,((uH PRM).sc b6 5 _).mono (by omega) (by rw [set_size];exact yJ _),hx.rm.2.2.1,hx.rm.2.2.2.1,fun v hv=>hx.rm.2.2.2.2 v (List.mem_of_mem_eraseIdx hv)⟩⟩)
      have G10:=hide (((uH HG7).below (uH HB9)).mkt hm (uH O9))
      have R10:=hide (((uH HQ7).2.1.below (uH HB9)).other b6 5 (.slice (some ⟨ng,0,none⟩) n9 nc) (by omega))
      have O10:=hide (show Blk (w9.setCell ⟨b6,5,none⟩ (.slice (some ⟨ng,0,none⟩) n9 nc)) b6 #[.slice yqa yql yqc,.int .i64 clock,.int .i64 epoch,.int .i64 next,.int .i64 serial,.slice (some ⟨ng,0,none⟩) n9 nc,.slice yma yml ymc,.slice yca ycl ycc] 37 from (uH O9).set 5 _)
      have B10:=hide (yC (yB (uH HQ7).2.2.2 (uH HB9)) b6 5 (.slice (some ⟨ng,0,none⟩) n9 nc) (by omega))
      go_wp2_with fail
      go_meet
      exact ⟨ng,nc,H10,G10,R10,O10,B10⟩
    ·go_region_law (first | (refine step_append_own rfl (.tmp 57) (.tmp 61) 33 rfl w7a2.heap.size 139 i0 (.agg #[.int .i64 0,.string ByteArray.empty,.slice none 0 0]) 3 48 Tryz.underlying33 hi hz0 hz1 hz2 rfl (by decide) (.slice (some ⟨w7a2.heap.size,0,none⟩) 0 0) 0 [] rfl (uH OWN0) ⟨g,0,none⟩ j _ NC1 rfl (uH HL1) (fun i u hu=>uH NEWS1 _ (by first | exact (yA (yH _ w7a2) _).drew | exact yA (yH _ w7a2).drew _ | exact yA (yH _ w7a2) _) i u hu) (uH HONE1) (by unfold maxLen;omega) (by omega) (by simp) ?_;intro v6 w8 hown6 hgrow6 hnil6;have HB8:=hide (show Below w7a2.heap.size w7a2 w8 from (by first | exact ((yA (yH _ w7a2) (.cells #[] 139)).drew).grown hgrow6 (by simp) (fun k e=>by simp [Value.ownBlock] at e;omega) | exact (yA (yH _ w7a2) (.cells #[] 139)).grown hgrow6 (by simp) (fun k e=>by simp [Value.ownBlock] at e;omega)));have HN6:=hide (show v6≠.slice none 0 0 from fun e=>by have:=(hnil6.1 e).1;simp at this);have O6:=hide hown6;have e5:=uH FIRST _ (uH HB8);simp at e5;have hz8:w7a2.heap.size≤w8.heap.size:=(uH HB8).size;clear hown6 hgrow6 hnil6) | (refine step_append_own rfl (.tmp 62) (.tmp 67) 33 rfl w7a2.heap.size 139 i0 (.agg #[.int .i64 0,.string ByteArray.empty,.slice none 0 0]) 3 48 Tryz.underlying33 hi hz0 hz1 hz2 rfl (by decide) v6 (0+j) ([]++NC1) rfl (uH O6) _ _ _ NC2 rfl (uH HL2) (fun i u hu=>uH NEWS2 _ (by first | exact uH HB8 | exact (uH HB8).drew) i u hu) (uH HONE2) (by unfold maxLen;omega) (by omega) (by first | exact hz8 | (simp;omega)) ?_;intro v7 w9 hown7 hgrow7 hnil7;have HB9:=hide (show Below w7a2.heap.size w7a2 w9 from (by first | exact ((uH HB8).drew).grown hgrow7 hz8 (fun k e=>(World.ownsRow.lt (uH O6) k e).1) | exact (uH HB8).grown hgrow7 hz8 (fun k e=>(World.ownsRow.lt (uH O6) k e).1)));have O7:=hide (owns_recount (n':=n9) (xs':=pcells (hs.eraseIdx j)) hown7 (by have:=uH HN9';omega) (by rw [List.nil_append];exact uH HER));have hv7:v7≠.slice none 0 0:=fun e=>uH HN6 (hnil7.1 e).1;obtain ⟨ng,nc,rfl⟩:=owns_some (uH O7) hv7;have e6:=uH FIRST _ (uH HB9);have f6:=((uH HQ7).2.2.1.below (uH HB9)).f 5;simp at e6;clear hown7 hgrow7 hnil7 hv7))
     all_goals
      have PN0:=pown_has (show POwn w7a2.heap.size w9 (.slice (some ⟨ng,0,none⟩) n9 nc) (hs.eraseIdx j) by unfold POwn;rw [uH HN9];exact uH O7)
      rw [uH HN9] at PN0
      obtain ⟨_,_,epn,hnc,hpn⟩:=PN0
      cases epn
      have PN:=hide hpn
      have PRM:=hide (own1_of (uH O7))
      have HNC:=hide hnc
      have O9:=hide ((uH HQ7).2.2.1.below (uH HB9))
      have HH9:=hide ((uH HH7).below (uH HB9))
      have hm:Mks (fun k=>k=b6) w9 (w9.setCell ⟨b6,5,none⟩ (.slice (some ⟨ng,0,none⟩) n9 nc)):=Mks.one _ _ _ _ _ rfl
      have H10:=hide (show SHas (w.heap.size+2) (w9.setCell ⟨b6,5,none⟩ (.slice (some ⟨ng,0,none⟩) n9 nc)) ⟨yqa,yql,yqc,some ⟨ng,0,none⟩,n9,nc,yma,yml,ymc,yca,ycl,ycc⟩ ⟨qs,clock,epoch,next,serial,apps.eraseIdx j,ms,CF⟩ (hs.eraseIdx j) from by
       have hx:=(uH HH9).mkt hm (uH O9)
       exact ⟨hx.q,by have:=(uH PN).mkt hm (uH O9);exact this.base (by omega),((uH HH9).k.erase j).mkt hm (uH O9),hx.m,hx.c,⟨hx.cap.q,uH HNC,hx.cap.m,hx.cap.c⟩,⟨hx.rm.1,((uH PRM).sc b6 5 _).mono (by omega) (by rw [set_size];exact yJ _),hx.rm.2.2.1,hx.rm.2.2.2.1,fun v hv=>hx.rm.2.2.2.2 v (List.mem_of_mem_eraseIdx hv)⟩⟩)
      have G10:=hide (((uH HG7).below (uH HB9)).mkt hm (uH O9))
      have R10:=hide (((uH HQ7).2.1.below (uH HB9)).other b6 5 (.slice (some ⟨ng,0,none⟩) n9 nc) (by omega))
      have O10:=hide (show Blk (w9.setCell ⟨b6,5,none⟩ (.slice (some ⟨ng,0,none⟩) n9 nc)) b6 #[.slice yqa yql yqc,.int .i64 clock,.int .i64 epoch,.int .i64 next,.int .i64 serial,.slice (some ⟨ng,0,none⟩) n9 nc,.slice yma yml ymc,.slice yca ycl ycc] 37 from (uH O9).set 5 _)
      have B10:=hide (yC (yB (uH HQ7).2.2.2 (uH HB9)) b6 5 (.slice (some ⟨ng,0,none⟩) n9 nc) (by omega))
      go_wp2_with fail
      go_meet
      exact ⟨ng,nc,H10,G10,R10,O10,B10⟩
   case rest=>
    obtain ⟨ng,nc,H10,G10,R10,O10,B10⟩:=hcut
    obtain ⟨w10,rfl⟩:∃w',w'=wc:=⟨wc,rfl⟩
    clear HQ7 HH7 HG7 FIRST d5 hb6z
    obtain ⟨c0,c1,c2,c3,c4,c5,c6,c7⟩:=zq (uH R10)
    have f0:=(uH R10).f 0;have f1:=(uH R10).f 1;have f2:=(uH R10).f 2;have f3:=(uH R10).f 3;have f4:=(uH R10).f 4;have f5:=(uH R10).f 5;have f6:=(uH R10).f 6;have f7:=(uH R10).f 7
    obtain ⟨a0,a1,a2,a3,a4,a5,a6,a7⟩:=zq (uH O10)
    go_wp2
    have RR:=hide (show Blk ((((((((w10.setCell ⟨w.heap.size+1,0,none⟩ (.slice yqa yql yqc)).setCell ⟨w.heap.size+1,1,none⟩ (.int .i64 clock)).setCell ⟨w.heap.size+1,2,none⟩ (.int .i64 epoch)).setCell ⟨w.heap.size+1,3,none⟩ (.int .i64 next)).setCell ⟨w.heap.size+1,4,none⟩ (.int .i64 serial)).setCell ⟨w.heap.size+1,5,none⟩ (.slice (some ⟨ng,0,none⟩) n9 nc)).setCell ⟨w.heap.size+1,6,none⟩ (.slice yma yml ymc)).setCell ⟨w.heap.size+1,7,none⟩ (.slice yca ycl ycc)) (w.heap.size+1) #[.slice yqa yql yqc,.int .i64 clock,.int .i64 epoch,.int .i64 next,.int .i64 serial,.slice (some ⟨ng,0,none⟩) n9 nc,.slice yma yml ymc,.slice yca ycl ycc] 37 from (((((((((uH R10).set 0 (.slice yqa yql yqc)).set 1 (.int .i64 clock)).set 2 (.int .i64 epoch)).set 3 (.int .i64 next)).set 4 (.int .i64 serial)).set 5 (.slice (some ⟨ng,0,none⟩) n9 nc)).set 6 (.slice yma yml ymc)).set 7 (.slice yca ycl ycc)))
    have HX:=hide (((((((((uH H10).sc (k:=w.heap.size+1) (j:=0) (v:=.slice yqa yql yqc) (by omega)).sc (k:=w.heap.size+1) (j:=1) (v:=.int .i64 clock) (by omega)).sc (k:=w.heap.size+1) (j:=2) (v:=.int .i64 epoch) (by omega)).sc (k:=w.heap.size+1) (j:=3) (v:=.int .i64 next) (by omega)).sc (k:=w.heap.size+1) (j:=4) (v:=.int .i64 serial) (by omega)).sc (k:=w.heap.size+1) (j:=5) (v:=.slice (some ⟨ng,0,none⟩) n9 nc) (by omega)).sc (k:=w.heap.size+1) (j:=6) (v:=.slice yma yml ymc) (by omega)).sc (k:=w.heap.size+1) (j:=7) (v:=.slice yca ycl ycc) (by omega))
    have GX:=hide (((((((((uH G10).sc (k:=w.heap.size+1) (j:=0) (v:=.slice yqa yql yqc) (by omega)).sc (k:=w.heap.size+1) (j:=1) (v:=.int .i64 clock) (by omega)).sc (k:=w.heap.size+1) (j:=2) (v:=.int .i64 epoch) (by omega)).sc (k:=w.heap.size+1) (j:=3) (v:=.int .i64 next) (by omega)).sc (k:=w.heap.size+1) (j:=4) (v:=.int .i64 serial) (by omega)).sc (k:=w.heap.size+1) (j:=5) (v:=.slice (some ⟨ng,0,none⟩) n9 nc) (by omega)).sc (k:=w.heap.size+1) (j:=6) (v:=.slice yma yml ymc) (by omega)).sc (k:=w.heap.size+1) (j:=7) (v:=.slice yca ycl ycc) (by omega))
    have BX:=hide (yC (yC (yC (yC (yC (yC (yC (yC (uH B10) (w.heap.size+1) 0 (.slice yqa yql yqc) (by omega)) (w.heap.size+1) 1 (.int .i64 clock) (by omega)) (w.heap.size+1) 2 (.int .i64 epoch) (by omega)) (w.heap.size+1) 3 (.int .i64 next) (by omega)) (w.heap.size+1) 4 (.int .i64 serial) (by omega)) (w.heap.size+1) 5 (.slice (some ⟨ng,0,none⟩) n9 nc) (by omega)) (w.heap.size+1) 6 (.slice yma yml ymc) (by omega)) (w.heap.size+1) 7 (.slice yca ycl ycc) (by omega))
    generalize ((((((((w10.setCell ⟨w.heap.size+1,0,none⟩ (.slice yqa yql yqc)).setCell ⟨w.heap.size+1,1,none⟩ (.int .i64 clock)).setCell ⟨w.heap.size+1,2,none⟩ (.int .i64 epoch)).setCell ⟨w.heap.size+1,3,none⟩ (.int .i64 next)).setCell ⟨w.heap.size+1,4,none⟩ (.int .i64 serial)).setCell ⟨w.heap.size+1,5,none⟩ (.slice (some ⟨ng,0,none⟩) n9 nc)).setCell ⟨w.heap.size+1,6,none⟩ (.slice yma yml ymc)).setCell ⟨w.heap.size+1,7,none⟩ (.slice yca ycl ycc))=W9 at RR HX GX BX ⊢
    obtain ⟨z0,z1,z2,z3,z4,z5,z6,z7⟩:=zq (uH RR)
    refine bodyPost_ret (v:=.tuple #[.agg #[.slice yqa yql yqc,.int .i64 clock,.int .i64 epoch,.int .i64 next,.int .i64 serial,.slice (some ⟨ng,0,none⟩) n9 nc,.slice yma yml ymc,.slice yca ycl ycc],.slice go gn gc]) (by simp [results,Tryz.results80,go_sem,z0,z1,z2,z3,z4,z5,z6,z7]) rfl ?_
    rw [uH HDR2]
    exact ⟨⟨yqa,yql,yqc,some ⟨ng,0,none⟩,n9,nc,yma,yml,ymc,yca,ycl,ycc⟩,(hs.eraseIdx j),go,gn,gc,rfl,(uH HX).ans.mono (by omega) (yJ _),(uH GX).base (by omega),uH HAP,uH BX⟩
def ApS (B:Nat) (w:World) (k:Nat):Prop:=∃N,Cel w 139 k N∧B≤k
def ApAns (B:Nat) (w:World) (s:St) (e:Ending) (w':World):Prop:=∃y hs,e=.returned (sv y s)∧SHas B w' y s hs∧Mks (ApS B w) w w'
theorem Mks.via {S S':Nat→Prop} {a b c:World} (h:Mks S a b) (k:Mks S' b c) (hs:∀i,S' i→a.heap.size≤i∨S i):Mks S a c:=
 ⟨k.os.trans h.os,k.tape.trans h.tape,k.output.trans h.output,Nat.le_trans h.size k.size,fun i hi hn=>(k.block i (Nat.lt_of_lt_of_le hi h.size) (fun e=>by rcases hs i e with h1 | h1;omega;exact hn h1)).trans (h.block i hi hn),fun t g N hc=>k.cel t g N (h.cel t g N hc)⟩
theorem l08Apply_any {B:Nat} (l:List Q) (x:Sls) (s:St) (hs:List AV) (r:Rc) (w:World) (h:SHas B w x s hs) (hB:B≤w.heap.size) (hi:RInv l s) (hf:FitQ l) (hq:queuesOk l=true) :
  Calls Tryz.prog 39 #[sv x s,rcv r] w (ApAns B w (applyV s r)):=by
 have hok:=rinv_ok hi hq
 have hfs:=rinv_fit hi hf
 have hb0:=yA (yA (yA (yH _ w) (.cells (svc x s) 37)) (.cells #[.int .i64 r.kind,.int .i64 r.app,.string (bs r.queue)] 54)) (.cells #[.slice none 0 0,.int .i64 0,.int .i64 0,.int .i64 0,.int .i64 0,.slice none 0 0,.slice none 0 0,.slice none 0 0] 37)
 have P0:=hide (((yD w (svc x s) 37).al (.cells #[.int .i64 r.kind,.int .i64 r.app,.string (bs r.queue)] 54)).al (.cells #[.slice none 0 0,.int .i64 0,.int .i64 0,.int .i64 0,.int .i64 0,.slice none 0 0,.slice none 0 0,.slice none 0 0] 37))
 have P1:=hide ((yD (w.alloc (.cells (svc x s) 37)) #[.int .i64 r.kind,.int .i64 r.app,.string (bs r.queue)] 54).al (.cells #[.slice none 0 0,.int .i64 0,.int .i64 0,.int .i64 0,.int .i64 0,.slice none 0 0,.slice none 0 0,.slice none 0 0] 37))
 have P2:=hide (yD ((w.alloc (.cells (svc x s) 37)).alloc (.cells #[.int .i64 r.kind,.int .i64 r.app,.string (bs r.queue)] 54)) #[.slice none 0 0,.int .i64 0,.int .i64 0,.int .i64 0,.int .i64 0,.slice none 0 0,.slice none 0 0,.slice none 0 0] 37)
 rw [yE] at P1
 rw [yE,yE] at P2
 have H0:=hide (h.below hb0)
 have HB0:=hide (show Mks (ApS B w) w _ from Mks.of_below hb0)
 have HW0:=hide hb0
 have hz0:=hb0.size
 have CL:=hide (fun wx (hr:QRow wx x.qa x.ql s.qs)=>by
  have:=specLeaf_any x.qa x.ql x.qc s.qs r.queue wx hr (by have:=hr.1;have:=hfs.1.1;omega) (fun q hq=>(hfs.1.2 q hq).1)
  rw [leaf_lone,hi.qs,hq,Bool.true_and,←hi.qs] at this
  exact this)
 have CD:=hide (fun wx (hx:SHas B wx x s hs)=>by
  have:=specDrop_any x s hs r.app wx hx.ans.row hx.p.1 hx.k.heads hx.ans.some hfs
  rw [(dropV_eq s r.app).1 hok] at this
  exact this)
 have i6:=hi.e1
 have i7:=hi.e2
 have i8:=hi.n1
 have i9:=hi.n2
 have i10:=hi.len
 have HAV:=hide (fun wx (hx:SHas B wx x s hs)=>hx.p.1)
 obtain ⟨i0,hii,hi1,hi2,hi3⟩:=info_parts Tryz.infoApp
 obtain ⟨S1,hS⟩:∃S,applyV s r=S:=⟨_,rfl⟩
 rw [hS]
 have hal:x.al=hs.length:=h.p.1.1
 have HAL:=hide hal
 have hka:hs.length=s.apps.length:=h.k.heads.1
 have hlone:∃o,lone s.qs r.queue=o:=⟨_,rfl⟩
 obtain ⟨lo,hlo⟩:=hlone
 rw [hlo] at CL
 have E2:=hide (fun (hk:r.kind=2) (he:s.epoch<900000)=>hS.symm.trans (apply_epoch hk he))
 have E2n:=hide (fun (hk:r.kind=2) (he:¬s.epoch<900000)=>hS.symm.trans (apply_last hk he))
 have E0:=hide (fun (hk:r.kind=0) (h1:lo=true) (h2:s.next≤r.app) (h3:r.app≤s.epoch*1000+999) (h4:s.apps.length<40)=>hS.symm.trans (apply_app hk ⟨by rw [hlo];exact h1,h2,h3,h4⟩))
 have E0n:=hide (fun (hk:r.kind=0) (hn:¬(lo=true∧s.next≤r.app∧r.app≤s.epoch*1000+999∧s.apps.length<40))=>hS.symm.trans (apply_not hk (by rw [hlo];exact hn)))
 have E1:=hide (fun (hk:r.kind=1)=>hS.symm.trans (apply_done hk))
 have EE:=hide (fun (h0:r.kind≠0) (h1:r.kind≠1) (h2:r.kind≠2)=>hS.symm.trans (apply_else h0 h1 h2))
 clear h hi hfs hok hb0 hS hlo hal
 obtain ⟨qa,ql,qc,aa,al,ac,ma,ml,mc,ca,cl,cc⟩:=x
 obtain ⟨qs,clock,epoch,next,serial,apps,ms,cs⟩:=s
 obtain ⟨rk,ra,rq⟩:=r
 simp only at *
 obtain ⟨b,hb⟩:∃b,w.heap.size=b:=⟨_,rfl⟩
 have HBB:=hide hb
 rw [hb] at P0 P1 P2 hB
 go_enter Tryz.func39,Tryz.ntmps39
 go_upto_block 0 with fail
 have hz3:b+2<(((w.alloc (.cells #[.slice qa ql qc,.int .i64 clock,.int .i64 epoch,.int .i64 next,.int .i64 serial,.slice aa al ac,.slice ma ml mc,.slice ca cl cc] 37)).alloc (.cells #[.int .i64 rk,.int .i64 ra,.string (bs rq)] 54)).alloc (.cells #[.slice none 0 0,.int .i64 0,.int .i64 0,.int .i64 0,.int .i64 0,.slice none 0 0,.slice none 0 0,.slice none 0 0] 37)).heap.size:=(uH P2).lt
 generalize ((w.alloc (.cells #[.slice qa ql qc,.int .i64 clock,.int .i64 epoch,.int .i64 next,.int .i64 serial,.slice aa al ac,.slice ma ml mc,.slice ca cl cc] 37)).alloc (.cells #[.int .i64 rk,.int .i64 ra,.string (bs rq)] 54)).alloc (.cells #[.slice none 0 0,.int .i64 0,.int .i64 0,.int .i64 0,.int .i64 0,.slice none 0 0,.slice none 0 0,.slice none 0 0] 37)=w3 at P0 P1 P2 H0 HB0 HW0 hz3 ⊢
 obtain ⟨p0,p1,p2,p3,p4,p5,p6,p7⟩:=zq (uH P0)
 have g2:=(uH P0).f 2;have g3:=(uH P0).f 3;have g5:=(uH P0).f 5
 have r0:=(uH P1).at 0;have r1:=(uH P1).at 1;have r2:=(uH P1).at 2
 simp at r0 r1 r2
 clear hb hz0
 go_cut [] from 5 to 85 (fun wx=>∃y hs',Hid (Blk wx b (svc y S1) 37)∧Hid (Blk wx (b+1+1) #[.slice none 0 0,.int .i64 0,.int .i64 0,.int .i64 0,.int .i64 0,.slice none 0 0,.slice none 0 0,.slice none 0 0] 37)∧Hid (SHas B wx y S1 hs')∧Hid (Mks (ApS B w) w wx)∧b+2<wx.heap.size)
 case first=>
  by_cases k2:rk=2
  ·subst k2
   by_cases he:epoch<900000
   ·have hS:=uH E2 (by simp) he
    have m2:Mks (fun k=>k=b) w3 (w3.setCell ⟨b,2,none⟩ (.int .i64 (epoch+1))):=Mks.one _ _ _ _ _ rfl
    have K4:=hide (show Blk (w3.setCell ⟨b,2,none⟩ (.int .i64 (epoch+1))) b _ 37 from (uH P0).set 2 _)
    have P4:=hide ((uH P2).other b 2 (.int .i64 (epoch+1)) (by omega))
    have H4:=hide ((uH H0).mkt m2 (uH P0))
    have B4:=hide (show Mks (ApS B w) w _ from (uH HB0).via m2 (fun k e=>.inl (by rw [e,uH HBB];exact yJ _)))
    have hz4:b+2<(w3.setCell ⟨b,2,none⟩ (.int .i64 (epoch+1))).heap.size:=by rw [set_size];exact hz3
    have q2:(w3.setCell ⟨b,2,none⟩ (.int .i64 (epoch+1))).cell? ⟨b,2,none⟩=some (.int .i64 (epoch+1)):=by have:=(uH K4).at 2;simpa using this
    have q3:(w3.setCell ⟨b,2,none⟩ (.int .i64 (epoch+1))).cell? ⟨b,3,none⟩=some (.int .i64 next):=by have:=(uH K4).at 3;simpa using this
    have qf3:(w3.setCell ⟨b,2,none⟩ (.int .i64 (epoch+1))).frozen? ⟨b,3,none⟩=false:=(uH K4).f 3
    by_cases hn:next<(epoch+1)*1000+1
    ·rw [show max next ((epoch+1)*1000+1)=(epoch+1)*1000+1 by omega] at hS
     subst hS
     have m3:Mks (fun k=>k=b) (w3.setCell ⟨b,2,none⟩ (.int .i64 (epoch+1))) ((w3.setCell ⟨b,2,none⟩ (.int .i64 (epoch+1))).setCell ⟨b,3,none⟩ (.int .i64 ((epoch+1)*1000+1))):=Mks.one _ _ _ _ _ rfl
     have K5:=hide (show Blk ((w3.setCell ⟨b,2,none⟩ (.int .i64 (epoch+1))).setCell ⟨b,3,none⟩ (.int .i64 ((epoch+1)*1000+1))) b (svc ⟨qa,ql,qc,aa,al,ac,ma,ml,mc,ca,cl,cc⟩ ⟨qs,clock,epoch+1,(epoch+1)*1000+1,serial,apps,ms,cs⟩) 37 from (uH K4).set 3 _)
     have P5:=hide ((uH P4).other b 3 (.int .i64 ((epoch+1)*1000+1)) (by omega))
     have H5:=hide (show SHas B _ ⟨qa,ql,qc,aa,al,ac,ma,ml,mc,ca,cl,cc⟩ ⟨qs,clock,epoch+1,(epoch+1)*1000+1,serial,apps,ms,cs⟩ hs from (fun z=>⟨z.q,z.p,z.k,z.m,z.c,z.cap,z.rm⟩) ((uH H4).mkt m3 (uH K4)))
     have B5:=hide (show Mks (ApS B w) w _ from (uH B4).via m3 (fun k e=>.inl (by rw [e,uH HBB];exact yJ _)))
     have hz5:=hz4
     clear m2 m3 K4 P4 H4 B4 E2 E2n E0 E0n E1 EE CL CD
     go_wp2_with fail
     go_meet
     exact ⟨⟨qa,ql,qc,aa,al,ac,ma,ml,mc,ca,cl,cc⟩,hs,K5,P5,H5,B5,by rw [set_size];exact hz5⟩
    ·exact absurd hn (by omega)
   ·have hS:=uH E2n (by simp) he
    subst hS
    clear E2 E2n E0 E0n E1 EE CL CD
    go_wp2_with fail
    go_meet
    exact ⟨⟨qa,ql,qc,aa,al,ac,ma,ml,mc,ca,cl,cc⟩,hs,P0,P2,H0,HB0,hz3⟩
  have k2':(rk==2)=false:=by simpa using k2
  by_cases k1:rk=1
  ·subst k1
   have hS:=uH E1 (by simp)
   subst hS
   clear E2 E2n E0 E0n E1 EE CL
   go_wp2_with fail
   refine (uH CD _ (uH H0)).mono ?_
   rintro e w4 ⟨y,hs2,go,gn,gc,rfl,ha,hg,hd,hb⟩
   obtain ⟨yqa,yql,yqc,yaa,yal,yac,yma,yml,ymc,yca,ycl,ycc⟩:=y
   have hz4:b+2<w4.heap.size:=Nat.lt_of_lt_of_le hz3 hb.size
   have b5:=yA (yH _ w4) (.cells (svc ⟨yqa,yql,yqc,yaa,yal,yac,yma,yml,ymc,yca,ycl,ycc⟩ ⟨qs,clock,epoch,next,serial,apps.filter (fun a=>!decide (a.id=ra)),ms,cs.filter (fun q=>!decide (q.app=ra))⟩) 37)
   have K5:=hide (yD w4 (svc ⟨yqa,yql,yqc,yaa,yal,yac,yma,yml,ymc,yca,ycl,ycc⟩ ⟨qs,clock,epoch,next,serial,apps.filter (fun a=>!decide (a.id=ra)),ms,cs.filter (fun q=>!decide (q.app=ra))⟩) 37)
   have P5:=hide (((uH P2).below hb).below b5)
   have H5:=hide (((ha.has (yJ _)).base (B':=B) (by omega)).below b5)
   have B5:=hide (show Mks (ApS B w) w _ from (uH HB0).on (yB hb b5))
   have hz5:=b5.size
   obtain ⟨b6,hb6⟩:∃b,w4.heap.size=b:=⟨_,rfl⟩
   rw [hb6] at K5
   clear ha hg hd hb b5 CD
   go_upto_region 10 with fail
   generalize w4.alloc (.cells (svc ⟨yqa,yql,yqc,yaa,yal,yac,yma,yml,ymc,yca,ycl,ycc⟩ ⟨qs,clock,epoch,next,serial,apps.filter (fun a=>!decide (a.id=ra)),ms,cs.filter (fun q=>!decide (q.app=ra))⟩) 37)=w5 at K5 P5 H5 B5 hz5 ⊢
   refine wp_region_lit ?_
   refine wpList_same (v:=.agg #[.slice yqa yql yqc,.int .i64 clock,.int .i64 epoch,.int .i64 next,.int .i64 serial,.slice yaa yal yac,.slice yma yml ymc,.slice yca ycl ycc]) (d:=some 85) rfl rfl (run_v (st_load (uH K5) rfl)) ?_
   simp only [zW]
   refine wpList_none (d:=none) rfl rfl (run_u (st_store (uH P5) rfl rfl (by kernel_rfl))) ?_
   simp only [Act.put]
   have RR:=hide (blk_row (uH P5) #[.slice yqa yql yqc,.int .i64 clock,.int .i64 epoch,.int .i64 next,.int .i64 serial,.slice yaa yal yac,.slice yma yml ymc,.slice yca ycl ycc])
   have MM:=hide (mks_row (uH P5) #[.slice yqa yql yqc,.int .i64 clock,.int .i64 epoch,.int .i64 next,.int .i64 serial,.slice yaa yal yac,.slice yma yml ymc,.slice yca ycl ycc] rfl)
   generalize World.setRow w5 (b+1+1) #[.slice yqa yql yqc,.int .i64 clock,.int .i64 epoch,.int .i64 next,.int .i64 serial,.slice yaa yal yac,.slice yma yml ymc,.slice yca ycl ycc]=W9 at RR MM ⊢
   have H9:=hide ((uH H5).mkt (uH MM) (uH P5))
   have B9:=hide ((uH B5).via (uH MM) (fun k e=>.inl (by rw [e];have:=uH HBB;omega)))
   obtain ⟨z0,z1,z2,z3,z4,z5,z6,z7⟩:=zq (uH RR)
   go_wp2
   refine bodyPost_ret (v:=.agg #[.slice yqa yql yqc,.int .i64 clock,.int .i64 epoch,.int .i64 next,.int .i64 serial,.slice yaa yal yac,.slice yma yml ymc,.slice yca ycl ycc]) (by simp [results,Tryz.results39,go_sem,z0,z1,z2,z3,z4,z5,z6,z7]) rfl ?_
   exact (show ApAns B w _ _ _ from ⟨⟨yqa,yql,yqc,yaa,yal,yac,yma,yml,ymc,yca,ycl,ycc⟩,_,rfl,uH H9,uH B9⟩)
  have k1':(rk==1)=false:=by simpa using k1
  by_cases k0:rk=0
  case neg=>
   have k0':(rk==0)=false:=by simpa using k0
   have hS:=uH EE k0 k1 k2
   subst hS
   clear E2 E2n E0 E0n E1 EE CL CD
   go_wp2_with fail
   go_meet
   exact ⟨⟨qa,ql,qc,aa,al,ac,ma,ml,mc,ca,cl,cc⟩,hs,P0,P2,H0,HB0,hz3⟩
  subst k0
  have CI:=hide (fun wx=>l01In_any ra next (epoch*1000+999) wx)
  have CLX:=hide (uH CL w3 (uH H0).q.1)
  obtain ⟨ib,hib⟩:∃o,inB ra next (epoch*1000+999)=o:=⟨_,rfl⟩
  rw [hib] at CI
  have HIB:=hide hib
  have ha40:=uH HAL
  have HA40:=hide (show al=apps.length by omega)
  clear hib ha40 E2 E2n E1 EE CL CD hka
  cases lo
  case false=>
   have hS:=uH E0n (by simp) (by simp)
   subst hS
   clear E0 E0n
   go_wp2_with fail
   refine (uH CLX).mono ?_
   rintro e w4 ⟨rfl,hb⟩
   have HBX:=hide hb
   have r0:=((uH P1).below hb).at 0
   simp at r0
   clear hb CLX
   go_wp2_with fail
   go_meet
   have HX:=uH HBX
   exact ⟨⟨qa,ql,qc,aa,al,ac,ma,ml,mc,ca,cl,cc⟩,hs,hide ((uH P0).below HX),hide ((uH P2).below HX),hide ((uH H0).below HX),hide ((uH HB0).on HX),Nat.lt_of_lt_of_le hz3 HX.size⟩
  cases ib
  case false=>
   have hS:=uH E0n (by simp) (fun h=>by have:=uH HIB;rw [inB_true h.2.1 h.2.2.1] at this;cases this)
   subst hS
   clear E0 E0n
   go_wp2_with fail
   refine (uH CLX).mono ?_
   rintro e w4 ⟨rfl,hb⟩
   have HBX:=hide hb
   have p2:=((uH P0).below hb).at 2;have p3:=((uH P0).below hb).at 3
   have r0:=((uH P1).below hb).at 0;have r1:=((uH P1).below hb).at 1
   simp at p2 p3 r0 r1
   clear hb CLX
   go_wp2_with fail
   refine (uH CI _).mono ?_
   rintro e w5 ⟨rfl,rfl⟩
   go_wp2_with fail
   go_meet
   have HX:=uH HBX
   exact ⟨⟨qa,ql,qc,aa,al,ac,ma,ml,mc,ca,cl,cc⟩,hs,hide ((uH P0).below HX),hide ((uH P2).below HX),hide ((uH H0).below HX),hide ((uH HB0).on HX),Nat.lt_of_lt_of_le hz3 HX.size⟩
  have hin:next≤ra∧ra≤epoch*1000+999:=by have h:=uH HIB;simpa [inB] using h
  obtain ⟨hin1,hin2⟩:=hin
  by_cases h40:al<40
  case neg=>
   have hS:=uH E0n (by simp) (fun h=>by have:=uH HA40;omega)
   subst hS
   have h40':¬(al:Int)<40:=by omega
   clear E0 E0n
   go_wp2_with fail
   refine (uH CLX).mono ?_
   rintro e w4 ⟨rfl,hb⟩
   have HBX:=hide hb
   have p2:=((uH P0).below hb).at 2;have p3:=((uH P0).below hb).at 3;have p5:=((uH P0).below hb).at 5
   have r0:=((uH P1).below hb).at 0;have r1:=((uH P1).below hb).at 1
   simp at p2 p3 p5 r0 r1
   clear hb CLX
   go_wp2_with fail
   refine (uH CI _).mono ?_
   rintro e w5 ⟨rfl,rfl⟩
   go_wp2_with fail
   go_meet
   have HX:=uH HBX
   exact ⟨⟨qa,ql,qc,aa,al,ac,ma,ml,mc,ca,cl,cc⟩,hs,hide ((uH P0).below HX),hide ((uH P2).below HX),hide ((uH H0).below HX),hide ((uH HB0).on HX),Nat.lt_of_lt_of_le hz3 HX.size⟩
  have hS:=uH E0 (by simp) (by simp) hin1 hin2 (by have:=uH HA40;omega)
  subst hS
  have h40':(al:Int)<40:=by omega
  clear E0 E0n
  go_wp2_with fail
  refine (uH CLX).mono ?_
  rintro e w4 ⟨rfl,hb⟩
  have K4:=hide ((uH P0).below hb)
  have P4:=hide ((uH P2).below hb)
  have H4:=hide ((uH H0).below hb)
  have B4:=hide (show Below w.heap.size w w4 from yB (uH HW0) hb)
  have hz4:b+2<w4.heap.size:=Nat.lt_of_lt_of_le hz3 hb.size
  have p2:=(uH K4).at 2;have p3:=(uH K4).at 3;have p5:=(uH K4).at 5
  have R4:=hide ((uH P1).below hb)
  have r1:=(uH R4).at 1;have r2:=(uH R4).at 2
  simp at p2 p3 p5 r1 r2
  clear hb CLX
  go_wp2_with fail
  refine (uH CI _).mono ?_
  rintro e w5 ⟨rfl,rfl⟩
  have hbx:=yA (yH _ w4) (.cells #[.int .i64 ra,.string (bs rq),.slice none 0 0] 139)
  have H5:=hide ((uH H4).below hbx)
  have K5:=hide ((uH K4).below hbx)
  have P5:=hide ((uH P4).below hbx)
  have R5:=hide ((uH R4).below hbx)
  have B5:=hide (show Below w.heap.size w _ from yB (uH B4) hbx)
  have RW:=hide (uH H5).p.1
  have CP:=hide (uH H5).cap.a
  have RM:=hide (uH H5).rm.2.1
  have ALN:=hide (uH H5).p.1.1
  simp only at RW CP RM ALN
  go_wp2_with (at_builtin;refine wpList_append_rm _ rfl _ _ 33 rfl 139 i0 (.agg #[.int .i64 0,.string ByteArray.empty,.slice none 0 0]) 3 48 Tryz.underlying33 hii hi1 hi2 hi3 rfl (by decide) B _ aa al ac (pcells hs) rfl (uH RM) (uH CP) ?cB ?clo ?chs ⟨w4.heap.size,0,none⟩ 1 1 (pcell ⟨ra,rq,none,0,0⟩) rfl rfl ?c1 ?c2 (by decide) ?c3 ?c4 ?_)
  case cB=>simp;omega
  case clo=>rw [pcells_len,←uH ALN]
  case chs=>intro b' off e j u hj;subst e;exact pcells_row (uH RW) j u hj
  case c1=>exact World.news_of_block (yD w4 #[.int .i64 ra,.string (bs rq),.slice none 0 0] 139)
  case c2=>intro u hu;simp at hu;rcases hu with rfl | rfl | rfl<;>rfl
  case c3=>unfold maxLen;omega
  case c4=>omega
  intro g cap' w6 ha
  have hBx:B≤(w4.alloc (.cells #[.int .i64 ra,.string (bs rq),.slice none 0 0] 139)).heap.size:=by rw [yE];omega
  have H6:=hide ((uH H5).add hBx ra (ra+1) rq ha)
  have K6:=hide (show Blk w6 b _ 37 from ha.mks.blk (uH K5) (fun ⟨N,hc,_⟩=>absurd (hc.type ⟨_,uH K5,rfl⟩) (by decide)))
  have P6:=hide (show Blk w6 (b+1+1) _ 37 from ha.mks.blk (uH P5) (fun ⟨N,hc,_⟩=>absurd (hc.type ⟨_,uH P5,rfl⟩) (by decide)))
  have R6:=hide (show Blk w6 (b+1) _ 54 from ha.mks.blk (uH R5) (fun ⟨N,hc,_⟩=>absurd (hc.type ⟨_,uH R5,rfl⟩) (by decide)))
  have B6:=hide (show Mks (ApS B w) w w6 from (Mks.of_below (uH B5)).via ha.mks (fun k ⟨N,hc,hBk⟩=>by
   rcases Nat.lt_or_ge k w.heap.size with hlt | hge
   ·exact .inr ⟨N,hc.of_block ((uH B5).block k hlt).symm,hBk⟩
   ·exact .inl hge))
  have d5:=(uH K6).at 5
  have d3:=(uH K6).at 3
  have f5:=(uH K6).f 5
  have f3:=(uH K6).f 3
  have r1:=(uH R6).at 1
  simp at d5 d3 r1
  have hz6:b+2<w6.heap.size:=(uH P6).lt
  clear ha hBx H4 H5 K4 K5 P4 P5 R4 R5 R6 B4 B5 RW CP RM ALN hbx p0 p1 p2 p3 p4 p5 p6 p7 r0 r2
  have m5:Mks (fun k=>k=b) w6 (w6.setCell ⟨b,5,none⟩ (.slice (some ⟨g,0,none⟩) (al+1) cap')):=Mks.one _ _ _ _ _ rfl
  have K7:=hide (show Blk (w6.setCell ⟨b,5,none⟩ (.slice (some ⟨g,0,none⟩) (al+1) cap')) b _ 37 from (uH K6).set 5 _)
  have m3:Mks (fun k=>k=b) (w6.setCell ⟨b,5,none⟩ (.slice (some ⟨g,0,none⟩) (al+1) cap')) ((w6.setCell ⟨b,5,none⟩ (.slice (some ⟨g,0,none⟩) (al+1) cap')).setCell ⟨b,3,none⟩ (.int .i64 (ra+1))):=Mks.one _ _ _ _ _ rfl
  have K8:=hide (show Blk ((w6.setCell ⟨b,5,none⟩ (.slice (some ⟨g,0,none⟩) (al+1) cap')).setCell ⟨b,3,none⟩ (.int .i64 (ra+1))) b (svc ⟨qa,ql,qc,some ⟨g,0,none⟩,al+1,cap',ma,ml,mc,ca,cl,cc⟩ ⟨qs,clock,epoch,ra+1,serial,apps++[⟨ra,rq,[]⟩],ms,cs⟩) 37 from (uH K7).set 3 _)
  have P8:=hide (((uH P6).other b 5 (.slice (some ⟨g,0,none⟩) (al+1) cap') (by omega)).other b 3 (.int .i64 (ra+1)) (by omega))
  have H8:=hide (((uH H6).mkt m5 (uH K6)).mkt m3 (uH K7))
  have B8:=hide (show Mks (ApS B w) w _ from (uH B6).via (m5.trans m3) (fun k e=>.inl (by rw [e,uH HBB];exact yJ _)))
  clear m5 m3 K6 K7 P6 H6 B6
  go_wp2_with fail
  go_meet
  exact ⟨⟨qa,ql,qc,some ⟨g,0,none⟩,al+1,cap',ma,ml,mc,ca,cl,cc⟩,_,K8,P8,H8,B8,by rw [set_size,set_size];exact hz6⟩
 case rest=>
  obtain ⟨y,hs',K,P,H,BB,hz⟩:=hcut
  obtain ⟨w9,rfl⟩:∃w',w'=wc:=⟨wc,rfl⟩
  obtain ⟨yqa,yql,yqc,yaa,yal,yac,yma,yml,ymc,yca,ycl,ycc⟩:=y
  obtain ⟨sqs,sck,sep,snx,sse,sap,sms,scs⟩:=S1
  clear P0 P1 P2 H0 HB0 E2 E2n E0 E0n E1 EE CL CD p0 p1 p2 p3 p4 p5 p6 p7 r0 r1 r2
  go_upto_region 11 with fail
  refine wp_region_lit ?_
  refine wpList_same (v:=.agg #[.slice yqa yql yqc,.int .i64 sck,.int .i64 sep,.int .i64 snx,.int .i64 sse,.slice yaa yal yac,.slice yma yml ymc,.slice yca ycl ycc]) (d:=some 86) rfl rfl (run_v (st_load (uH K) rfl)) ?_
  simp only [zW]
  refine wpList_none (d:=none) rfl rfl (run_u (st_store (uH P) rfl rfl (by kernel_rfl))) ?_
  simp only [Act.put]
  have RR:=hide (blk_row (uH P) #[.slice yqa yql yqc,.int .i64 sck,.int .i64 sep,.int .i64 snx,.int .i64 sse,.slice yaa yal yac,.slice yma yml ymc,.slice yca ycl ycc])
  have MM:=hide (mks_row (uH P) #[.slice yqa yql yqc,.int .i64 sck,.int .i64 sep,.int .i64 snx,.int .i64 sse,.slice yaa yal yac,.slice yma yml ymc,.slice yca ycl ycc] rfl)
  generalize World.setRow w9 (b+1+1) #[.slice yqa yql yqc,.int .i64 sck,.int .i64 sep,.int .i64 snx,.int .i64 sse,.slice yaa yal yac,.slice yma yml ymc,.slice yca ycl ycc]=W9 at RR MM ⊢
  have H9:=hide ((uH H).mkt (uH MM) (uH P))
  have B9:=hide ((uH BB).via (uH MM) (fun k e=>.inl (by rw [e];have:=uH HBB;omega)))
  obtain ⟨z0,z1,z2,z3,z4,z5,z6,z7⟩:=zq (uH RR)
  go_wp2
  refine bodyPost_ret (v:=.agg #[.slice yqa yql yqc,.int .i64 sck,.int .i64 sep,.int .i64 snx,.int .i64 sse,.slice yaa yal yac,.slice yma yml ymc,.slice yca ycl ycc]) (by simp [results,Tryz.results39,go_sem,z0,z1,z2,z3,z4,z5,z6,z7]) rfl ?_
  exact (show ApAns B w _ _ _ from ⟨⟨yqa,yql,yqc,yaa,yal,yac,yma,yml,ymc,yca,ycl,ycc⟩,hs',rfl,uH H9,uH B9⟩)
end
end Go.Proofs.YtjkfappkpopbdaaGreat
