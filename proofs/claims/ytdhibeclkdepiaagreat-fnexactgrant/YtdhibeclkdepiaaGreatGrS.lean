/-
  A container given in a state's own memory, by the model: l05Grant; a walk over the dump.
-/
import Derived.Test.YtdhibeclkdepiaaGreatNxS
set_option maxRecDepth 100000
set_option maxHeartbeats 16000000
set_option linter.unusedVariables false
set_option linter.unusedSimpArgs false
namespace Go.Proofs.YtdhibeclkdepiaaGreat
section
open Go.RowKit
theorem cutA_lo (g n cap k:Nat) (hk:k≤cap) (wx:World):(Instr.slice 72 (.slice (some ⟨g,0,none⟩) n cap) none (some (.int .i64 (k:Int))) none).run Tryz.prog wx=.ok (.slice (some ⟨g,0,none⟩) k cap) wx:=by
 rw [run_slice_h (P:=Tryz.prog) (w:=wx) 72 (some ⟨g,0,none⟩) n cap Tryz.underlying72 .i64 (k:Int) (by omega) (by omega)]
 rw [show (sizeOf (Tryz.prog.elem 72)).run Tryz.prog wx=.ok 5 wx from by kernel_rfl]
 simp [Result.andThen,sliced,Addr.add]
theorem cutA_hi (g n cap k:Nat) (hk:k≤n) (wx:World):(Instr.slice 72 (.slice (some ⟨g,0,none⟩) n cap) (some (.int .i64 (k:Int))) none none).run Tryz.prog wx=.ok (.slice (some (hiA g cap k 5)) (n - k) (cap - k)) wx:=by
 rw [run_slice_l (P:=Tryz.prog) (w:=wx) 72 (some ⟨g,0,none⟩) n cap Tryz.underlying72 .i64 (k:Int) (by omega) (by omega)]
 rw [show (sizeOf (Tryz.prog.elem 72)).run Tryz.prog wx=.ok 5 wx from by kernel_rfl]
 simp only [Result.andThen,sliced,Int.toNat_natCast,hiA]
 by_cases h:cap=k
 ·rw [if_pos h,if_pos h]
 ·rw [if_neg h,if_neg h]
  simp [Addr.add]
  try omega
theorem KHas.swap {B:Nat} {w w':World} {hs:List AV} {l:List Appl} (h:KHas B w hs l) (hB:B≤w.heap.size) {i n' c':Nat} {ao':Option Addr} {ak:List Ask} (hi:i<hs.length) (hl:i<l.length) (hb:Below w.heap.size w w')
  (hr:AskRow w' ao' n' ak) (ho:Own1 w.heap.size w'.heap.size w' 77 5 ao' n') (hc:n'≤c'):KHas B w' (hs.set i ⟨hs[i].id,hs[i].queue,ao',n',c'⟩) (l.modify i (fun a=>⟨a.id,a.queue,ak⟩)):=by
 have hne:∀j (hj:j<hs.length),hs[j].len≠0→n'≠0→hs[j].ao≠ao':=fun j hj h0 h1 e=>by
  rcases h.own _ (List.getElem_mem hj) with e2 | ⟨g,M,e2,_,e4,_⟩
  ·exact h0 e2
  ·rcases ho with e3 | ⟨g',M',e3,e5,_⟩
   ·exact h1 e3
   ·rw [e2,e3] at e
    cases e
    omega
 refine ⟨⟨by simp [h.heads.1],fun j h1 h2=>?_⟩,fun v hv=>?_,?_⟩
 ·have hj:j<hs.length:=by simpa using h1
  have hj':j<l.length:=by simpa using h2
  obtain ⟨a,b,c,d⟩:=h.heads.2 j hj hj'
  rw [List.getElem_set,List.getElem_modify]
  by_cases e:i=j
  ·subst e
   rw [if_pos rfl,if_pos rfl]
   exact ⟨a,b,hr,hc⟩
  ·rw [if_neg e,if_neg e]
   exact ⟨a,b,c.below hb,d⟩
 ·rcases List.mem_or_eq_of_mem_set hv with hv | rfl
  ·exact (h.own v hv).grow hb (Nat.le_refl _)
  ·exact ho.mono hB (Nat.le_refl _)
 ·rw [List.pairwise_iff_getElem]
  intro a b ha hb' hab
  have ha':a<hs.length:=by simpa using ha
  have hb2:b<hs.length:=by simpa using hb'
  have h0:=List.pairwise_iff_getElem.1 h.apart a b ha' hb2 hab
  rw [List.getElem_set,List.getElem_set]
  by_cases e1:i=a
  ·subst e1
   rw [if_pos rfl,if_neg (by omega)]
   by_cases e2:hs[b].len=0
   ·exact .inr (.inl e2)
   ·by_cases e3:n'=0
    ·exact .inl e3
    ·exact .inr (.inr (fun e=>hne b hb2 e2 e3 e.symm))
  ·rw [if_neg e1]
   by_cases e2:i=b
   ·subst e2
    rw [if_pos rfl]
    by_cases e3:hs[a].len=0
    ·exact .inl e3
    ·by_cases e4:n'=0
     ·exact .inr (.inl e4)
     ·exact .inr (.inr (hne a ha' e3 e4))
   ·rw [if_neg e2]
    exact h0
theorem SHas.conts {B n c:Nat} {w:World} {y:Sls} {s:St} {hs:List AV} (h:SHas B w y s hs) {ao:Option Addr} {l:List Con} (hc:CHas B w ao n l) (hn:n≤c) (ho:Own1 B w.heap.size w 38 5 ao c) :
  SHas B w ⟨y.qa,y.ql,y.qc,y.aa,y.al,y.ac,y.ma,y.ml,y.mc,ao,n,c⟩ ⟨s.qs,s.clock,s.epoch,s.next,s.serial,s.apps,s.ms,l⟩ hs:=
 ⟨h.q,h.p,h.k,h.m,hc,⟨h.cap.q,h.cap.a,h.cap.m,hn⟩,h.rm.1,h.rm.2.1,h.rm.2.2.1,ho,h.rm.2.2.2.2⟩
theorem SHas.swap {B pg:Nat} {w w':World} {y:Sls} {s:St} {hs:List AV} (h:SHas B w y s hs) (hB:B≤w.heap.size) (hpa:y.aa=some ⟨pg,0,none⟩) {i k n' c':Nat} {ao':Option Addr} (hi:i<s.apps.length) (hb:Below w.heap.size w w')
  (hr:AskRow w' ao' n' (servedL s.apps[i].asks k)) (ho:Own1 w.heap.size w'.heap.size w' 77 5 ao' n') (hoc:Own1 w.heap.size w'.heap.size w' 77 5 ao' c') (hc:n'≤c') :
  ∃hs',SHas B (w'.setCell ⟨pg,i*3+2,none⟩ (.slice ao' n' c')) y (serveSt s (i,k)) hs'∧Mks (fun q=>q=pg) w' (w'.setCell ⟨pg,i*3+2,none⟩ (.slice ao' n' c'))∧B≤pg∧pg<w.heap.size∧∃N,Cel w' 74 pg N∧i*3+2<N:=by
 have hih:i<hs.length:=by rw [h.k.heads.1];exact hi
 have hk:=h.k.swap hB hih hi hb hr ho hc
 have hp:=h.p
 rw [hpa] at hp
 obtain ⟨M,hBp,hpl,hlay,hM,_⟩:=hp.lay (by have:=hp.1.1;omega)
 have hcel:=(hlay.below hb).cel
 have hm:Mks (fun q=>q=pg) w' (w'.setCell ⟨pg,i*3+2,none⟩ (.slice ao' n' c')):=Mks.one _ _ _ _ _ rfl
 have hS:∀q,q=pg→∃N,Cel w' 74 q N:=fun q e=>by subst e;exact ⟨_,hcel⟩
 have hrm:=((h.rm.below hb).mono (Nat.le_refl B) hb.size).mks hm
 refine ⟨_,⟨(h.q.below hb).mkg hm hS (by decide),by rw [hpa];exact (hp.below hb).upd hih ao' n' c',?_,(h.m.below hb).mkg hm hS (by decide),(h.c.below hb).mkg hm hS (by decide),h.cap,?_⟩,hm,hBp,hpl,_,hcel,by have:=Nat.mul_le_mul_right 3 (show i+1≤M by have:=hp.1.1;omega);omega⟩
 ·show KHas B _ _ (serveAt s.apps (i,k))
  rw [served_mod _ _ _ hi]
  exact hk.mkg hm hS (by decide)
 ·have h2:=hrm.mono (Nat.le_refl B) hm.size
  refine ⟨h2.1,h2.2.1,h2.2.2.1,h2.2.2.2.1,fun v hv=>?_⟩
  rcases List.mem_or_eq_of_mem_set hv with hv | rfl
  ·exact h2.2.2.2.2 v hv
  ·exact (hoc.mks hm).mono hB hm.size
def GsAns (B:Nat) (s:St) (nd:List UInt8) (w:World) (e:Ending) (w':World):Prop:=
 ∃y' hs',e=.returned (.tuple #[sv y' (grantV s nd),conv (conOf (nextGV s nd)),.bool (nextGV s nd).isSome])∧SHas B w' y' (grantV s nd) hs'∧(∃g,y'.ca=some ⟨g,0,none⟩)∧Below B w w'
theorem nextG_ok {s:St} {nd:List UInt8} (h:stateOkV s=true):nextV s nd=nextGV s nd:=by rw [nextGV,if_pos h]
theorem l05Grant_any {B:Nat} {y:Sls} {s:St} {hs:List AV} {w:World} (h:SHas B w y s hs) (hBw:B≤w.heap.size) (hca:∃g,y.ca=some ⟨g,0,none⟩) (nd:List UInt8) (hf:FitSt s) (hok:stateOkV s=true) (hnd:nd.length≤1048576) :
  Calls Tryz.prog 24 #[sv y s,.string (bs nd)] w (GsAns B s nd w):=by
 have hb1:=yA (yA (yA (Below.refl _ w) (.cells (svc y s) 34)) (.cells #[.slice none 0 0,.int .i64 0,.int .i64 0,.int .i64 0,.int .i64 0,.slice none 0 0,.slice none 0 0,.slice none 0 0] 34)) (.cells #[.int .i64 0,.int .i64 0,.string ⟨#[]⟩,.int .i64 0,.int .i64 0] 38)
 have P0:=hide (((yD w (svc y s) 34).al (.cells #[.slice none 0 0,.int .i64 0,.int .i64 0,.int .i64 0,.int .i64 0,.slice none 0 0,.slice none 0 0,.slice none 0 0] 34)).al (.cells #[.int .i64 0,.int .i64 0,.string ⟨#[]⟩,.int .i64 0,.int .i64 0] 38))
 have P1:=hide ((yD (w.alloc (.cells (svc y s) 34)) #[.slice none 0 0,.int .i64 0,.int .i64 0,.int .i64 0,.int .i64 0,.slice none 0 0,.slice none 0 0,.slice none 0 0] 34).al (.cells #[.int .i64 0,.int .i64 0,.string ⟨#[]⟩,.int .i64 0,.int .i64 0] 38))
 have P2:=hide (yD ((w.alloc (.cells (svc y s) 34)).alloc (.cells #[.slice none 0 0,.int .i64 0,.int .i64 0,.int .i64 0,.int .i64 0,.slice none 0 0,.slice none 0 0,.slice none 0 0] 34)) #[.int .i64 0,.int .i64 0,.string ⟨#[]⟩,.int .i64 0,.int .i64 0] 38)
 rw [yE] at P1
 rw [yE,yE] at P2
 have H1:=hide (h.below hb1)
 have B1:=hide hb1
 have hz1:(((w.alloc (.cells (svc y s) 34)).alloc (.cells #[.slice none 0 0,.int .i64 0,.int .i64 0,.int .i64 0,.int .i64 0,.slice none 0 0,.slice none 0 0,.slice none 0 0] 34)).alloc (.cells #[.int .i64 0,.int .i64 0,.string ⟨#[]⟩,.int .i64 0,.int .i64 0] 38)).heap.size=w.heap.size+1+1+1:=by simp only [yE]
 have CN:=hide (l05Next_any y s nd _ (uH H1).ans.row hf (ok_asc hok).2.1 (ok_asc hok).2.2)
 have HFC:=hide (fun p (e:nextGV s nd=some p)=>next_facts e)
 have HG:=hide (show ∀e w',GsAns B s nd w e w'↔∃y' hs',e=.returned (.tuple #[sv y' (match nextGV s nd with | none=>s | some p=>grantSt s p),conv (conOf (nextGV s nd)),.bool (nextGV s nd).isSome])∧SHas B w' y' (match nextGV s nd with | none=>s | some p=>grantSt s p) hs'∧(∃g,y'.ca=some ⟨g,0,none⟩)∧Below B w w' from fun e w'=>Iff.rfl)
 rw [nextG_ok hok] at CN
 obtain ⟨p,hp⟩:∃p,nextGV s nd=p:=⟨_,rfl⟩
 rw [hp] at CN HG HFC
 have HP:=hide hp
 have HCA:=hide hca
 have hlow:=hide (fun (hc:y.cl≠0)=>show ∃g,y.ca=some ⟨g,0,none⟩∧g<w.heap.size from by
  rcases h.c.2 with e | ⟨g,M,e,_,e2,_⟩
  ·exact absurd e hc
  ·exact ⟨g,e,e2⟩)
 have HSE:=hide (ok_asc hok).2.2
 clear hb1 h hp hca
 cases p with
 | none=>
  simp only [atS,conOf,Option.isSome_none] at CN HG
  have u0:=(uH P0).at 0;have u1:=(uH P0).at 1;have u2:=(uH P0).at 2;have u3:=(uH P0).at 3;have u4:=(uH P0).at 4;have u5:=(uH P0).at 5;have u6:=(uH P0).at 6;have u7:=(uH P0).at 7
  simp at u0 u1 u2 u3 u4 u5 u6 u7
  go_enter Tryz.func24,Tryz.ntmps24
  go_wp2_with fail
  refine (uH CN).mono ?_
  rintro e w2 ⟨rfl,hb⟩
  have hb3:=yA (Below.refl _ w2) (.cells #[.int .i64 0,.int .i64 0,.string (bs []),.int .i64 0,.int .i64 0] 38)
  have H3:=hide (((uH H1).below hb).below hb3)
  have X3:=hide (((uH P0).below hb).below hb3)
  have Q1:=hide (((uH P1).below hb).below hb3)
  have Q2:=hide (((uH P2).below hb).below hb3)
  have B3:=hide (show Below B w _ from (yB (yB (uH B1) hb) hb3).mono hBw)
  have hz3:B≤w2.heap.size:=by have:=hb.size;rw [hz1] at this;omega
  clear u0 u1 u2 u3 u4 u5 u6 u7 hb hb3 CN H1 P0 P1 P2 B1 hz1
  go_upto_region 3 with fail
  have hz4:B≤(w2.alloc (.cells #[.int .i64 0,.int .i64 0,.string (bs []),.int .i64 0,.int .i64 0] 38)).heap.size:=by rw [yE];omega
  generalize w2.alloc (.cells #[.int .i64 0,.int .i64 0,.string (bs []),.int .i64 0,.int .i64 0] 38)=w3 at H3 X3 Q1 Q2 B3 hz4 ⊢
  refine wp_region_lit ?_
  refine wpList_same (v:=sv y s) (d:=some 20) rfl rfl (run_v (state_load (uH X3) rfl)) ?_
  simp only [Act.put,sA,sB,sC]
  refine wpList_same (v:=.agg #[.int .i64 0,.int .i64 0,.string ⟨#[]⟩,.int .i64 0,.int .i64 0]) (d:=some 21) rfl rfl (by refine run_v ?_;simp only [List.map_toArray,List.map_nil];kernel_rfl) ?_
  simp only [Act.put,sA,sB,sC]
  refine wpList_none (d:=none) rfl rfl (run_u (blk_store 34 (arr:=svc y s) (uH Q1) (by kernel_rfl) rfl (by kernel_rfl))) ?_
  simp only [Act.put]
  have M5:=mks_row (uH Q1) (svc y s) rfl
  have R5:=hide (blk_row (uH Q1) (svc y s))
  have Q5:=hide (M5.blk (uH Q2) (by omega))
  have H5:=hide ((uH H3).other M5 (uH Q1))
  have B5:=hide ((uH B3).trans (M5.below (fun k e=>by subst e;omega) hz4))
  have hz5:B≤(World.setRow w3 (w.heap.size+1) (svc y s)).heap.size:=Nat.le_trans hz4 M5.size
  clear M5 Q1 Q2 H3 X3 B3
  generalize World.setRow w3 (w.heap.size+1) (svc y s)=w5 at R5 Q5 H5 B5 hz5 ⊢
  refine wpList_none (d:=none) rfl rfl (run_u (blk_store 38 (arr:=#[.int .i64 0,.int .i64 0,.string ⟨#[]⟩,.int .i64 0,.int .i64 0]) (uH Q5) (by kernel_rfl) rfl (by kernel_rfl))) ?_
  simp only [Act.put]
  have M6:=mks_row (uH Q5) #[.int .i64 0,.int .i64 0,.string ⟨#[]⟩,.int .i64 0,.int .i64 0] rfl
  have R6:=hide (M6.blk (uH R5) (by omega))
  have T6:=hide (blk_row (uH Q5) #[.int .i64 0,.int .i64 0,.string ⟨#[]⟩,.int .i64 0,.int .i64 0])
  have H6:=hide ((uH H5).offc M6 ⟨_,uH Q5,rfl⟩ (fun hc o e=>by obtain ⟨g,e2,hg⟩:=uH hlow hc;rw [e2] at e;cases e;omega))
  have B6:=hide ((uH B5).trans (M6.below (fun k e=>by subst e;omega) hz5))
  clear M6 R5 Q5 H5 B5
  generalize World.setRow w5 (w.heap.size+1+1) #[.int .i64 0,.int .i64 0,.string ⟨#[]⟩,.int .i64 0,.int .i64 0]=w6 at R6 T6 H6 B6 ⊢
  have HA:=hide (show GsAns B s nd w (.returned (.tuple #[sv y s,conv ⟨0,0,[],0,0⟩,.bool false])) w6 from (uH HG _ _).2 ⟨y,hs,rfl,uH H6,uH HCA,uH B6⟩)
  have z0:=(uH R6).at 0;have z1:=(uH R6).at 1;have z2:=(uH R6).at 2;have z3:=(uH R6).at 3;have z4:=(uH R6).at 4;have z5:=(uH R6).at 5;have z6:=(uH R6).at 6;have z7:=(uH R6).at 7
  simp at z0 z1 z2 z3 z4 z5 z6 z7
  have r0:=(uH T6).at 0;have r1:=(uH T6).at 1;have r2:=(uH T6).at 2;have r3:=(uH T6).at 3;have r4:=(uH T6).at 4
  simp at r0 r1 r2 r3 r4
  clear R6 T6 H6 B6 HG
  go_wp2
  refine bodyPost_ret (v:=.tuple #[sv y s,conv ⟨0,0,[],0,0⟩,.bool false]) (by simp [results,Tryz.results24,go_sem,z0,z1,z2,z3,z4,z5,z6,z7,r0,r1,r2,r3,r4];try rfl) rfl ?_
  exact uH HA
 | some p=>
  obtain ⟨⟨i,k⟩,c⟩:=p
  obtain ⟨-,-,hcl,hi,hk,hce⟩:=uH HFC _ rfl
  simp only at hi hk hce
  have hih:i<hs.length:=by rw [(uH H1).k.heads.1];exact hi
  have hpa:∃pg,y.aa=some ⟨pg,0,none⟩:=by
   rcases (uH H1).p.2 with e | ⟨g,M,e,_⟩
   ·have h1:=(uH H1).p.1.1;omega
   ·exact ⟨g,e⟩
  obtain ⟨pg,hpa⟩:=hpa
  have i1:(i:Int)<y.al:=by have h1:=(uH H1).p.1.1;omega
  have i0':(0:Int)≤i:=by omega
  have hcnt:=ask_count hok hi hk
  obtain ⟨-,-,hrow,-⟩:=(uH H1).k.heads.2 i hih hi
  have hln:hs[i].len=s.apps[i].asks.length:=hrow.1
  obtain ⟨ga,hga⟩:∃g,hs[i].ao=some ⟨g,0,none⟩:=by
   rcases (uH H1).k.own _ (List.getElem_mem hih) with e | ⟨g,M,e,_⟩
   ·omega
   ·exact ⟨g,e⟩
  rw [hga] at hrow
  have hp1:=(uH H1).p
  rw [hpa] at hp1
  obtain ⟨Mp,-,-,hplay,-,-⟩:=hp1.lay (by have:=hp1.1.1;omega)
  have c2:=hplay.cell (pcells_at hs i hih).2.2
  rw [hga] at c2
  have hfl:s.apps[i].asks.length≤1048576:=(hf.2.1.2 _ (List.getElem_mem hi)).2.1
  have CSW:=hide (fun wx wy ao' n' c' (hx:SHas B wx y s hs) (hBx:B≤wx.heap.size) (hb:Below wx.heap.size wx wy) (hr:AskRow wy ao' n' (servedL s.apps[i].asks k)) (ho:Own1 wx.heap.size wy.heap.size wy 77 5 ao' n') (hoc:Own1 wx.heap.size wy.heap.size wy 77 5 ao' c') (hc:n'≤c')=>hx.swap (k:=k) hBx hpa hi hb hr ho hoc hc)
  have HMO:=hide (fun hc=>served_more hk hc)
  have HLA:=hide (fun hc=>served_last hk hc)
  have HAS:=hide (fun l=>acells_set l k)
  obtain ⟨ct,hct⟩:∃x,s.apps[i].asks[k].count=x:=⟨_,rfl⟩
  have HLS:=hide (show lessA s.apps[i].asks[k]=⟨s.apps[i].asks[k].mem,s.apps[i].asks[k].cpu,ct - 1,s.apps[i].asks[k].node,s.apps[i].asks[k].missed⟩ by rw [←hct];rfl)
  have HCT:=hide (show (acells s.apps[i].asks)[k*5+2]? = some (.int .i64 ct) by rw [←hct];exact (acells_at s.apps[i].asks k hk).2.2.1)
  rw [hct] at HMO HLA hcnt
  obtain ⟨n,hn⟩:∃n,hs[i].len=n:=⟨_,rfl⟩
  obtain ⟨cap0,hcap0⟩:∃n,hs[i].cap=n:=⟨_,rfl⟩
  rw [hn] at hrow hln c2
  rw [hcap0] at c2
  have HAK:=hide (show k<s.apps[i].asks.length from hk)
  obtain ⟨c0,c1,cn,c3,c4⟩:=c
  simp only [atS,conOf,Option.isSome_some] at CN HG
  have hcm:y.cl≤1048576:=by have h1:=(uH H1).c.1.1;omega
  have kn:k<n:=by omega
  have RK1:=hide hrow
  have HC2:=hide c2
  have HPA:=hide hpa
  obtain ⟨ak,hak⟩:∃a,s.apps[i].asks=a:=⟨_,rfl⟩
  have HLN:=hide hln
  have HAKE:=hide hak
  have hnn:n≤1048576:=by omega
  clear hln hak hfl c2 hrow hp1 hplay hga hih hce HFC hf hpa hct hcap0 hn
  have u0:=(uH P0).at 0;have u1:=(uH P0).at 1;have u2:=(uH P0).at 2;have u3:=(uH P0).at 3;have u4:=(uH P0).at 4;have u5:=(uH P0).at 5;have u6:=(uH P0).at 6;have u7:=(uH P0).at 7
  simp at u0 u1 u2 u3 u4 u5 u6 u7
  go_enter Tryz.func24,Tryz.ntmps24
  go_wp2_with fail
  refine (uH CN).mono ?_
  rintro e w2 ⟨rfl,hb⟩
  have hb3:=yA (Below.refl _ w2) (.cells #[.int .i64 c0,.int .i64 c1,.string (bs cn),.int .i64 c3,.int .i64 c4] 38)
  have H3:=hide (((uH H1).below hb).below hb3)
  have X3:=hide (((uH P0).below hb).below hb3)
  have Q1:=hide (((uH P1).below hb).below hb3)
  have Q2:=hide (((uH P2).below hb).below hb3)
  have RK3:=hide (((uH RK1).below hb).below hb3)
  have D3:=hide (show (w2.alloc (.cells #[.int .i64 c0,.int .i64 c1,.string (bs cn),.int .i64 c3,.int .i64 c4] 38)).cell? ⟨pg,i*3+2,none⟩=_ from (hb3.cell (yG ((hb.cell (yG (uH HC2))).trans (uH HC2)))).trans ((hb.cell (yG (uH HC2))).trans (uH HC2)))
  have G7:=hide (yD w2 #[.int .i64 c0,.int .i64 c1,.string (bs cn),.int .i64 c3,.int .i64 c4] 38)
  have B3:=hide (yB (yB (uH B1) hb) hb3)
  have hz3:w.heap.size+1+1+1≤w2.heap.size:=by have:=hb.size;rw [hz1] at this;omega
  clear u0 u1 u2 u3 u4 u5 u6 u7 hb hb3 CN H1 P0 P1 P2 B1 hz1 RK1 HC2
  go_upto_region 4 with fail
  have hz4:w2.heap.size<(w2.alloc (.cells #[.int .i64 c0,.int .i64 c1,.string (bs cn),.int .i64 c3,.int .i64 c4] 38)).heap.size:=by rw [yE];omega
  generalize w2.alloc (.cells #[.int .i64 c0,.int .i64 c1,.string (bs cn),.int .i64 c3,.int .i64 c4] 38)=w3 at H3 X3 Q1 Q2 RK3 D3 G7 B3 hz4 ⊢
  generalize w2.heap.size=g7 at G7 hz3 hz4 ⊢
  obtain ⟨i0,hi0,hz0,hzz1,hz2⟩:=info_parts Tryz.infoA
  have hbe:=yA (Below.refl _ w3) (.cells #[] 77)
  have hll:(acells s.apps[i].asks).length=n*5:=by rw [acells_len,uH HLN]
  have hone:=acells_one s.apps[i].asks
  have HNW:=hide (show ∀j u,(acells s.apps[i].asks)[j]? = some u→(w3.alloc (.cells #[] 77)).cell? ((⟨ga,0,none⟩:Addr).add j)=some u from fun j u hj=>by
   rw [Lib.add_plain]
   exact acells_row ((uH RK3).below hbe) j u hj)
  have hown:=aown_empty w3
  rw [uH HAKE] at hll hone HNW
  have x5:=((uH X3).below hbe).at 5
  simp at x5
  rw [uH HPA] at x5
  have d3:=(hbe.cell (yG (uH D3))).trans (uH D3)
  go_wp2_with (at_builtin;refine wpList_append_own _ rfl _ _ 72 rfl w3.heap.size 77 i0 (.agg #[.int .i64 0,.int .i64 0,.int .i64 0,.string ByteArray.empty,.int .i64 0]) 5 48 Tryz.underlying72 hi0 hz0 hzz1 hz2 rfl (by decide) _ _ _ rfl hown ⟨ga,0,none⟩ n cap0 (acells ak) rfl hll (uH HNW) hone ?c3 ?c4 ?c5 ?_)
  case c3=>unfold maxLen;omega
  case c4=>omega
  case c5=>simp
  intro v' w4 hown' hgrow _
  have hbB:Below w3.heap.size w3 w4:=hbe.grown hgrow (by simp) (fun k e=>by simp [Value.ownBlock] at e;omega)
  have hoo:AOwn w3.heap.size w4 v' s.apps[i].asks:=by
   unfold AOwn
   rw [←uH HLN,uH HAKE]
   simpa using hown'
  obtain ⟨ao,cap,rfl,hnc,hr4,ho4⟩:=aown_has hoo
  obtain ⟨g10,M10,rfl,hg10,hgl10,hcel10,hM10⟩:∃g M,ao=some ⟨g,0,none⟩∧w3.heap.size≤g∧g<w4.heap.size∧Cel w4 77 g (M*5)∧cap≤M:=by
   rcases own1_of hoo with e | e
   ·rw [←uH HLN] at hnc;omega
   ·exact e
  rw [←uH HLN] at hr4 hnc
  have HLAY:=hide (hr4.lay hcel10 (Nat.mul_le_mul_right _ (by rw [←uH HLN];omega)))
  have HRW:=hide (fun (l':List Ask) (w':World) (hl':Lay w' 77 g10 (M10*5) (acells l'))=>hl'.rowA)
  have BA:=hide hbB
  clear hown hown' hgrow hoo hr4 ho4 hbe hll hone HNW x5 d3 D3 hi0 hz0 hzz1 hz2 hbB RK3
  have ck:=(uH HLAY).cell (uH HCT)
  have fk:=(uH HLAY).frozen (k*5+2)
  have k0:(0:Int)≤k:=by omega
  have k1:(k:Int)<n:=by omega
  have hwc:IntKind.i64.wrap (ct - 1)=ct - 1:=by rw [IntKind.wrap_i64];omega
  have hwk:IntKind.i64.wrap ((k:Int)+1)=(k:Int)+1:=by rw [IntKind.wrap_i64];omega
  rw [←uH HLN]
  go_upto_if 35 with fail
  go_cut [10] from 30 to 55 (fun v10 wx=>∃ao n' c',v10=.slice ao n' c'∧Hid (AskRow wx ao n' (servedL s.apps[i].asks k))∧Hid (Own1 w3.heap.size wx.heap.size wx 77 5 ao n')∧Hid (Own1 w3.heap.size wx.heap.size wx 77 5 ao c')∧n'≤c'∧Hid (Below w3.heap.size w3 wx))
  case first=>
   by_cases hc:1<ct
   ·have HLM:=hide (lay_set (uH HLAY) (p:=k*5+2) (by rw [acells_len,←uH HLN];omega) (.int .i64 (ct - 1)))
    have HMM:=hide (Mks.one (fun q=>q=g10) w4 g10 (k*5+2) (.int .i64 (ct - 1)) rfl)
    have HCC:=hide hc
    go_wp2_with fail
    go_meet
    refine ⟨some ⟨g10,0,none⟩,n,cap,rfl,hide ?_,hide ?_,hide ?_,by omega,hide ?_⟩
    ·have h1:=uH HLM
     rw [←uH HAS _ (uH HAK) (ct - 1)] at h1
     have h2:=h1.rowA
     rw [List.length_set] at h2
     rw [uH HMO (uH HCC),uH HLS,uH HLN]
     exact h2
    ·exact .inr ⟨g10,M10,rfl,hg10,by rw [set_size];exact hgl10,(uH HMM).cel _ _ _ hcel10,by omega⟩
    ·exact .inr ⟨g10,M10,rfl,hg10,by rw [set_size];exact hgl10,(uH HMM).cel _ _ _ hcel10,hM10⟩
    ·exact yC (uH BA) _ _ _ hg10
   ·have HLL:=hide (uH HLA (by omega))
    go_upto_region 7 with fail
    obtain ⟨i0,hi0,hz0,hzz1,hz2⟩:=info_parts Tryz.infoA
    have hlo:=cutA_lo g10 n cap k (by omega)
    have hhi:∀wx:World,(Instr.slice 72 (.slice (some ⟨g10,0,none⟩) n cap) (some (.int .i64 ((k:Int)+1))) none none).run Tryz.prog wx=.ok (.slice (some (hiA g10 cap (k+1) 5)) (n - (k+1)) (cap - (k+1))) wx:=fun wx=>by
     have:=cutA_hi g10 n cap (k+1) (by omega) wx
     rwa [show (((k+1:Nat)):Int)=(k:Int)+1 by omega] at this
    obtain ⟨NC1,hc1⟩:∃c,acells (s.apps[i].asks.take k)=c:=⟨_,rfl⟩
    obtain ⟨NC2,hc2⟩:∃c,acells (s.apps[i].asks.drop (k+1))=c:=⟨_,rfl⟩
    have HL1:=hide (show NC1.length=k*5 by rw [←hc1,acells_len,List.length_take,Nat.min_eq_left (by have:=uH HLN;omega)])
    have HL2:=hide (show NC2.length=(n - (k+1))*5 by rw [←hc2,acells_len,List.length_drop,←uH HLN])
    have hsp1:acells s.apps[i].asks=NC1++acells (s.apps[i].asks.drop k):=by rw [←hc1,←acells_append,List.take_append_drop]
    have hsp2:acells s.apps[i].asks=acells (s.apps[i].asks.take (k+1))++NC2:=by rw [←hc2,←acells_append,List.take_append_drop]
    have HLO:=hide (show ∀wx:World,Kp w4 wx→∀j u,NC1[j]? = some u→wx.cell? (Addr.add ⟨g10,0,none⟩ j)=some u from fun wx hb j u hu=>by
     rw [Lib.add_plain,Nat.zero_add]
     refine ((uH HLAY).below hb).cell ?_
     rw [hsp1,List.getElem?_append_left (List.getElem?_eq_some_iff.1 hu).1]
     exact hu)
    have HHI:=hide (show ∀wx:World,Kp w4 wx→∀j u,NC2[j]? = some u→wx.cell? (Addr.add (hiA g10 cap (k+1) 5) j)=some u from fun wx hb j u hu=>by
     have hlt:=(List.getElem?_eq_some_iff.1 hu).1
     rw [uH HL2] at hlt
     rw [hiA_at (by omega)]
     refine ((uH HLAY).below hb).cell ?_
     have hl1:(acells (s.apps[i].asks.take (k+1))).length=(k+1)*5:=by rw [acells_len,List.length_take,Nat.min_eq_left (by have:=uH HLN;omega)]
     rw [hsp2,List.getElem?_append_right (by rw [hl1];omega),hl1,Nat.add_sub_cancel_left]
     exact hu)
    have HO1:=hide (show ∀u ∈ NC1,u.oneCell'=true by rw [←hc1];exact acells_one _)
    have HO2:=hide (show ∀u ∈ NC2,u.oneCell'=true by rw [←hc2];exact acells_one _)
    have HER:=hide (show NC1++NC2=acells (s.apps[i].asks.eraseIdx k) by rw [acells_erase _ _ (uH HAK),hc1,hc2])
    clear hc1 hc2 hsp1 hsp2
    refine wp_region_held_drew (S:=fun wx=>Kp w4 wx) (by kernel_rfl) ((kp_holds w4).drew (Kp.new w4)) (fun S0=>?_)
    generalize w4.drew=wn at S0 ⊢
    refine takeW 1 47 _ rfl rfl S0 ?_
    try simp only [Act.put,sA,sB,sC]
    refine takeW 2 48 _ rfl rfl S0 ?_
    try simp only [Act.put,sA,sB,sC]
    refine takeW 3 49 (.slice (some ⟨g10,0,none⟩) k cap) rfl rfl S0 ?_ (hy:=Or.inl ⟨by rfl,fun wz hz=>run_v (hlo wz)⟩)
    try simp only [Act.put,sA,sB,sC]
    refine takeW 5 51 _ rfl rfl S0 ?_
    try simp only [Act.put,sA,sB,sC]
    refine takeW 6 52 _ rfl rfl S0 ?_
    try simp only [Act.put,sA,sB,sC]
    refine takeW 7 53 (.int .i64 ((k:Int)+1)) rfl rfl S0 ?_
    try simp only [Act.put,sA,sB,sC]
    refine takeW 8 54 (.slice (some (hiA g10 cap (k+1) 5)) (n - (k+1)) (cap - (k+1))) rfl rfl S0 ?_ (hy:=Or.inl ⟨by rfl,fun wz hz=>run_v (hhi wz)⟩)
    try simp only [Act.put,sA,sB,sC]
    have IR:=irow_new (E:=77) (sz:=5) S0
    refine wpAnyH_ready (rs:=[0]) (by kernel_rfl) (by simp) (AllReadyH.cons rfl (fun K hK=>?_) AllReadyH.nil)
    go_simp
    go_wp2_with fail
    have S1:Kp w4 _:=yA S0 (.cells #[] 77)
    clear S0
    refine hK.out _ _ S1 (fun S0=>?_)
    clear hK K S1
    try simp only [Act.put,sA,sB,sC]
    generalize wn.alloc (.cells #[] 77)=wa at S0 IR ⊢
    generalize wn.heap.size=g0 at IR ⊢
    refine wpAnyH_ready (rs:=[4]) (by kernel_rfl) (by simp) (AllReadyH.cons rfl (fun K hK=>?_) AllReadyH.nil)
    refine ins_app (w1:=w4) rfl (.tmp 46) (.tmp 49) 72 rfl 77 i0 (.agg #[.int .i64 0,.int .i64 0,.int .i64 0,.string ByteArray.empty,.int .i64 0]) 5 48 Tryz.underlying72 hi0 hz0 hzz1 hz2 rfl (by decide) (.slice (some ⟨g0,0,none⟩) 0 0) 0 [] rfl IR S0 ⟨g10,0,none⟩ k cap NC1 rfl (uH HL1) (fun j u hu=>uH HLO _ S0 j u hu) (uH HO1) (by unfold maxLen;omega) (by omega) ?_
    intro v1 wb hr1 kp1 _
    show K (Act.put _ (some 50) v1) wb
    clear S0 IR
    refine hK.out _ _ kp1 (fun S0=>?_)
    clear hK K kp1
    try simp only [Act.put,sA,sB,sC]
    refine wpAnyH_ready (rs:=[9]) (by kernel_rfl) (by simp) (AllReadyH.cons rfl (fun K hK=>?_) AllReadyH.nil)
    refine ins_app (w1:=w4) rfl (.tmp 50) (.tmp 54) 72 rfl 77 i0 (.agg #[.int .i64 0,.int .i64 0,.int .i64 0,.string ByteArray.empty,.int .i64 0]) 5 48 Tryz.underlying72 hi0 hz0 hzz1 hz2 rfl (by decide) v1 (0+k) ([]++NC1) rfl hr1 S0 (hiA g10 cap (k+1) 5) (n - (k+1)) (cap - (k+1)) NC2 rfl (uH HL2) (fun j u hu=>uH HHI _ S0 j u hu) (uH HO2) (by unfold maxLen;omega) (by omega) ?_
    intro v2 wd hr2 kp2 _
    show K (Act.put _ (some 55) v2) wd
    clear S0 hr1
    refine hK.out _ _ kp2 (fun S0=>?_)
    clear hK K kp2
    try simp only [Act.put,sA,sB,sC]
    refine takeW 10 10 _ rfl rfl S0 ?_
    try simp only [Act.put,sA,sB,sC]
    refine wpAnyH_done (by kernel_rfl) ?_ _
    have hao:AOwn w4.heap.size wd v2 (s.apps[i].asks.eraseIdx k):=by
     unfold AOwn
     have h1:=hr2.1
     rw [List.nil_append,uH HER] at h1
     rw [List.length_eraseIdx_of_lt (uH HAK),←uH HLN,show n - 1=0+k+(n - (k+1)) by omega]
     exact h1
    obtain ⟨ao,cp,rfl,hcp,hrw,how⟩:=aown_has hao
    have HOC:=hide (own1_of hao)
    have HRW2:=hide hrw
    have HOW:=hide how
    have BD:=hide (yB (uH BA) S0)
    have hz34:w3.heap.size≤w4.heap.size:=(uH BA).size
    obtain ⟨n',hn'⟩:∃n',(s.apps[i].asks.eraseIdx k).length=n':=⟨_,rfl⟩
    rw [hn'] at HRW2 HOW hcp ⊢
    clear hao hr2 S0 hrw how hn'
    go_wp2_with fail
    go_meet
    refine ⟨ao,n',cp,rfl,hide ?_,hide ((uH HOW).mono hz34 (Nat.le_refl _)),hide ((uH HOC).mono hz34 (Nat.le_refl _)),hcp,BD⟩
    rw [uH HLL]
    exact uH HRW2
  case rest=>
   obtain ⟨ao,n',c',rfl,RW,OW,OC,hnc',hbz⟩:=hcut
   obtain ⟨w5,rfl⟩:∃z,z=wc:=⟨_,rfl⟩
   have hBw3:B≤w3.heap.size:=by omega
   obtain ⟨hs5,h5,hm5,hBp,hpl,N5,hcel5,hN5⟩:=uH CSW w3 w5 ao n' c' (uH H3) hBw3 (uH hbz) (uH RW) (uH OW) (uH OC) hnc'
   have hne:∀{b:Nat} {arr:Array Value} {t:TypeId},Blk w5 b arr t→t≠74→¬b=pg:=fun hb ht e=>by subst e;exact ht (Cel.type ⟨_,hb,rfl⟩ hcel5)
   have hb5:=uH hbz
   have X5:=hide ((uH X3).below hb5)
   have Q15:=hide ((uH Q1).below hb5)
   have Q25:=hide ((uH Q2).below hb5)
   have G75:=hide ((uH G7).below hb5)
   have B5:=hide ((yB (uH B3) hb5).mono hBw)
   have hz5:B≤w5.heap.size:=Nat.le_trans hBw3 hb5.size
   have H6:=hide h5
   have X6:=hide (hm5.blk (uH X5) (hne (uH X5) (by decide)))
   have Q16:=hide (hm5.blk (uH Q15) (hne (uH Q15) (by decide)))
   have Q26:=hide (hm5.blk (uH Q25) (hne (uH Q25) (by decide)))
   have G76:=hide (hm5.blk (uH G75) (hne (uH G75) (by decide)))
   have B6:=hide ((uH B5).trans (hm5.below (fun k e=>by subst e;exact hBp) hz5))
   obtain ⟨old,hold⟩:=Option.isSome_iff_exists.1 (hcel5.isThere (j:=i*3+2) hN5)
   have fp:=hcel5.frozen (i*3+2)
   have x5:=(uH X5).at 5
   simp at x5
   rw [uH HPA] at x5
   have hz6:B≤(w5.setCell ⟨pg,i*3+2,none⟩ (.slice ao n' c')).heap.size:=by rw [set_size];exact hz5
   clear h5 hm5 hne hb5 hbz X5 Q15 Q25 G75 B5 H3 X3 Q1 Q2 G7 B3 RW OW OC CSW HMO HLA HLS HCT HLAY HRW BA ck fk HAS
   go_upto_region 9 with fail
   clear x5 hold fp
   generalize w5.setCell ⟨pg,i*3+2,none⟩ (.slice ao n' c')=w6 at H6 X6 Q16 Q26 G76 B6 hz6 ⊢
   obtain ⟨gc,hgc⟩:=uH HCA
   have x7:=(uH X6).at 7
   simp at x7
   rw [hgc] at x7
   have HGC:=hide hgc
   clear hgc
   have q0:=(uH G76).at 0;have q1:=(uH G76).at 1;have q2:=(uH G76).at 2;have q3:=(uH G76).at 3;have q4:=(uH G76).at 4
   simp at q0 q1 q2 q3 q4
   go_wp2_with fail
   refine (l05Add_any gc y.cl y.cc s.cs ⟨c0,c1,cn,c3,c4⟩ _ (by have h1:=(uH H6).c.1;rw [uH HGC] at h1;exact h1) (uH H6).cap.c hcm).mono ?_
   rintro e w7 ⟨v,rfl,HOW,HNE,BB⟩
   clear q0 q1 q2 q3 q4 x7
   obtain ⟨co,cd,rfl,hcd,hch⟩:=cown_has (uH HOW)
   obtain ⟨g9,rfl⟩:∃g,co=some ⟨g,0,none⟩:=by
    rcases (uH HOW).2 with ⟨e,_⟩ | ⟨g,cap,cur,e,_⟩
    ·exact absurd e (uH HNE)
    ·cases e;exact ⟨g,rfl⟩
   have hw67:=(uH BB).size
   have H7:=hide (((uH H6).below (uH BB)).conts (hch.base (by omega)) hcd ((own1_of (uH HOW)).mono (by omega) (Nat.le_refl _)))
   have X7:=hide ((uH X6).below (uH BB))
   have Q17:=hide ((uH Q16).below (uH BB))
   have Q27:=hide ((uH Q26).below (uH BB))
   have G77:=hide ((uH G76).below (uH BB))
   have B7:=hide ((uH B6).trans ((uH BB).mono hz6))
   have hz7:B≤w7.heap.size:=Nat.le_trans hz6 hw67
   obtain ⟨n9,hn9⟩:∃m,(insC s.cs ⟨c0,c1,cn,c3,c4⟩).length=m:=⟨_,rfl⟩
   rw [hn9] at H7 ⊢
   have x7:=(uH X7).at 7
   simp at x7
   have f7:=(uH X7).f 7
   have hgo:g9≠w.heap.size+1+1:=fun e=>by
    have:=(uH HOW).2
    rcases this with ⟨e2,_⟩ | ⟨g,cap,cur,e2,h2,_⟩
    ·cases e2
    ·cases e2
     have:=(uH Q26).lt
     omega
   clear HOW HNE BB hcd hch hn9 H6 X6 Q16 Q26 G76 B6 hz6 hw67
   go_upto_region 10 with fail
   have M8:=Mks.one (fun q=>q=w.heap.size) w7 w.heap.size 7 (.slice (some ⟨g9,0,none⟩) n9 cd) rfl
   have X8:=hide (show Blk _ w.heap.size (svc ⟨y.qa,y.ql,y.qc,y.aa,y.al,y.ac,y.ma,y.ml,y.mc,some ⟨g9,0,none⟩,n9,cd⟩ s) 34 from (uH X7).set 7 (.slice (some ⟨g9,0,none⟩) n9 cd))
   have H8:=hide ((uH H7).other M8 (uH X7))
   have Q18:=hide (M8.blk (uH Q17) (by omega))
   have Q28:=hide (M8.blk (uH Q27) (by omega))
   have G78:=hide (M8.blk (uH G77) (by omega))
   have B8:=hide ((uH B7).trans (M8.below (fun k e=>by subst e;exact hBw) hz7))
   have hz8:B≤(w7.setCell ⟨w.heap.size,7,none⟩ (.slice (some ⟨g9,0,none⟩) n9 cd)).heap.size:=by rw [set_size];exact hz7
   clear x7 f7 M8 X7 H7 Q17 Q27 G77 B7 hz7
   generalize w7.setCell ⟨w.heap.size,7,none⟩ (.slice (some ⟨g9,0,none⟩) n9 cd)=w8 at X8 H8 Q18 Q28 G78 B8 hz8 ⊢
   have x4:=(uH X8).at 4
   simp at x4
   have fx4:=(uH X8).f 4
   have hse:=uH HSE
   have hws:IntKind.i64.wrap (s.serial+1)=s.serial+1:=by rw [IntKind.wrap_i64];omega
   go_upto_region 11 with fail
   have X9:=hide ((uH X8).set 4 (.int .i64 (s.serial+1)))
   have M9:=hide (Mks.one (fun q=>q=w.heap.size) w8 w.heap.size 4 (.int .i64 (s.serial+1)) rfl)
   clear x4 fx4
   generalize w8.setCell ⟨w.heap.size,4,none⟩ (.int .i64 (s.serial+1))=w9 at X9 M9 ⊢
   have x4:=(uH X9).at 4
   simp at x4
   have fx4:=(uH X9).f 4
   go_upto_if 73 with fail
   go_cut [71] from 72 to 74 (fun v71 wx=>Hid (Blk wx w.heap.size (svc ⟨y.qa,y.ql,y.qc,y.aa,y.al,y.ac,y.ma,y.ml,y.mc,some ⟨g9,0,none⟩,n9,cd⟩ ⟨s.qs,s.clock,s.epoch,s.next,serialV s.serial,serveAt s.apps (i,k),s.ms,insC s.cs ⟨c0,c1,cn,c3,c4⟩⟩) 34∧Mks (fun q=>q=w.heap.size) w8 wx))
   case first=>
    by_cases hs9:99999<s.serial+1
    ·go_wp2_with fail
     go_meet
     refine hide ⟨?_,(uH M9).trans (Mks.one (fun q=>q=w.heap.size) w9 w.heap.size 4 (.int .i64 1) rfl)⟩
     have:=(uH X9).set 4 (.int .i64 1)
     simp only [serialV]
     rw [if_pos (by omega)]
     exact this
    ·go_wp2_with fail
     go_meet
     refine hide ⟨?_,uH M9⟩
     simp only [serialV]
     rw [if_neg (by omega)]
     exact uH X9
   case rest=>
    obtain ⟨w10,rfl⟩:∃z,z=wc:=⟨_,rfl⟩
    have XA:=hide (uH hcut).1
    have HA0:=hide (((uH H8).other (uH hcut).2 (uH X8)).nums (s':=⟨s.qs,s.clock,s.epoch,s.next,serialV s.serial,serveAt s.apps (i,k),s.ms,insC s.cs ⟨c0,c1,cn,c3,c4⟩⟩) rfl rfl rfl rfl)
    have Q1A:=hide ((uH hcut).2.blk (uH Q18) (by omega))
    have Q2A:=hide ((uH hcut).2.blk (uH Q28) (by omega))
    have G7A:=hide ((uH hcut).2.blk (uH G78) (by omega))
    have BA:=hide ((uH B8).trans ((uH hcut).2.below (fun k e=>by subst e;exact hBw) hz8))
    have hzA:B≤w10.heap.size:=Nat.le_trans hz8 (uH hcut).2.size
    clear hcut X8 H8 Q18 Q28 G78 B8 hz8 X9 M9 x4 fx4 hws
    go_upto_region 13 with fail
    refine wp_region_held_drew (S:=fun wx=>Blk wx w.heap.size (svc ⟨y.qa,y.ql,y.qc,y.aa,y.al,y.ac,y.ma,y.ml,y.mc,some ⟨g9,0,none⟩,n9,cd⟩ ⟨s.qs,s.clock,s.epoch,s.next,serialV s.serial,serveAt s.apps (i,k),s.ms,insC s.cs ⟨c0,c1,cn,c3,c4⟩⟩) 34∧Blk wx g7 #[.int .i64 c0,.int .i64 c1,.string (bs cn),.int .i64 c3,.int .i64 c4] 38) (by kernel_rfl) ⟨(uH XA).drew,(uH G7A).drew⟩ (fun S0=>?_)
    have HB:=hide ((uH HA0).below (Below.refl _ w10).drew)
    have Q1B:=hide (uH Q1A).drew
    have Q2B:=hide (uH Q2A).drew
    have BB:=hide ((uH BA).trans (Below.refl B w10).drew)
    have hzB:B≤w10.drew.heap.size:=hzA
    clear XA HA0 Q1A Q2A G7A BA hzA
    generalize w10.drew=wn at S0 HB Q1B Q2B BB hzB ⊢
    refine takeW 0 75 (sv ⟨y.qa,y.ql,y.qc,y.aa,y.al,y.ac,y.ma,y.ml,y.mc,some ⟨g9,0,none⟩,n9,cd⟩ ⟨s.qs,s.clock,s.epoch,s.next,serialV s.serial,serveAt s.apps (i,k),s.ms,insC s.cs ⟨c0,c1,cn,c3,c4⟩⟩) rfl rfl S0 ?_ (hy:=Or.inl ⟨by rfl,fun wz hz=>run_v (state_load hz.1 rfl)⟩)
    try simp only [Act.put,sA,sB,sC]
    refine takeW 1 76 (conv ⟨c0,c1,cn,c3,c4⟩) rfl rfl S0 ?_ (hy:=Or.inl ⟨by rfl,fun wz hz=>run_v (cont_load hz.2 rfl)⟩)
    try simp only [Act.put,sA,sB,sC]
    have M7:=mks_row (uH Q1B) (svc ⟨y.qa,y.ql,y.qc,y.aa,y.al,y.ac,y.ma,y.ml,y.mc,some ⟨g9,0,none⟩,n9,cd⟩ ⟨s.qs,s.clock,s.epoch,s.next,serialV s.serial,serveAt s.apps (i,k),s.ms,insC s.cs ⟨c0,c1,cn,c3,c4⟩⟩) rfl
    have S1:=And.intro (M7.blk S0.1 (by omega)) (M7.blk S0.2 (by omega))
    have R7:=hide (blk_row (uH Q1B) (svc ⟨y.qa,y.ql,y.qc,y.aa,y.al,y.ac,y.ma,y.ml,y.mc,some ⟨g9,0,none⟩,n9,cd⟩ ⟨s.qs,s.clock,s.epoch,s.next,serialV s.serial,serveAt s.apps (i,k),s.ms,insC s.cs ⟨c0,c1,cn,c3,c4⟩⟩))
    have H7:=hide ((uH HB).other M7 (uH Q1B))
    have Q7:=hide (M7.blk (uH Q2B) (by omega))
    have B7:=hide ((uH BB).trans (M7.below (fun k e=>by subst e;omega) hzB))
    have hz7:B≤(World.setRow wn (w.heap.size+1) (svc ⟨y.qa,y.ql,y.qc,y.aa,y.al,y.ac,y.ma,y.ml,y.mc,some ⟨g9,0,none⟩,n9,cd⟩ ⟨s.qs,s.clock,s.epoch,s.next,serialV s.serial,serveAt s.apps (i,k),s.ms,insC s.cs ⟨c0,c1,cn,c3,c4⟩⟩)).heap.size:=Nat.le_trans hzB M7.size
    refine wpAnyH_ready (rs:=[2]) (by kernel_rfl) (by simp) (AllReadyH.cons rfl (fun K hK=>readyU (by rfl) rfl (run_u (blk_store 34 (arr:=svc ⟨y.qa,y.ql,y.qc,y.aa,y.al,y.ac,y.ma,y.ml,y.mc,some ⟨g9,0,none⟩,n9,cd⟩ ⟨s.qs,s.clock,s.epoch,s.next,serialV s.serial,serveAt s.apps (i,k),s.ms,insC s.cs ⟨c0,c1,cn,c3,c4⟩⟩) (uH Q1B) (by kernel_rfl) rfl (by kernel_rfl))) ?_) AllReadyH.nil)
    clear S0
    refine hK.out _ _ S1 (fun S0=>?_)
    clear hK K S1 M7 HB Q1B Q2B BB hzB
    try simp only [Act.put,sA,sB,sC]
    generalize World.setRow wn (w.heap.size+1) (svc ⟨y.qa,y.ql,y.qc,y.aa,y.al,y.ac,y.ma,y.ml,y.mc,some ⟨g9,0,none⟩,n9,cd⟩ ⟨s.qs,s.clock,s.epoch,s.next,serialV s.serial,serveAt s.apps (i,k),s.ms,insC s.cs ⟨c0,c1,cn,c3,c4⟩⟩)=w11 at S0 R7 H7 Q7 B7 hz7 ⊢
    have M9:=mks_row (uH Q7) #[.int .i64 c0,.int .i64 c1,.string (bs cn),.int .i64 c3,.int .i64 c4] rfl
    have S1:=And.intro (M9.blk S0.1 (by omega)) (M9.blk S0.2 (by omega))
    have R9:=hide (M9.blk (uH R7) (by omega))
    have T9:=hide (blk_row (uH Q7) #[.int .i64 c0,.int .i64 c1,.string (bs cn),.int .i64 c3,.int .i64 c4])
    have H9:=hide ((uH H7).offc M9 ⟨_,uH Q7,rfl⟩ (fun _ o e=>by cases e;exact hgo rfl))
    have B9:=hide ((uH B7).trans (M9.below (fun k e=>by subst e;omega) hz7))
    refine wpAnyH_ready (rs:=[3]) (by kernel_rfl) (by simp) (AllReadyH.cons rfl (fun K hK=>readyU (by rfl) rfl (run_u (blk_store 38 (arr:=#[.int .i64 c0,.int .i64 c1,.string (bs cn),.int .i64 c3,.int .i64 c4]) (uH Q7) (by kernel_rfl) rfl (by kernel_rfl))) ?_) AllReadyH.nil)
    clear S0
    refine hK.out _ _ S1 (fun S0=>?_)
    clear hK K S1 M9 R7 H7 Q7 B7 hz7
    try simp only [Act.put,sA,sB,sC]
    generalize World.setRow w11 (w.heap.size+1+1) #[.int .i64 c0,.int .i64 c1,.string (bs cn),.int .i64 c3,.int .i64 c4]=w12 at S0 R9 T9 H9 B9 ⊢
    refine takeW 4 6 _ rfl rfl S0 ?_
    try simp only [Act.put,sA,sB,sC]
    refine wpAnyH_done (by kernel_rfl) ?_ _
    clear S0
    have HA:=hide (show GsAns B s nd w (.returned (.tuple #[sv ⟨y.qa,y.ql,y.qc,y.aa,y.al,y.ac,y.ma,y.ml,y.mc,some ⟨g9,0,none⟩,n9,cd⟩ ⟨s.qs,s.clock,s.epoch,s.next,serialV s.serial,serveAt s.apps (i,k),s.ms,insC s.cs ⟨c0,c1,cn,c3,c4⟩⟩,conv ⟨c0,c1,cn,c3,c4⟩,.bool true])) w12 from (uH HG _ _).2 ⟨⟨y.qa,y.ql,y.qc,y.aa,y.al,y.ac,y.ma,y.ml,y.mc,some ⟨g9,0,none⟩,n9,cd⟩,hs5,rfl,uH H9,⟨g9,rfl⟩,uH B9⟩)
    have z0:=(uH R9).at 0;have z1:=(uH R9).at 1;have z2:=(uH R9).at 2;have z3:=(uH R9).at 3;have z4:=(uH R9).at 4;have z5:=(uH R9).at 5;have z6:=(uH R9).at 6;have z7:=(uH R9).at 7
    simp at z0 z1 z2 z3 z4 z5 z6 z7
    have r0:=(uH T9).at 0;have r1:=(uH T9).at 1;have r2:=(uH T9).at 2;have r3:=(uH T9).at 3;have r4:=(uH T9).at 4
    simp at r0 r1 r2 r3 r4
    clear R9 T9 H9 B9 HG
    go_wp2
    refine bodyPost_ret (v:=.tuple #[sv ⟨y.qa,y.ql,y.qc,y.aa,y.al,y.ac,y.ma,y.ml,y.mc,some ⟨g9,0,none⟩,n9,cd⟩ ⟨s.qs,s.clock,s.epoch,s.next,serialV s.serial,serveAt s.apps (i,k),s.ms,insC s.cs ⟨c0,c1,cn,c3,c4⟩⟩,conv ⟨c0,c1,cn,c3,c4⟩,.bool true]) (by simp [results,Tryz.results24,go_sem,z0,z1,z2,z3,z4,z5,z6,z7,r0,r1,r2,r3,r4]) rfl ?_
    exact uH HA
end
end Go.Proofs.YtdhibeclkdepiaaGreat
