/-
  Texts in one: TakC, TkaC, TakM, TakP, TakB, StEnd, DrA, DrB, StBx, InsC.
-/
import Derived.Test.YtngkddhcmfbjnaaGreatSackM
import Derived.Laws.Rows
import Derived.Lib.Overlaps
import Derived.Lib.AppendZerosOnto
import Derived.Lib.JoinLaws
import Derived.Deep.AppendSrc
import Derived.Deep.DeepAppendWide
import Derived.Laws.Externs
set_option maxRecDepth 100000
set_option maxHeartbeats 16000000
set_option linter.unusedVariables false
set_option linter.unusedSimpArgs false
namespace Go.Proofs.YtngkddhcmfbjnaaGreat
section
open Go.RowKit
variable {arr old:Array Value} {hs:List AV} {gl l:List Con} {xs:List Value} {B B' E M N b cap g n sz:Nat} {S:Nat→Prop} {ao:Option Addr} {x y:Sls} {s:St} {t t':TypeId} {v:Value} {a w w':World}
theorem eZ:∀a b:List Con,aJ (a++b)=aJ a++aJ b
  | [],b=>rfl
  | q::t,b=>by rw [List.cons_append,aJ,aJ,eZ t b,List.append_assoc]
theorem aDr (l:List Con) (i:Nat) (h:i≤l.length):(aJ l).take (i*5)=aJ (l.take i):=by
  have e:aJ l=aJ (l.take i)++aJ (l.drop i):=by rw [←eZ,List.take_append_drop]
  have hl:(aJ (l.take i)).length=i*5:=by rw [bB,List.length_take,Nat.min_eq_left h]
  rw [e,←hl,List.take_left]
theorem aDs (l:List Con) (i:Nat) (h:i≤l.length):(aJ l).drop (i*5)=aJ (l.drop i):=by
  have e:aJ l=aJ (l.take i)++aJ (l.drop i):=by rw [←eZ,List.take_append_drop]
  have hl:(aJ (l.take i)).length=i*5:=by rw [bB,List.length_take,Nat.min_eq_left h]
  rw [e,←hl,List.drop_left]
theorem aJz (l:List Con) (R:List Value) (i:Nat) (h:i<l.length):∃R',splice (aJ l++R) (i*5) (aJ (l.drop (i+1)))=aJ (l.eraseIdx i)++R'∧(aJ (l.eraseIdx i)++R').length=(aJ l++R).length:=by
  have hl:=bB l
  have hd:=bB (l.drop (i+1))
  rw [List.length_drop] at hd
  refine ⟨(aJ l++R).drop (i*5+(aJ (l.drop (i+1))).length),?_,?_⟩
  · rw [splice,List.take_append_of_le_length (by omega),aDr l i (by omega),←List.append_assoc,←eZ,List.eraseIdx_eq_take_drop_succ]
  · rw [List.length_append,List.length_drop,bB,List.length_append,List.length_eraseIdx_of_lt h]
    have:(l.length - (i+1))*5=l.length*5 - (i+1)*5:=Nat.sub_mul _ _ _
    omega
theorem Lay.rowC (h:Lay w 52 g M (aJ l)):bG w (some ⟨g,0,none⟩) l.length l:=by
  refine ⟨rfl,.inr ⟨g,0,rfl,fun i hi=>?_⟩⟩
  obtain ⟨a,b,c,d,e⟩:=gQ l i hi
  unfold mQ
  simp only [Nat.zero_add]
  exact ⟨h.cell a,h.cell b,h.cell c,h.cell d,h.cell e⟩
def rD (w:World) (g M:Nat) (l gl:List Con):Prop:=∃v,Blk w (g+1) #[.slice (some ⟨g,0,none⟩) l.length l.length,v] 65∧Lay w 52 g M (aJ l)∧zQ (g+2) w v gl
theorem rD.below (h:rD w g M l gl) (hb:Bw w w'):rD w' g M l gl:=let ⟨v,a,b,c⟩:=h;⟨v,a.below hb,b.below hb,aAh c hb⟩
theorem mU (ao:Option Addr) (n c:Nat) (l:List Con) (w:World) (h:bG w ao n l) (hn:n≤1048576) :
    cP 29 #[.slice ao n c] w fun e w'=>e=.returned (.pointer (some ⟨w.heap.size+1,0,none⟩))∧rD w' w.heap.size (n*5) l []∧w'.heap.size=w.heap.size+2∧Bw w w':=by
  obtain ⟨i0,hi,hz0,hz1,hz2⟩:=info_parts Tryz.infoCont
  have hsz:(Tryz.prog.info? 52).map (·.size)=some 5:=by rw [hi];exact congrArg some hz1
  have hmk:=aGr n hn w
  obtain ⟨A,hA⟩:∃A:Array Value,madeCells (conv ⟨0,0,[],0,0⟩).cells (n*5)=A:=⟨_,rfl⟩
  have hAs:A.size=n*5:=by rw [←hA];simp [madeCells]
  rw [hA] at hmk
  have hb0:=yA (yH _ w) (.cells A 52)
  have HB0:=aA hb0
  have hg0:(w.alloc (.cells A 52)).heap[w.heap.size]? = some (.cells A.toList.toArray 52 (0,0)):=by
    show (w.heap.push _)[w.heap.size]? = _
    simp
  have hcl:(aJ l).length=n*5:=by rw [bB,h.1]
  have KZ:=aA (show n≠0→∃ad,ao=some ad∧∀j v,(aJ l)[j]? = some v→(w.alloc (.cells A 52)).cell? (ad.add j)=some v from fun hz=>by
    rcases h.2 with e | ⟨b,off,e,_⟩
    · exact absurd e hz
    · subst e
      refine ⟨_,rfl,fun j v hv=>?_⟩
      rw [Lib.add_plain]
      exact iJ (h.below hb0) j v hv)
  have Q6:=aA h.1
  have Mw:=aA hg0
  have Rj:=aA (jF l)
  have QC:=aA hcl
  have HAS:=aA hAs
  clear h hA hb0 hg0 hcl hAs
  go_enter Tryz.func29,Tryz.ntmps29
  go_upto_region 2 with fail
  go_wp2_with (refine vI rfl (.tmp 7) (.tmp 8) 27 27 rfl 52 5 Tryz.underlying27 hsz _ _ _ _ _ _ rfl rfl w.heap.size 0 A.toList 52 (uH Mw) (aJ l) n (Nat.min_self n).symm (uH QC) (fun hz=>⟨rfl,uH KZ hz⟩) (by have:=uH QC;have:=uH HAS;simp;omega) (uH Rj) ?_)
  intro w1 XG HM1 hw1
  have hs1:w1.heap.size=w.heap.size+1:=by simpa using hw1
  have yz:=aA (show Lay w1 52 w.heap.size (n*5) (aJ l) from ⟨[],by
    have:=uH XG
    rw [splice,List.take_zero,List.nil_append,Nat.zero_add] at this
    rw [List.drop_of_length_le (by have:=uH QC;have:=uH HAS;simp;omega)] at this
    exact this,by have:=uH QC;simpa using this⟩)
  have HB1:=aA (show Bw w w1 from (uH HB0).trans ((uH HM1).below (fun k hk=>by omega) (by rw [yE];omega)))
  clear XG HM1 hw1 HB0 Mw KZ hmk
  go_wp2
  go_ret
  refine ⟨rfl,⟨_,?_,(uH yz).below (yA (yH _ w1) _),aEr _ _⟩,by rw [yE,hs1],yA (uH HB1) _⟩
  have:=yD w1 #[.slice (some ⟨w.heap.size,0,none⟩) l.length l.length,.slice none 0 0] 65
  rw [hs1] at this
  rw [←uH Q6] at this ⊢
  exact this
theorem Mks.grown (h:Mks (fun k=>k=g) w w'):w.grownBy w' (some g):=⟨h.os,h.tape,h.output,h.size,fun k hk hne=>h.block k hk (fun e=>hne (by rw [e]))⟩
theorem Mks.blk1 {k:Nat} (h:Mks (fun k=>k=g) a w) (hb:Blk a k arr t) (hk:k≠g):Blk w k arr t:=h.blk hb hk
theorem aEs (hm:Mks (fun k=>k=g) w w') (h:zQ B w v l) (hg:g<B):zQ B w' v l:=
  World.ownsRow.kept h hm.grown (.inr (fun e=>by have:=(World.ownsRow.lt h g e).1;omega))
def aHw (w w':World):Prop:=∀k arr,Blk w k arr 29→Blk w' k arr 29
theorem aHw.trans {b c:World} (h:aHw a b) (h':aHw b c):aHw a c:=fun k arr x=>h' k arr (h k arr x)
theorem l9 (h:Blk w b arr t) (j:Nat) (v:Value) (ht:t≠29):aHw w (w.setCell ⟨b,j,none⟩ v):=fun k a x=>x.other b j v (fun e=>by
  subst e
  have x':w.heap[k]? = some (.cells a 29 (0,0)):=x
  rw [show w.heap[k]? = _ from h] at x'
  cases x'
  exact ht rfl)
theorem aIb (h:Mks (fun k=>k=g) w w') (hl:Lay w 52 g M xs):aHw w w':=fun k a x=>h.blk1 x (fun e=>by
  subst e
  obtain ⟨R,h1,h2⟩:=hl
  have x':w.heap[k]? = some (.cells a 29 (0,0)):=x
  rw [h1] at x'
  cases x')
theorem aGz (w:World) (o:Obj):aHw w (w.alloc o):=fun k a x=>x.al o
theorem aFb {ob:Obj} (h:w.ownsRow B 52 sz v n xs) (hg:(w.alloc ob).drew.grownBy w' v.ownBlock):aHw w w':=fun k a x=>(show Blk (w.alloc ob).drew k a 29 from x.al ob).grown hg (fun k e=>let ⟨N,hc⟩:=qE (World.ownsRow.alloc h ob) k e;⟨N,hc⟩) (by decide)
theorem aER (g M a:Nat) (l gl:List Con) (w:World) (h:rD w g M l gl) (ha:a<l.length) (hl:l.length≤1048576) (hgl:gl.length≤1048576) :
    cP 31 #[.pointer (some ⟨g+1,0,none⟩),.int .i64 (a:Int)] w fun e w'=>e=.returned (conv l[a])∧rD w' g M (l.eraseIdx a) (gl++[l[a]])∧Below g w w'∧aHw w w':=by
  obtain ⟨i0,hi,hz0,hz1,hz2⟩:=info_parts Tryz.infoCont
  have hsz:(Tryz.prog.info? 52).map (·.size)=some 5:=by rw [hi];exact congrArg some hz1
  obtain ⟨v,hbk,qy,how⟩:=h
  obtain ⟨n,hn⟩:∃n,l.length=n:=⟨_,rfl⟩
  have c0:=qy.cell (gQ l a ha).1
  have c1:=qy.cell (gQ l a ha).2.1
  have c2:=qy.cell (gQ l a ha).2.2.1
  have c3:=qy.cell (gQ l a ha).2.2.2.1
  have c4:=qy.cell (gQ l a ha).2.2.2.2
  obtain ⟨vo,vc,rfl,ZF,JO,JN⟩:=wF how
  obtain ⟨m,hm⟩:∃m,gl.length=m:=⟨_,rfl⟩
  obtain ⟨⟨id,ap,nd,me,cp⟩,hq⟩:∃q,l[a]=q:=⟨_,rfl⟩
  have HQ:=aA hq
  have HM:=aA hm
  have HN:=aA hn
  rw [hq] at c0 c1 c2 c3 c4 ⊢
  rw [hm] at hbk how hgl JO
  rw [hn] at hbk hl ha
  simp only at c0 c1 c2 c3 c4
  have hb0:=yA (yA (yH _ w) (.cells #[.int .i64 0,.int .i64 0,.string { data:=#[] },.int .i64 0,.int .i64 0] 52)) (.cells #[.int .i64 id,.int .i64 ap,.string (bs nd),.int .i64 me,.int .i64 cp] 52)
  have HB0:=aA hb0
  have Z0:=aA ((yD w #[.int .i64 0,.int .i64 0,.string { data:=#[] },.int .i64 0,.int .i64 0] 52).al (.cells #[.int .i64 id,.int .i64 ap,.string (bs nd),.int .i64 me,.int .i64 cp] 52))
  have Z1:=aA (show Blk _ (w.heap.size+1) #[.int .i64 id,.int .i64 ap,.string (bs nd),.int .i64 me,.int .i64 cp] 52 by have:=yD (w.alloc (.cells #[.int .i64 0,.int .i64 0,.string { data:=#[] },.int .i64 0,.int .i64 0] 52)) #[.int .i64 id,.int .i64 ap,.string (bs nd),.int .i64 me,.int .i64 cp] 52;rwa [yE] at this)
  have d0:=hbk.at 0
  have d1:=hbk.at 1
  simp at d0 d1
  have K0:=aA (hbk.below hb0)
  have U0:=aA ((aGz w (.cells #[.int .i64 0,.int .i64 0,.string { data:=#[] },.int .i64 0,.int .i64 0] 52)).trans (aGz _ (.cells #[.int .i64 id,.int .i64 ap,.string (bs nd),.int .i64 me,.int .i64 cp] 52)))
  have L0:=aA (qy.below hb0)
  have O0:=aA (aAh how hb0)
  have hgs:g+1<w.heap.size:=hbk.lt
  have ME:=aA (fun k hk=>World.ownsRow.lt how k hk)
  have hgs0:g<w.heap.size:=by omega
  have a0:(0:Int)≤a:=by omega
  have a1:(a:Int)<n:=by omega
  clear hb0 hbk qy how ZF JN hq hm hn
  go_enter Tryz.func31,Tryz.ntmps31
  go_upto_region 2 with fail
  obtain ⟨W,hW⟩:∃W,(w.alloc (.cells #[.int .i64 0,.int .i64 0,.string { data:=#[] },.int .i64 0,.int .i64 0] 52)).alloc (.cells #[.int .i64 id,.int .i64 ap,.string (bs nd),.int .i64 me,.int .i64 cp] 52)=W:=⟨_,rfl⟩
  rw [hW] at HB0 Z0 Z1 K0 L0 O0 U0 ⊢
  clear hW d0 d1 c0 c1 c2 c3 c4
  have d0:=(uH K0).at 0
  simp at d0
  obtain ⟨R,TQ,hR2⟩:=uH L0
  have HR1:=aA TQ
  have HR2:=aA hR2
  have hcl:=bB l
  have hdl:=bB (l.drop (a+1))
  rw [List.length_drop] at hdl
  rw [uH HN] at hcl hdl
  have hRl:(aJ l++R).length=n*5+R.length:=by rw [List.length_append,hcl]
  obtain ⟨CS,hCS⟩:∃c,aJ (l.drop (a+1))=c:=⟨_,rfl⟩
  have HCS:=aA hCS
  rw [hCS] at hdl
  have NA:=aA hdl
  have YE:=aA hRl
  have Uv:=aA (show ∀v ∈ CS,v.oneCell'=true by rw [←hCS];exact jF _)
  have RJ:=aA (show ∀j v,CS[j]? = some v→∀wx:World,wx.heap[g]? = W.heap[g]?→wx.cell? ⟨g,(a+1)*5+j,none⟩=some v from fun j v hv wx hx=>by
    have e:(aJ l)[(a+1)*5+j]? = some v:=by rw [←hCS,←aDs l (a+1) (by have:=uH HN;omega),List.getElem?_drop] at hv;exact hv
    have:=(uH L0).cell e
    rw [←this]
    exact World.cell?_of_block (w:=W) (a:=⟨g,(a+1)*5+j,none⟩) hx)
  obtain ⟨LL,R8⟩:∃L,aJ l++R=L:=⟨_,rfl⟩
  have Xz:=aA R8
  rw [R8] at HR1 YE
  clear TQ hR2 hcl hdl hRl hCS R8
  have hle:a≤n:=by omega
  have hne:¬n=a:=by omega
  by_cases QI:a+1=n
  have YW:(a:Int)+1=n:=by omega
  have hw1:IntKind.i64.wrap (n:Int)=n:=by rw [IntKind.wrap_i64];omega
  rotate_left
  have hw1:IntKind.i64.wrap ((a:Int)+1)=(a:Int)+1:=by rw [IntKind.wrap_i64];omega
  have hle2:(a:Int)+1≤n:=by omega
  have hle3:a+1≤n:=by omega
  have KN:¬n=a+1:=by omega
  have htn:((a:Int)+1).toNat=a+1:=by omega
  have ha2:(0:Int)≤(a:Int)+1:=by omega
  rotate_left
  all_goals first
    | (have hyp:=YW
       clear hyp
       go_region_law (refine oM rfl (.tmp 19) (.tmp 26) 27 27 rfl 52 5 Tryz.underlying27 hsz _ _ _ _ _ _ rfl rfl g (a*5) LL 52 (uH HR1) CS (n - (a+1)) (by show _=min _ _;omega) (by have:=uH NA;omega) (fun hz=>absurd QI (by omega)) (by have:=uH YE;have:=uH NA;omega) (uH Uv) ?_;intro w2 HG2 QD hs2))
    | (go_region_law (refine oM rfl (.tmp 19) (.tmp 26) 27 27 rfl 52 5 Tryz.underlying27 hsz _ _ _ _ _ _ rfl rfl g (a*5) LL 52 (uH HR1) CS (n - (a+1)) (by show _=min _ _;omega) (by have:=uH NA;omega) (fun hz=>⟨rfl,_,rfl,fun j v hv=>by rw [Lib.add_plain];exact uH RJ j v hv _ rfl⟩) (by have:=uH YE;have:=uH NA;omega) (uH Uv) ?_;intro w2 HG2 QD hs2))
  all_goals
    have L2:=aA (show Lay w2 52 g M (aJ (l.eraseIdx a)) from by
      obtain ⟨R',e1,e2⟩:=aJz l R a (by have:=uH HN;omega)
      refine ⟨R',?_,by rw [e2];exact uH HR2⟩
      have:=uH HG2
      rw [←uH Xz,←uH HCS,e1] at this
      exact this)
    have K2:=aA ((uH QD).blk1 (uH K0) (by omega))
    have U2:=aA ((uH U0).trans ((show aHw W W.drew from fun k a x=>x).trans (aIb (uH QD) (uH L0))))
    have Z02:=aA ((uH QD).blk1 (uH Z0) (by omega))
    have Z12:=aA ((uH QD).blk1 (uH Z1) (by omega))
    have O2:=aA (aEs (B:=g+2) (g:=g) (uH QD) (uH O0) (by omega))
    have hgW:g≤W.heap.size:=Nat.le_of_lt (uH L0).lt
    have B2:=aA (show Below g w w2 from (((uH HB0).mono (by omega)).drew).trans ((uH QD).below (B:=g) (fun k (hk:k=g)=>by omega) hgW))
    clear hgW
    have hz2:w.heap.size+1<w2.heap.size:=(uH Z12).lt
    have k0:=(uH K2).at 0
    have kf:=(uH K2).f 0
    simp at k0
    have hn1:((n:Int) - 1).toNat=n - 1:=by omega
    have hn2:(0:Int)≤(n:Int) - 1:=by omega
    clear HG2 QD hs2 K0 Z0 Z1 O0 HB0 d0
    go_upto_region 5 with fail
    have L3:=aA ((uH L2).other (g+1) 0 (.slice (some ⟨g,0,none⟩) (n - 1) (n - 1)) (by omega))
    have K3:=aA (show Blk (w2.setCell ⟨g+1,0,none⟩ (.slice (some ⟨g,0,none⟩) (n - 1) (n - 1))) (g+1) #[.slice (some ⟨g,0,none⟩) (n - 1) (n - 1),.slice vo m vc] 65 from (uH K2).set 0 _)
    have Z03:=aA ((uH Z02).other (g+1) 0 (.slice (some ⟨g,0,none⟩) (n - 1) (n - 1)) (by omega))
    have Z13:=aA ((uH Z12).other (g+1) 0 (.slice (some ⟨g,0,none⟩) (n - 1) (n - 1)) (by omega))
    have O3:=aA (aAf (uH O2) (g+1) 0 (.slice (some ⟨g,0,none⟩) (n - 1) (n - 1)) (by omega))
    have B3:=aA ((uH B2).setCell (p:=⟨g+1,0,none⟩) (by simp) (.slice (some ⟨g,0,none⟩) (n - 1) (n - 1)))
    have U3:=aA ((uH U2).trans (l9 (uH K2) 0 (.slice (some ⟨g,0,none⟩) (n - 1) (n - 1)) (by decide)))
    generalize w2.setCell ⟨g+1,0,none⟩ (.slice (some ⟨g,0,none⟩) (n - 1) (n - 1))=w3 at L3 K3 Z03 Z13 O3 B3 U3 ⊢
    have O3':=aA (show w3.ownsRow (g+2) 52 5 (.slice vo m vc) m (aJ gl) by have:=uH O3;unfold zQ at this;rwa [uH HM] at this)
    have hz3:w.heap.size+1<w3.heap.size:=(uH Z13).lt
    have hgz:g+1<w3.heap.size:=by omega
    have k1:=(uH K3).at 1
    have q0:=(uH Z13).at 0
    have q1:=(uH Z13).at 1
    have q2:=(uH Z13).at 2
    have q3:=(uH Z13).at 3
    have q4:=(uH Z13).at 4
    simp at k1 q0 q1 q2 q3 q4
    clear k0 kf K2 Z02 Z12 O2 B2 L2 hz2
    go_region_law (refine step_append_lies _ rfl (.tmp 48) (.tmp 50) 27 rfl (g+2) 52 i0 (.agg #[.int .i64 0,.int .i64 0,.string ByteArray.empty,.int .i64 0,.int .i64 0]) 5 48 Tryz.underlying27 hi hz0 hz1 hz2 rfl (by decide) (.slice vo m vc) m (aJ gl) rfl (World.ownsRow.alloc (uH O3') _) ⟨w3.heap.size,0,none⟩ 1 1 (aDt ⟨id,ap,nd,me,cp⟩) rfl rfl (World.news_of_block (yD _ _ _)) (by intro u hu;simp at hu;rcases hu with rfl | rfl | rfl | rfl | rfl<;>rfl) (by decide) (by unfold maxLen;omega) (by omega) (by simp;omega) _ rfl ?_;intro go gc w4 Hq Hz hgo _;have Mv:=aA hgo;have O4:=aA Hq;have G4:=aA Hz;have K4:=aA (show Blk w4 (g+1) _ 65 from (Hz.block (g+1) (by simp;omega) (fun e=>by have:=(World.ownsRow.lt (uH O3') (g+1) e.symm).1;omega)).trans ((uH K3).al _));have k4:=(uH K4).at 1;have f4:=(uH K4).f 1;simp at k4;clear Hq Hz hgo)
    all_goals
      have hgo:go<w.heap.size∨w.heap.size+1<go:=by
        rcases uH Mv with e | e
        · exact .inl (uH ME go e).2
        · right
          rw [e]
          simp
          omega
      have K5:=aA (show Blk (w4.setCell ⟨g+1,1,none⟩ (.slice (some ⟨go,0,none⟩) (m+1) gc)) (g+1) #[.slice (some ⟨g,0,none⟩) (n - 1) (n - 1),.slice (some ⟨go,0,none⟩) (m+1) gc] 65 from (uH K4).set 1 _)
      have far:∀(k:Nat) (arr:Array Value) (t:TypeId),Blk w3 k arr t→(k<g+2∨w.heap.size≤k)→Blk w4 k arr t:=fun k arr t hk hn=>((uH G4).block k (by have:=hk.lt;simp;omega) (fun e=>by have:=uH ME k e.symm;omega)).trans (hk.al _)
      have Z05:=aA ((far _ _ _ (uH Z03) (.inr (yJ _))).other (g+1) 1 (.slice (some ⟨go,0,none⟩) (m+1) gc) (by omega))
      have Z15:=aA ((far _ _ _ (uH Z13) (.inr (by omega))).other (g+1) 1 (.slice (some ⟨go,0,none⟩) (m+1) gc) (by omega))
      have L5:=aA ((show Lay w4 52 g M (aJ (l.eraseIdx a)) from ((uH L3).below (yA (yH _ w3) (.cells #[.int .i64 id,.int .i64 ap,.string (bs nd),.int .i64 me,.int .i64 cp] 52))).of_block ((uH G4).block g (by have:=(uH L3).lt;simp;omega) (fun e=>by have:=(uH ME g e.symm).1;omega))).other (g+1) 1 (.slice (some ⟨go,0,none⟩) (m+1) gc) (by omega))
      have O5:=aA (show zQ (g+2) (w4.setCell ⟨g+1,1,none⟩ (.slice (some ⟨go,0,none⟩) (m+1) gc)) (.slice (some ⟨go,0,none⟩) (m+1) gc) (gl++[⟨id,ap,nd,me,cp⟩]) from aAf (by unfold zQ;rw [sP,List.length_append,uH HM];exact uH O4) (g+1) 1 _ (by omega))
      have B5:=aA (show Below g w (w4.setCell ⟨g+1,1,none⟩ (.slice (some ⟨go,0,none⟩) (m+1) gc)) from ((((uH B3).trans ((yA (yH _ w3) (.cells #[.int .i64 id,.int .i64 ap,.string (bs nd),.int .i64 me,.int .i64 cp] 52)).mono (by omega))).drew).grown (uH G4) (by simp;omega) (fun k e=>by have:=(uH ME k e).1;omega)).setCell (p:=⟨g+1,1,none⟩) (by simp) _)
      have U5:=aA (((uH U3).trans (aFb (uH O3') (uH G4))).trans (l9 (uH K4) 1 (.slice (some ⟨go,0,none⟩) (m+1) gc) (by decide)))
      clear far
      generalize w4.setCell ⟨g+1,1,none⟩ (.slice (some ⟨go,0,none⟩) (m+1) gc)=w5 at K5 Z05 Z15 L5 O5 B5 U5 ⊢
      obtain ⟨s0,s1,s2,s3,s4⟩:=zp (uH Z15)
      obtain ⟨r0,r1,r2,r3,r4⟩:=zp (uH Z05)
      have u0:=(uH Z05).f 0;have u1:=(uH Z05).f 1;have u2:=(uH Z05).f 2;have u3:=(uH Z05).f 3;have u4:=(uH Z05).f 4
      clear K3 Z03 Z13 O3 O3' B3 L3 k1 q0 q1 q2 q3 q4 k4 f4 K4 G4 O4 Mv
      go_wp2
      have R9:=aA (show Blk (((((w5.setCell ⟨w.heap.size,0,none⟩ (.int .i64 id)).setCell ⟨w.heap.size,1,none⟩ (.int .i64 ap)).setCell ⟨w.heap.size,2,none⟩ (.string (bs nd))).setCell ⟨w.heap.size,3,none⟩ (.int .i64 me)).setCell ⟨w.heap.size,4,none⟩ (.int .i64 cp)) w.heap.size #[.int .i64 id,.int .i64 ap,.string (bs nd),.int .i64 me,.int .i64 cp] 52 from ((((((uH Z05).set 0 (.int .i64 id)).set 1 (.int .i64 ap)).set 2 (.string (bs nd))).set 3 (.int .i64 me)).set 4 (.int .i64 cp)))
      have K9:=aA (((((((uH K5).other w.heap.size 0 (.int .i64 id) (by omega)).other w.heap.size 1 (.int .i64 ap) (by omega)).other w.heap.size 2 (.string (bs nd)) (by omega)).other w.heap.size 3 (.int .i64 me) (by omega)).other w.heap.size 4 (.int .i64 cp) (by omega)))
      have L9:=aA (((((((uH L5).other w.heap.size 0 (.int .i64 id) (by omega)).other w.heap.size 1 (.int .i64 ap) (by omega)).other w.heap.size 2 (.string (bs nd)) (by omega)).other w.heap.size 3 (.int .i64 me) (by omega)).other w.heap.size 4 (.int .i64 cp) (by omega)))
      have O9:=aA (show zQ (g+2) (((((w5.setCell ⟨w.heap.size,0,none⟩ (.int .i64 id)).setCell ⟨w.heap.size,1,none⟩ (.int .i64 ap)).setCell ⟨w.heap.size,2,none⟩ (.string (bs nd))).setCell ⟨w.heap.size,3,none⟩ (.int .i64 me)).setCell ⟨w.heap.size,4,none⟩ (.int .i64 cp)) (.slice (some ⟨go,0,none⟩) (m+1) gc) (gl++[⟨id,ap,nd,me,cp⟩]) from (ownsRow_setCell_other (ownsRow_setCell_other (ownsRow_setCell_other (ownsRow_setCell_other (ownsRow_setCell_other (uH O5) (a:=⟨w.heap.size,0,none⟩) (by simp [Value.ownBlock];omega) (.int .i64 id)) (a:=⟨w.heap.size,1,none⟩) (by simp [Value.ownBlock];omega) (.int .i64 ap)) (a:=⟨w.heap.size,2,none⟩) (by simp [Value.ownBlock];omega) (.string (bs nd))) (a:=⟨w.heap.size,3,none⟩) (by simp [Value.ownBlock];omega) (.int .i64 me)) (a:=⟨w.heap.size,4,none⟩) (by simp [Value.ownBlock];omega) (.int .i64 cp)))
      have B9:=aA (((((((uH B5).setCell (p:=⟨w.heap.size,0,none⟩) (by show g≤w.heap.size;omega) (.int .i64 id)).setCell (p:=⟨w.heap.size,1,none⟩) (by show g≤w.heap.size;omega) (.int .i64 ap)).setCell (p:=⟨w.heap.size,2,none⟩) (by show g≤w.heap.size;omega) (.string (bs nd))).setCell (p:=⟨w.heap.size,3,none⟩) (by show g≤w.heap.size;omega) (.int .i64 me)).setCell (p:=⟨w.heap.size,4,none⟩) (by show g≤w.heap.size;omega) (.int .i64 cp)))
      have U9:=aA ((((((uH U5).trans (l9 (uH Z05) 0 (.int .i64 id) (by decide))).trans (l9 ((uH Z05).set 0 (.int .i64 id)) 1 (.int .i64 ap) (by decide))).trans (l9 (((uH Z05).set 0 (.int .i64 id)).set 1 (.int .i64 ap)) 2 (.string (bs nd)) (by decide))).trans (l9 ((((uH Z05).set 0 (.int .i64 id)).set 1 (.int .i64 ap)).set 2 (.string (bs nd))) 3 (.int .i64 me) (by decide))).trans (l9 (((((uH Z05).set 0 (.int .i64 id)).set 1 (.int .i64 ap)).set 2 (.string (bs nd))).set 3 (.int .i64 me)) 4 (.int .i64 cp) (by decide)))
      generalize (((((w5.setCell ⟨w.heap.size,0,none⟩ (.int .i64 id)).setCell ⟨w.heap.size,1,none⟩ (.int .i64 ap)).setCell ⟨w.heap.size,2,none⟩ (.string (bs nd))).setCell ⟨w.heap.size,3,none⟩ (.int .i64 me)).setCell ⟨w.heap.size,4,none⟩ (.int .i64 cp))=W9 at R9 K9 L9 O9 B9 U9 ⊢
      obtain ⟨z0,z1,z2,z3,z4⟩:=zp (uH R9)
      refine bodyPost_ret (v:=.agg #[.int .i64 id,.int .i64 ap,.string (bs nd),.int .i64 me,.int .i64 cp]) (by simp [results,Tryz.results31,go_sem,z0,z1,z2,z3,z4]) rfl ⟨rfl,⟨_,?_,uH L9,uH O9⟩,uH B9,uH U9⟩
      rw [List.length_eraseIdx_of_lt (by have:=uH HN;omega),uH HN]
      exact uH K9
theorem aGR (g M a:Nat) (l gl:List Con) (w:World) (h:rD w g M l gl) (ha:a<l.length) (hl:l.length≤1048576) (hgl:gl.length≤1048576) :
    cP 31 #[.pointer (some ⟨g+1,0,none⟩),.int .i64 (a:Int)] w fun e w'=>e=.returned (conv l[a])∧rD w' g M (l.eraseIdx a) (gl++[l[a]])∧Below g w w':=
  (aER g M a l gl w h ha hl hgl).mono fun e w' ⟨a,b,c,_⟩=>⟨a,b,c⟩
def aAM (w:World) (p:Nat):Nat:=match w.cell? ⟨p,0,none⟩ with | some (.slice _ n _)=>n | _=>0
theorem aBx {p c:Nat} (h:w.cell? ⟨p,0,none⟩=some (.slice ao n c)):aAM w p=n:=by simp [aAM,h]
theorem rD.len (h:rD w g M l gl):aAM w (g+1)=l.length:=by
 obtain ⟨v,hb,_⟩:=h
 have:=hb.at 0
 simp at this
 exact aBx this
theorem aBr (gf:Nat) (lb:Array Value) (eg:∀args w,(callFunc gf args).run Tryz.prog w=.ok (.enter gf args) w) (p:Con→Bool) (g M:Nat) (l gl:List Con) (w:World) (h:rD w g M l gl) (hl:gl.length+l.length≤1048576)
  (hp:∀wx q,q ∈ l→Below g w wx→Calls Tryz.prog gf (#[conv q]++lb) wx fun e w'=>e=.returned (.bool (p q))∧Bw wx w') :
  cP 113 #[.pointer (some ⟨g+1,0,none⟩),.func (.func gf) #[] lb] w fun e w'=>e=.returned (.tuple #[])∧rD w' g M (l.filter (fun q=>!p q)) (gl++l.filter p)∧Below g w w':=by
 have HT:=aA h
 have HP:=aA hp
 clear h hp
 go_enter Tryz.func113,Tryz.ntmps113
 go_wp2
 go_loopw [4] (fun i wr=>∃(k:Nat),i=.int .i64 (k:Int)∧Hid (∃d,d≤l.length∧k=((l.take d).filter (fun q=>!p q)).length∧rD wr g M ((l.take d).filter (fun q=>!p q)++l.drop d) (gl++(l.take d).filter p))∧Hid (Below g w wr)) (fun i wr=>aAM wr (g+1) - (intOf i).toNat)
 case atStart=>exact ⟨0,rfl,aA ⟨0,Nat.zero_le _,by simp,by simpa using uH HT⟩,aA (yH _ _)⟩
 case round=>
  obtain ⟨k,rfl,HK,HB⟩:=hrel
  obtain ⟨d,hd,hk,ht⟩:=uH HK
  have hkd:k≤d:=by rw [hk];refine Nat.le_trans (List.length_filter_le _ _) ?_;rw [List.length_take];omega
  have hk2:k≤1048576:=by omega
  obtain ⟨v,hbk,qy,how⟩:=ht
  have c0:=(hbk.at 0).trans (show _=some (Value.slice (some ⟨g,0,none⟩) ((l.take d).filter (fun q=>!p q)++l.drop d).length ((l.take d).filter (fun q=>!p q)++l.drop d).length) from rfl)
  have gz:((l.take d).filter (fun q=>!p q)++l.drop d).length=k+(l.length - d):=by rw [List.length_append,List.length_drop,←hk]
  rw [gz] at c0
  obtain ⟨n,hn⟩:∃n,k+(l.length - d)=n:=⟨_,rfl⟩
  rw [hn] at c0
  have hm:=aBx c0
  by_cases hlt:d<l.length
  ·have hkn:(k:Int)<n:=by omega
   have hel:k<((l.take d).filter (fun q=>!p q)++l.drop d).length:=by omega
   have hq:((l.take d).filter (fun q=>!p q)++l.drop d)[k]=l[d]:=by
    rw [List.getElem_append_right (by omega)]
    simp [←hk]
   obtain ⟨x0,x1,x2,x3,x4⟩:=gQ _ k hel
   rw [hq] at x0 x1 x2 x3 x4
   have e0:=qy.cell x0;have e1:=qy.cell x1;have e2:=qy.cell x2;have e3:=qy.cell x3;have e4:=qy.cell x4
   have CL:=aA (uH HP wr l[d] (yM hlt) (uH HB))
   have hsp:l.take (d+1)=l.take d++[l[d]]:=by rw [List.take_succ_eq_append_getElem hlt]
   have hdr:l.drop d=l[d]::l.drop (d+1):=List.drop_eq_getElem_cons hlt
   have TI:(gl++(l.take d).filter p).length≤1048576:=by
    have:=List.length_filter_le p (l.take d)
    rw [List.length_take] at this
    rw [List.length_append]
    omega
   have CT:=aA (fun wx (hb:Bw wr wx)=>aGR g M k _ _ wx (rD.below ⟨v,hbk,qy,how⟩ hb) hel (by omega) TI)
   rw [hq] at CT
   have qw:=aA (show rD wr g M _ _ from ⟨v,hbk,qy,how⟩)
   obtain ⟨q,hqe⟩:∃q,l[d]=q:=⟨_,rfl⟩
   rw [hqe] at e0 e1 e2 e3 e4 CL CT hsp hdr
   have MH:=aA hsp
   have HDR:=aA hdr
   have HKK:=aA hk
   have Q6:=aA gz
   have J2:=aA hn
   have HM:=aA hm
   have hd':d+1≤l.length:=hlt
   obtain ⟨id,ap,nd,me,cp⟩:=q
   simp only at e0 e1 e2 e3 e4
   have k0:(0:Int)≤k:=by omega
   clear hbk qy how x0 x1 x2 x3 x4 hq hqe hsp hdr hk gz hn hm TI HK hel
   cases hpq:p ⟨id,ap,nd,me,cp⟩ with
   | true=>
    rw [hpq] at CL
    have VJ:=aA hpq
    clear hpq
    go_wp2_with (go_at_fn gf;refine (uH CL).mono ?_;rintro e w1 ⟨rfl,hb⟩;have HB1:=aA hb;clear hb CL)
    go_wp2_with fail
    refine (uH CT _ (uH HB1)).mono ?_
    rintro e w2 ⟨rfl,ht,hb⟩
    have HT2:=aA ht
    have hz:g≤wr.heap.size:=by obtain ⟨v,hbk,_⟩:=uH qw;have:=hbk.lt;omega
    have HB2:=aA (((uH HB).trans ((uH HB1).mono hz)).trans hb)
    clear ht hb CT
    go_wp2
    go_roundw
    case rel=>
     refine ⟨k,rfl,aA ⟨d+1,hd',?_,?_⟩,HB2⟩
     ·rw [uH MH,List.filter_append,uH HKK]
      simp [uH VJ]
     ·have:=uH HT2
      rw [uH HDR,List.eraseIdx_append_of_length_le (by have:=uH HKK;omega)] at this
      rw [show k - ((l.take d).filter (fun q=>!p q)).length=0 by have:=uH HKK;omega,List.eraseIdx_cons_zero] at this
      rw [uH MH,List.filter_append,List.filter_append]
      simpa [uH VJ] using this
    case measure=>
     rw [(uH HT2).len,uH HM]
     have hh:=uH Q6
     have hnn:=uH J2
     rw [List.length_eraseIdx_of_lt (by omega),hh]
     simp [intOf]
     omega
   | false=>
    rw [hpq] at CL
    have VJ:=aA hpq
    clear hpq
    go_wp2_with (go_at_fn gf;refine (uH CL).mono ?_;rintro e w1 ⟨rfl,hb⟩;have HB1:=aA hb;clear hb CL)
    have hz:g≤wr.heap.size:=by obtain ⟨v,hbk,_⟩:=uH qw;have:=hbk.lt;omega
    go_wp2
    go_roundw
    case rel=>
     refine ⟨k+1,by go_num,aA ⟨d+1,hd',?_,?_⟩,aA ((uH HB).trans ((uH HB1).mono hz))⟩
     ·rw [uH MH,List.filter_append,List.length_append,←uH HKK]
      simp [uH VJ]
     ·have:=(uH qw).below (uH HB1)
      rw [uH HDR] at this
      rw [uH MH,List.filter_append,List.filter_append]
      simpa [uH VJ] using this
    case measure=>
     rw [((uH qw).below (uH HB1)).len,uH HM,uH Q6]
     have hnn:=uH J2
     simp [intOf]
     omega
  ·have hkn:¬(k:Int)<n:=by omega
   have qw:=aA (show rD wr g M _ _ from ⟨v,hbk,qy,how⟩)
   have htk:l.take d=l:=List.take_of_length_le (by omega)
   have hdr:l.drop d=[]:=List.drop_of_length_le (by omega)
   rw [htk,hdr,List.append_nil] at qw
   clear hbk qy how HK hk gz htk hdr
   go_wp2
   go_end0
   exact ⟨rfl,uH qw,uH HB⟩
theorem Lay.rowM {l:List Mac} (h:Lay w 102 g M (dR l)):cO w (some ⟨g,0,none⟩) l.length l:=by
 refine ⟨rfl,.inr ⟨g,0,rfl,fun i hi=>?_⟩⟩
 obtain ⟨a,b,c,d⟩:=qJ l i hi
 unfold oK
 simp only [Nat.zero_add]
 exact ⟨h.cell a,h.cell b,h.cell c,h.cell d⟩
theorem Lay.rowP {l:List AV} (h:Lay w 48 g M (cB l)):fK w (some ⟨g,0,none⟩) l.length l:=by
 refine ⟨rfl,.inr ⟨g,0,rfl,fun i hi=>?_⟩⟩
 obtain ⟨a,b,c⟩:=qC l i hi
 unfold aGJ
 simp only [Nat.zero_add]
 exact ⟨h.cell a,h.cell b,h.cell c⟩
theorem lI (h:dS B w.heap.size w t sz ao n) (hm:Mks (fun k=>k=b) w w') (hc:Cel w t' b N) (ht:t'≠t):(∀k,inR ao n k→¬(k=b))∧dS B w'.heap.size w' t sz ao n:=by
 refine ⟨fun k hk e=>?_,(h.mks hm).mono (yJ _) hm.size⟩
 obtain ⟨_,_,N',h2⟩:=h.lies k hk
 subst e
 exact ht (hc.type h2)
theorem pQ.mkt {l:List Q} (h:pQ B w ao n l) (hm:Mks (fun k=>k=b) w w') (hc:Blk w b arr 29):pQ B w' ao n l:=
 ⟨h.1.mks hm (lI h.2 hm ⟨_,hc,rfl⟩ (by decide)).1,(lI h.2 hm ⟨_,hc,rfl⟩ (by decide)).2⟩
theorem nO.mkt {l:List Mac} (h:nO B w ao n l) (hm:Mks (fun k=>k=b) w w') (hc:Blk w b arr 29):nO B w' ao n l:=
 ⟨h.1.mks hm (lI h.2 hm ⟨_,hc,rfl⟩ (by decide)).1,(lI h.2 hm ⟨_,hc,rfl⟩ (by decide)).2⟩
theorem kY.mkt (h:kY B w ao n l) (hm:Mks (fun k=>k=b) w w') (hc:Blk w b arr 29):kY B w' ao n l:=
 ⟨h.1.mks hm (lI h.2 hm ⟨_,hc,rfl⟩ (by decide)).1,(lI h.2 hm ⟨_,hc,rfl⟩ (by decide)).2⟩
theorem mI.mkt {l:List AV} (h:mI B w ao n l) (hm:Mks (fun k=>k=b) w w') (hc:Blk w b arr 29):mI B w' ao n l:=
 ⟨h.1.mks hm (lI h.2 hm ⟨_,hc,rfl⟩ (by decide)).1,(lI h.2 hm ⟨_,hc,rfl⟩ (by decide)).2⟩
theorem jI.mkt {l:List bN} (h:jI B w hs l) (hm:Mks (fun k=>k=b) w w') (hc:Blk w b arr 29):jI B w' hs l:=
 ⟨⟨h.heads.1,fun i h1 h2=>let ⟨a,b',c,d⟩:=h.heads.2 i h1 h2;⟨a,b',c.mks hm (lI (h.own _ (yM h1)) hm ⟨_,hc,rfl⟩ (by decide)).1,d⟩⟩,fun v hv=>(lI (h.own v hv) hm ⟨_,hc,rfl⟩ (by decide)).2,h.apart⟩
theorem pQ.base {l:List Q} (h:pQ B w ao n l) (hb:B'≤B):pQ B' w ao n l:=⟨h.1,h.2.mono hb (yJ _)⟩
theorem nO.base {l:List Mac} (h:nO B w ao n l) (hb:B'≤B):nO B' w ao n l:=⟨h.1,h.2.mono hb (yJ _)⟩
theorem mI.base {l:List AV} (h:mI B w ao n l) (hb:B'≤B):mI B' w ao n l:=⟨h.1,h.2.mono hb (yJ _)⟩
theorem jI.base {l:List bN} (h:jI B w hs l) (hb:B'≤B):jI B' w hs l:=⟨h.heads,fun v hv=>(h.own v hv).mono hb (yJ _),h.apart⟩
theorem aHO (w:World):jJ w [] []:=⟨rfl,fun i h=>absurd h (by simp)⟩
theorem aFh {v:AV} {t:List AV} {a:bN} {s:List bN} (h:jJ w (v::t) (a::s)):(v.id=a.id∧v.queue=a.queue∧bE w v.ao v.len a.asks∧v.len≤v.cap)∧jJ w t s:=
 ⟨h.2 0 (by simp) (by simp),by simpa using h.1,fun i h1 h2=>by have:=h.2 (i+1) (by simpa using h1) (by simpa using h2);simpa using this⟩
theorem aHN {v:AV} {t:List AV} {a:bN} {s:List bN} (h:v.id=a.id∧v.queue=a.queue∧bE w v.ao v.len a.asks∧v.len≤v.cap) (h':jJ w t s):jJ w (v::t) (a::s):=
 ⟨by simp [h'.1],fun i h1 h2=>by
  cases i with
  | zero=>exact h
  | succ i=>exact h'.2 i (by simpa using h1) (by simpa using h2)⟩
theorem uR {w:World} (f:Int→Bool):∀(hs:List AV) (l:List bN),jJ w hs l→jJ w (hs.filter (fun v=>f v.id)) (l.filter (fun a=>f a.id))
 | [],[],_=>aHO w
 | [],a::s,h=>absurd h.1 (by simp)
 | v::t,[],h=>absurd h.1 (by simp)
 | v::t,a::s,h=>by
  obtain ⟨h1,h2⟩:=aFh h
  have ih:=uR f t s h2
  cases hf:f a.id with
  | true=>rw [List.filter_cons_of_pos (by simpa [h1.1] using hf),List.filter_cons_of_pos (by simpa using hf)];exact aHN h1 ih
  | false=>rw [List.filter_cons_of_neg (by simp [h1.1,hf]),List.filter_cons_of_neg (by simp [hf])];exact ih
theorem jI.filter {l:List bN} (h:jI B w hs l) (f:Int→Bool):jI B w (hs.filter (fun v=>f v.id)) (l.filter (fun a=>f a.id)):=
 ⟨uR f hs l h.heads,fun v hv=>h.own v (List.mem_filter.1 hv).1,h.apart.filter _⟩
theorem rD.stays (h:rD w g (N*5) l gl) (hl:l.length≤N):kY g w (some ⟨g,0,none⟩) l.length l:=by
 obtain ⟨v,_,qy,_⟩:=h
 exact ⟨qy.rowC,.inr ⟨g,N,rfl,yJ _,qy.lt,qy.cel,hl⟩⟩
def aLT (w:World) (b:Nat) (x:Sls) (s:St) (p:Con→Bool) (e:Ending) (w':World):Prop:=
 ∃go gn gc,e=.returned (.slice go gn gc)∧Blk w' b (svc ⟨x.qa,x.ql,x.qc,x.aa,x.al,x.ac,x.ma,x.ml,x.mc,some ⟨w.heap.size,0,none⟩,(s.cs.filter (fun q=>!p q)).length,(s.cs.filter (fun q=>!p q)).length⟩ s) 29
  ∧kY w.heap.size w' (some ⟨w.heap.size,0,none⟩) (s.cs.filter (fun q=>!p q)).length (s.cs.filter (fun q=>!p q))∧kY (w.heap.size+2) w' go gn (s.cs.filter p)∧Mks (fun k=>k=b) w w'
theorem aK2 (hb:Bw w w') (hk:Blk w b arr t) (v:Value) (j:Nat):Mks (fun k=>k=b) w (w'.setCell ⟨b,j,none⟩ v):=(Mks.of_below hb).sc b j v rfl
theorem aAt (gf:Nat) (lb:Array Value) (eg:∀args w,(callFunc gf args).run Tryz.prog w=.ok (.enter gf args) w) (p:Con→Bool) (b:Nat) (x:Sls) (s:St) (w:World) (hk:Blk w b (svc x s) 29) (h:bG w x.ca x.cl s.cs) (hl:x.cl≤1048576)
  (hp:∀wx q,q ∈ s.cs→Bw w wx→Calls Tryz.prog gf (#[conv q]++lb) wx fun e w'=>e=.returned (.bool (p q))∧Bw wx w') :
  cP 59 #[.pointer (some ⟨b,0,none⟩),.func (.func gf) #[] lb] w (aLT w b x s p):=by
 obtain ⟨qa,ql,qc,aa,al,ac,ma,ml,mc,ca,cl,cc⟩:=x
 obtain ⟨qs,cv,ez,nv,sj,aj,ms,cs⟩:=s
 simp only at *
 have CT:=aA (mU ca cl cc cs w h hl)
 have Q6:=aA h.1
 have HK:=aA hk
 have HP:=aA hp
 have d7:=hk.at 7
 have hbs:=hk.lt
 simp at d7
 clear h hk hp
 go_enter Tryz.func59,Tryz.ntmps59
 go_wp2_with fail
 refine (uH CT).mono ?_
 rintro e w1 ⟨rfl,ht,hs1,hb⟩
 have CA:=aA (aBr gf lb eg p w.heap.size (cl*5) cs [] w1 ht (by have:=uH Q6;simp;omega) (fun wx q hq hbx=>uH HP wx q hq (hb.trans hbx)))
 have HB1:=aA hb
 clear ht hb CT hs1
 go_wp2_with fail
 refine (uH CA).mono ?_
 rintro e w2 ⟨rfl,ht,hb⟩
 have HB2:=aA ((uH HB1).trans hb)
 have HST:=aA (ht.stays (by have:=uH Q6;have:=List.length_filter_le (fun q=>!p q) cs;omega))
 obtain ⟨v,hbk,qy,how⟩:=ht
 obtain ⟨go,gc,rfl,hgc,hgo⟩:=wG how
 rw [List.nil_append] at hgo hbk
 have Mv:=aA hgo
 have k0:=hbk.at 0
 have k1:=hbk.at 1
 obtain ⟨n1,hn1⟩:∃n,(cs.filter (fun q=>!p q)).length=n:=⟨_,rfl⟩
 obtain ⟨n2,hn2⟩:∃n,(cs.filter p).length=n:=⟨_,rfl⟩
 rw [hn1] at k0 k1
 rw [hn2] at k0 k1
 simp at k0 k1
 have K2:=aA (show Blk w2 b _ 29 from ((uH HB2).block b hbs).trans (uH HK))
 have e7:=(uH K2).at 7
 have f7:=(uH K2).f 7
 simp at e7
 have hz2:w.heap.size+1<w2.heap.size:=hbk.lt
 have HN1:=aA hn1
 have ZR:=aA hn2
 have hne:¬(b=w.heap.size+1):=by omega
 have KN:¬(w.heap.size+1=b):=by omega
 clear hbk qy how hb HB1 CA d7 hgo hgc hn1 hn2
 go_wp2
 go_ret
 refine ⟨go,n2,gc,rfl,?_,?_,?_,?_⟩
 ·show Blk _ b #[.slice qa ql qc,.int .i64 cv,.int .i64 ez,.int .i64 nv,.int .i64 sj,.slice aa al ac,.slice ma ml mc,.slice _ (cs.filter (fun q=>!p q)).length (cs.filter (fun q=>!p q)).length] _
  rw [uH HN1]
  exact (uH K2).set 7 _
 ·have hm:Mks (fun k=>k=b) w2 (w2.setCell ⟨b,7,none⟩ (.slice (some ⟨w.heap.size,0,none⟩) n1 n1)):=Mks.one _ _ _ _ _ rfl
  exact (uH HST).mkt hm (uH K2)
 ·have hm:Mks (fun k=>k=b) w2 (w2.setCell ⟨b,7,none⟩ (.slice (some ⟨w.heap.size,0,none⟩) n1 n1)):=Mks.one _ _ _ _ _ rfl
  have:=(uH Mv).mkt hm (uH K2)
  rw [uH ZR] at this
  exact this
 ·exact aK2 (uH HB2) (uH HK) _ 7
structure dQ (B:Nat) (w:World) (x:Sls) (s:St) (hs:List AV):Prop where
 q:pQ B w x.qa x.ql s.qs
 p:mI B w x.aa x.al hs
 k:jI B w hs s.apps
 m:nO B w x.ma x.ml s.ms
 c:kY B w x.ca x.cl s.cs
 cap:aLW x
 rm:RmS B w.heap.size w x hs
theorem dQ.below (h:dQ B w x s hs) (hb:Bw w w'):dQ B w' x s hs:=⟨h.q.below hb,h.p.below hb,h.k.below hb,h.m.below hb,h.c.below hb,h.cap,(h.rm.below hb).mono (yJ _) hb.size⟩
theorem dQ.mkt (h:dQ B w x s hs) (hm:Mks (fun k=>k=b) w w') (hc:Blk w b arr 29):dQ B w' x s hs:=⟨h.q.mkt hm hc,h.p.mkt hm hc,h.k.mkt hm hc,h.m.mkt hm hc,h.c.mkt hm hc,h.cap,(h.rm.mks hm).mono (yJ _) hm.size⟩
theorem dQ.base (h:dQ B w x s hs) (hb:B'≤B):dQ B' w x s hs:=⟨h.q.base hb,h.p.base hb,h.k.base hb,h.m.base hb,h.c.base hb,h.cap,h.rm.mono hb (yJ _)⟩
theorem dQ.ans (h:dQ B w x s hs):rA B w.heap.size w x s hs:=aDV h.q h.p h.k h.m h.c h.cap h.rm
theorem rA.has (h:rA B E w x s hs) (hE:E≤w.heap.size):dQ B w x s hs:=
 ⟨⟨h.row.1,h.q.mono (yJ _) hE⟩,⟨h.av,h.a.mono (yJ _) hE⟩,⟨h.heads,fun v hv=>(h.asks v hv).mono (yJ _) hE,h.apart⟩,⟨h.row.2.2.1,h.m.mono (yJ _) hE⟩,⟨h.row.2.2.2,h.c.mono (yJ _) hE⟩,h.cap,h.rm.mono (yJ _) hE⟩
def aLe (B:Nat) (w:World) (b:Nat) (s:St) (hs:List AV) (gone:List Con) (e:Ending) (w':World):Prop:=
 ∃y go gn gc,e=.returned (.slice go gn gc)∧Blk w' b (svc y s) 29∧dQ B w' y s hs∧kY w.heap.size w' go gn gone∧(∀k,inR go gn k→¬inR y.ca y.cl k)∧Mks (fun k=>k=b) w w'
theorem aBp (gf:Nat) (lb:Array Value) (eg:∀args w,(callFunc gf args).run Tryz.prog w=.ok (.enter gf args) w) (p:Con→Bool) (b:Nat) (x:Sls) (s:St) (hs:List AV) (w:World) (hk:Blk w b (svc x s) 29) (h:dQ B w x s hs) (hB:B≤w.heap.size) (hl:x.cl≤1048576)
  (hp:∀wx q,q ∈ s.cs→Bw w wx→Calls Tryz.prog gf (#[conv q]++lb) wx fun e w'=>e=.returned (.bool (p q))∧Bw wx w') :
  cP 59 #[.pointer (some ⟨b,0,none⟩),.func (.func gf) #[] lb] w (aLe B w b ⟨s.qs,s.clock,s.epoch,s.next,s.serial,s.apps,s.ms,s.cs.filter (fun q=>!p q)⟩ hs (s.cs.filter p)):=by
 refine (aAt gf lb eg p b x s w hk h.c.1 hl hp).mono ?_
 rintro e w' ⟨go,gn,gc,rfl,h1,h2,h3,hm⟩
 refine ⟨_,go,gn,gc,rfl,h1,⟨h.q.mkt hm hk,h.p.mkt hm hk,h.k.mkt hm hk,h.m.mkt hm hk,h2.base hB,⟨h.cap.q,h.cap.a,h.cap.m,yJ _⟩,(fun r=>⟨r.1,r.2.1,r.2.2.1,(h2.base hB).2,r.2.2.2.2⟩) ((h.rm.mks hm).mono (yJ _) hm.size)⟩,h3.base (by omega),fun k hk1 hk2=>?_,hm⟩
 obtain ⟨a1,_⟩:=h3.2.lies k hk1
 obtain ⟨_,o,e⟩:=hk2
 cases e
 omega
theorem zC (h:Blk w b old t) (arr:Array Value):Blk (w.setRow b arr) b arr t:=setRow_heap w b old arr t (0,0) h
theorem aBO (h:Blk w b old t) (arr:Array Value) (hs:arr.size=old.size):Mks (fun k=>k=b) w (w.setRow b arr):=by
 refine ⟨rfl,rfl,rfl,by rw [setRow_size];exact yJ _,fun k _ hk=>setRow_other w b k arr hk,fun t' g N hc=>?_⟩
 by_cases e:g=b
 ·subst e
  obtain ⟨c,h1,h2⟩:=hc
  rw [h] at h1
  cases h1
  exact ⟨arr,zC h arr,by omega⟩
 ·exact hc.of_block (setRow_other w b g arr e)
theorem fI (h:dS B w.heap.size w t sz ao n) (hm:Mks S w w') (hS:∀k,S k→∃N,Cel w t' k N) (ht:t'≠t):(∀k,inR ao n k→¬S k)∧dS B w'.heap.size w' t sz ao n:=by
 refine ⟨fun k hk e=>?_,(h.mks hm).mono (yJ _) hm.size⟩
 obtain ⟨_,_,N',h2⟩:=h.lies k hk
 obtain ⟨N,h3⟩:=hS k e
 exact ht (h3.type h2)
section
variable {B:Nat} {S:Nat→Prop} {w w':World}
theorem pQ.mkc {l:List Q} (h:pQ B w ao n l) (hm:Mks S w w') (hS:∀k,S k→∃N,Cel w 48 k N):pQ B w' ao n l:=
 ⟨h.1.mks hm (fI h.2 hm hS (by decide)).1,(fI h.2 hm hS (by decide)).2⟩
theorem nO.mkc {l:List Mac} (h:nO B w ao n l) (hm:Mks S w w') (hS:∀k,S k→∃N,Cel w 48 k N):nO B w' ao n l:=
 ⟨h.1.mks hm (fI h.2 hm hS (by decide)).1,(fI h.2 hm hS (by decide)).2⟩
theorem kY.mkc (h:kY B w ao n l) (hm:Mks S w w') (hS:∀k,S k→∃N,Cel w 48 k N):kY B w' ao n l:=
 ⟨h.1.mks hm (fI h.2 hm hS (by decide)).1,(fI h.2 hm hS (by decide)).2⟩
theorem jI.mkc {l:List bN} (h:jI B w hs l) (hm:Mks S w w') (hS:∀k,S k→∃N,Cel w 48 k N):jI B w' hs l:=
 ⟨⟨h.heads.1,fun i h1 h2=>let ⟨a,b',c,d⟩:=h.heads.2 i h1 h2;⟨a,b',c.mks hm (fI (h.own _ (yM h1)) hm hS (by decide)).1,d⟩⟩,fun v hv=>(fI (h.own v hv) hm hS (by decide)).2,h.apart⟩
end
theorem dS.le {m:Nat} (h:dS B E w t sz ao n) (hm:m≤n):dS B E w t sz ao m:=by
 rcases h with h | ⟨g,M,h1,h2,h3,h4,h5⟩
 ·exact .inl (by omega)
 ·exact .inr ⟨g,M,h1,h2,h3,h4,by omega⟩
theorem dQ.add (h:dQ B w x s hs) (hB:B≤w.heap.size) (app nx:Int) (qu:List UInt8)
  (ha:aFA B w 48 3 x.aa (x.al+1) (cB hs++jP ⟨app,qu,none,0,0⟩) g cap w') :
  dQ B w' ⟨x.qa,x.ql,x.qc,some ⟨g,0,none⟩,x.al+1,cap,x.ma,x.ml,x.mc,x.ca,x.cl,x.cc⟩ ⟨s.qs,s.clock,s.epoch,nx,s.serial,s.apps++[⟨app,qu,[]⟩],s.ms,s.cs⟩ (hs++[⟨app,qu,none,0,0⟩]):=by
 have hS:∀k,(∃N,Cel w 48 k N∧B≤k)→∃N,Cel w 48 k N:=fun k hk=>let ⟨N,a,_⟩:=hk;⟨N,a⟩
 have hal:x.al=hs.length:=h.p.1.1
 have hrm:=(h.rm.mks ha.mks).mono (yJ B) ha.mks.size
 have hk:=h.k.mkc ha.mks hS
 refine ⟨h.q.mkc ha.mks hS,⟨?_,ha.own.le ha.cap⟩,?_,h.m.mkc ha.mks hS,h.c.mkc ha.mks hS,⟨h.cap.q,ha.cap,h.cap.m,h.cap.c⟩,⟨hrm.1,ha.own,hrm.2.2.1,hrm.2.2.2.1,fun v hv=>?_⟩⟩
 ·rcases ha.own with e | ⟨g',M,e,_,_,hc,hM⟩
  ·have:=ha.cap;omega
  ·cases e
   have hl:(cB (hs++[⟨app,qu,none,0,0⟩])).length≤M*3:=by
    rw [gF,List.length_append]
    exact Nat.mul_le_mul_right _ (by have:=ha.cap;simp;omega)
   have:=(xL hc (cs:=cB (hs++[⟨app,qu,none,0,0⟩])) (by rw [nV];exact ha.cells) hl).rowP
   rw [List.length_append] at this
   rw [hal]
   exact this
 ·exact hk.snoc (yH _ _) (Nat.le_trans hB ha.mks.size) app qu none 0 [] (yJ _) ⟨rfl,.inl rfl⟩ (.inl rfl)
 ·rcases List.mem_append.1 hv with hv | hv
  ·exact hrm.2.2.2.2 v hv
  ·obtain rfl:=List.mem_singleton.1 hv
   exact .inl rfl
theorem j6 {P:Program} (w:World) (t ty e:TypeId) (i:TypeInfo) (z:Value) (size bytes:Nat) (ht:P.underlying t=some (.slice e)) (hi:P.info? e=some i) (hz:i.zero=some z)
  (hsize:i.size=size) (hby:i.bytes=bytes) (hzs:z.cells.size=size) (hsz:0<size)
  (B E:Nat) (ao:Option Addr) (n cap:Nat) (olds:List Value) (hrm:dS B E w e size ao cap) (hnc:n≤cap) (hB:B≤w.heap.size)
  (hlo:olds.length=n*size) (holds:∀b off,ao=some ⟨b,off,none⟩→∀j u,olds[j]? = some u→w.cell? ⟨b,off+j,none⟩=some u)
  (ad:Addr) (m c:Nat) (news:List Value) (hn:news.length=m*size) (hc:∀j u,news[j]? = some u→w.cell? (ad.add j)=some u) (h1c:∀u ∈ news,u.oneCell'=true) (hm:0<m)
  (b1:n+m≤maxLen) (b2:(n+m)*bytes≤140737488355328) :
  ∃g cap' w',(Builtin.append_ #[t,t] ty #[.slice ao n cap,.slice (some ad) m c]).run P w=.ok (.slice (some ⟨g,0,none⟩) (n+m) cap') w'∧aFA B w e size ao (n+m) (olds++news) g cap' w':=by
 by_cases hr:n+m≤cap
 ·rcases hrm with e0 | ⟨g,M,rfl,h1,h2,h3,h4⟩
  ·omega
  ·have hle:(n+m)*size≤M*size:=Nat.mul_le_mul_right _ (by omega)
   rw [Nat.add_mul] at hle
   subst hsize
   refine ⟨g,cap,_,run_append_room_cells (P:=P) w t ty e i ht hi g 0 n cap ad m c news hn hc h1c hr (fun j hj=>h3.isThere (by omega)) (fun j hj=>h3.frozen _),fun j u hj=>?_,?_,hr,nG ⟨_,h3,h1⟩ _ _ _ _ (Mks.refl _ _),.inl ⟨rfl,nG (S:=fun k=>k=g) rfl _ _ _ _ (Mks.refl _ _)⟩⟩
   ·by_cases hj2:j<olds.length
    ·rw [List.getElem?_append_left hj2] at hj
     rw [World.cell?_setCells_out g news (0+n*i.size) w ⟨g,j,none⟩ (fun _ _=>by left;show j<0+n*i.size;omega)]
     have:=holds g 0 rfl j u hj
     rwa [Nat.zero_add] at this
    ·rw [List.getElem?_append_right (by omega)] at hj
     have hjl:j - olds.length<news.length:=(List.getElem?_eq_some_iff.1 hj).1
     have:=World.cell?_setCells_in g news (0+n*i.size) w (fun k hk=>h3.isThere (by omega)) (j - olds.length) hjl
     rw [show 0+n*i.size+(j - olds.length)=j by omega] at this
     rw [this]
     rw [List.getElem?_eq_getElem hjl] at hj
     exact hj
   ·have hk:Mks (fun k=>k=g) w (w.setCells g (0+n*i.size) news):=nG (S:=fun k=>k=g) rfl _ _ _ _ (Mks.refl _ _)
    exact .inr ⟨g,M,rfl,h1,Nat.lt_of_lt_of_le h3.lt hk.size,hk.cel _ _ _ h3,h4⟩
 ·have key:∃v' w',(Builtin.append_ #[t,t] ty #[.slice ao n cap,.slice (some ad) m c]).run P w=.ok v' w'∧w'.ownsRow w.heap.size e size v' (n+m) (olds++news)∧w.grownBy w' none:=by
   cases ao with
   | none=>
    have h0:cap=0:=by
     rcases hrm with h0 | ⟨g,M,h1,_⟩
     ·exact h0
     ·cases h1
    have hn0:n=0:=by omega
    subst h0 hn0
    have ho:olds=[]:=List.eq_nil_of_length_eq_zero (by omega)
    subst ho
    obtain ⟨v',w',gq,r1,r2,_⟩:=run_append_own (P:=P) w w.heap.size t ty e i z size bytes ht hi hz hsize hby hzs hsz (.slice none 0 0) 0 [] ⟨by simp,.inl ⟨rfl,rfl⟩⟩ ad m c news hn hc h1c b1 b2 (yJ _)
    exact ⟨v',w',gq,r1,r2⟩
   | some b=>
    refine run_append_arg_grows (P:=P) w t ty e i z size bytes ht hi hz hsize hby hzs hsz b n cap olds hlo (fun j u hj=>?_) ad m c news hn hc (by omega) b1 b2
    rcases hrm with h0 | ⟨g,M,h1,_⟩
    ·have hn0:n=0:=by omega
     rw [hn0,Nat.zero_mul] at hlo
     rw [List.eq_nil_of_length_eq_zero hlo] at hj
     simp at hj
    ·cases h1
     rw [Addr.add_lit]
     exact holds g 0 rfl j u hj
  obtain ⟨v',w',gq,h1,h2⟩:=key
  obtain ⟨g,cap',rfl,hg1,hg2⟩:=h1.form (by omega)
  have hb:=aFo h2
  rcases h1.2 with ⟨e0,_⟩ | ⟨g',c',cur,e0,k1,k2,k3,k4,k5,k6⟩
  ·cases e0
  ·cases e0
   refine ⟨g,cap',w',gq,fun j u hj=>?_,.inr ⟨g,cap',rfl,by omega,lt_of_block k2,⟨cur,k2,k5⟩,yJ _⟩,k3,Mks.of_below hb,.inr ⟨by omega,hb⟩⟩
   have hjl:j<(olds++news).length:=(List.getElem?_eq_some_iff.1 hj).1
   rw [←k6] at hj hjl
   rw [List.length_take] at hjl
   rw [List.getElem?_take_of_lt (by omega)] at hj
   simp [World.cell?,k2]
   simpa using hj
def Off (B:Nat) (w:World) (t:TypeId) (S:Nat→Prop):Prop:=∀k,S k→k<B∨∃t' N,Cel w t' k N∧t'≠t
theorem iU (h:dS B w.heap.size w t sz ao n) (hm:Mks S w w') (hS:Off B w t S):(∀k,inR ao n k→¬S k)∧dS B w'.heap.size w' t sz ao n:=by
 refine ⟨fun k hk e=>?_,(h.mks hm).mono (yJ _) hm.size⟩
 obtain ⟨h1,_,N',h2⟩:=h.lies k hk
 rcases hS k e with h3 | ⟨t',N,h3,h4⟩
 ·omega
 ·exact h4 (h3.type h2)
section
variable {B:Nat} {S:Nat→Prop} {w w':World}
theorem pQ.off {l:List Q} (h:pQ B w ao n l) (hm:Mks S w w') (hS:Off B w 56 S):pQ B w' ao n l:=⟨h.1.mks hm (iU h.2 hm hS).1,(iU h.2 hm hS).2⟩
theorem nO.off {l:List Mac} (h:nO B w ao n l) (hm:Mks S w w') (hS:Off B w 102 S):nO B w' ao n l:=⟨h.1.mks hm (iU h.2 hm hS).1,(iU h.2 hm hS).2⟩
theorem kY.off (h:kY B w ao n l) (hm:Mks S w w') (hS:Off B w 52 S):kY B w' ao n l:=⟨h.1.mks hm (iU h.2 hm hS).1,(iU h.2 hm hS).2⟩
theorem mI.off {l:List AV} (h:mI B w ao n l) (hm:Mks S w w') (hS:Off B w 48 S):mI B w' ao n l:=⟨h.1.mks hm (iU h.2 hm hS).1,(iU h.2 hm hS).2⟩
theorem jI.off {l:List bN} (h:jI B w hs l) (hm:Mks S w w') (hS:Off B w 104 S):jI B w' hs l:=
 ⟨⟨h.heads.1,fun i h1 h2=>let ⟨a,b',c,d⟩:=h.heads.2 i h1 h2;⟨a,b',c.mks hm (iU (h.own _ (yM h1)) hm hS).1,d⟩⟩,fun v hv=>(iU (h.own v hv) hm hS).2,h.apart⟩
structure aLX (B:Nat) (w:World) (S:Nat→Prop):Prop where
 q:Off B w 56 S
 p:Off B w 48 S
 a:Off B w 104 S
 m:Off B w 102 S
 c:Off B w 52 S
theorem dQ.off (h:dQ B w x s hs) (hm:Mks S w w') (o:aLX B w S):dQ B w' x s hs:=
 ⟨h.q.off hm o.q,h.p.off hm o.p,h.k.off hm o.a,h.m.off hm o.m,h.c.off hm o.c,h.cap,(h.rm.mks hm).mono (yJ _) hm.size⟩
theorem aD4 (h:g<B):aLX B w (fun k=>k=g):=⟨fun k e=>.inl (e ▸ h),fun k e=>.inl (e ▸ h),fun k e=>.inl (e ▸ h),fun k e=>.inl (e ▸ h),fun k e=>.inl (e ▸ h)⟩
theorem nD (h:Blk w b arr t) (h1:t≠56) (h2:t≠48) (h3:t≠104) (h4:t≠102) (h5:t≠52):aLX B w (fun k=>k=b):=
 have hc:∀k,k=b→Cel w t k arr.size:=fun k e=>by subst e;exact ⟨arr,h,rfl⟩
 ⟨fun k e=>.inr ⟨t,_,hc k e,h1⟩,fun k e=>.inr ⟨t,_,hc k e,h2⟩,fun k e=>.inr ⟨t,_,hc k e,h3⟩,fun k e=>.inr ⟨t,_,hc k e,h4⟩,fun k e=>.inr ⟨t,_,hc k e,h5⟩⟩
theorem mM (ht:t'≠t):Off B w t (fun k=>∃N,Cel w t' k N∧B≤k):=fun k ⟨N,h,_⟩=>.inr ⟨t',N,h,ht⟩
end
theorem dW {len:Nat} (h:Cur w g ao len cap) (h':Cur w' g ao len cap) (hg:w.grownBy w' (some g)):Mks (fun k=>k=g) w w':=by
 refine ⟨hg.os,hg.tape,hg.output,hg.size,fun k hk hne=>hg.block k hk (fun e=>hne (Option.some.inj e)),fun t k N hc=>?_⟩
 by_cases e:k=g
 ·subst e
  obtain ⟨i,x,h1,_⟩:=h
  obtain ⟨i',x',h2,_⟩:=h'
  obtain ⟨arr,h3,h4⟩:=hc
  rw [h1] at h3
  cases h3
  exact ⟨_,h2,h4⟩
 ·exact hc.of_block (hg.block k hc.lt (fun e'=>e (Option.some.inj e')))
theorem CSt.mks {w0:World} {len:Nat} (h:CSt w0 B g ao len cap w) (hm:Mks S w w') (hS:∀k,S k→w0.heap.size≤k∧g<k):CSt w0 B g ao len cap w':=by
 obtain ⟨⟨i,x,h1,h2⟩,hc,hgr,hB⟩:=h
 refine ⟨⟨i,x,(hm.block g (lt_of_block h1) (fun e=>absurd (hS g e).2 (Nat.lt_irrefl _))).trans h1,h2⟩,?_,⟨hm.os.trans hgr.os,hm.tape.trans hgr.tape,hm.output.trans hgr.output,Nat.le_trans hgr.size hm.size,fun k hk hne=>(hm.block k (Nat.lt_of_lt_of_le hk hgr.size) (fun e=>by have:=(hS k e).1;omega)).trans (hgr.block k hk hne)⟩,hB⟩
 exact hc.below (hm.below (B:=B) (fun k e=>by have:=(hS k e).2;omega) hc.1) (yJ _)
theorem aL8 {l:List Mac} (hr:cO w ao n l) (hrm:dS B w.heap.size w 102 4 ao cap) (hnc:n≤cap) (hn:n≤1000) (hB:B≤w.heap.size) (m:Mac) :
  ∃g cp w4,(Builtin.append_ #[26,26] 26 #[.slice ao n cap,.slice (some ⟨w.heap.size,0,none⟩) 1 1]).run Tryz.prog (w.alloc (.cells #[.string (bs m.name),.int .i64 m.mem,.int .i64 m.cpu,.int .i64 m.seen] 102))=.ok (.slice (some ⟨g,0,none⟩) (n+1) cp) w4
   ∧Hid (aFA B (w.alloc (.cells #[.string (bs m.name),.int .i64 m.mem,.int .i64 m.cpu,.int .i64 m.seen] 102)) 102 4 ao (n+1) (dR l++aD6 m) g cp w4):=by
 obtain ⟨i0,hi,hz0,hz1,hz2⟩:=info_parts Tryz.infoMachine
 have hb:=yA (yH _ w) (.cells #[.string (bs m.name),.int .i64 m.mem,.int .i64 m.cpu,.int .i64 m.seen] 102)
 exact j6 _ 26 26 102 i0 (.agg #[.string ByteArray.empty,.int .i64 0,.int .i64 0,.int .i64 0]) 4 40 Tryz.underlying26 hi hz0 hz1 hz2 rfl (by decide) B _ ao n cap (dR l) (hrm.below hb) hnc (by rw [yE];omega) (by rw [iG,←hr.1]) (fun b off e j u hj=>by subst e;exact rV (hr.below hb) j u hj) ⟨w.heap.size,0,none⟩ 1 1 (aD6 m) rfl (World.news_of_block (yD w _ _)) (by intro u hu;simp at hu;rcases hu with rfl | rfl | rfl | rfl<;>rfl) (by decide) (by unfold maxLen;omega) (by omega)
theorem aLE (hr:bG w ao n l) (hrm:dS B w.heap.size w 52 5 ao cap) (hnc:n≤cap) (hn:n≤1000) (hB:B≤w.heap.size) (m:Con) :
  ∃g cp w4,(Builtin.append_ #[27,27] 27 #[.slice ao n cap,.slice (some ⟨w.heap.size,0,none⟩) 1 1]).run Tryz.prog (w.alloc (.cells #[.int .i64 m.id,.int .i64 m.app,.string (bs m.node),.int .i64 m.mem,.int .i64 m.cpu] 52))=.ok (.slice (some ⟨g,0,none⟩) (n+1) cp) w4
   ∧Hid (aFA B (w.alloc (.cells #[.int .i64 m.id,.int .i64 m.app,.string (bs m.node),.int .i64 m.mem,.int .i64 m.cpu] 52)) 52 5 ao (n+1) (aJ l++aDt m) g cp w4):=by
 obtain ⟨i0,hi,hz0,hz1,hz2⟩:=info_parts Tryz.infoCont
 have hb:=yA (yH _ w) (.cells #[.int .i64 m.id,.int .i64 m.app,.string (bs m.node),.int .i64 m.mem,.int .i64 m.cpu] 52)
 exact j6 _ 27 27 52 i0 (.agg #[.int .i64 0,.int .i64 0,.string ByteArray.empty,.int .i64 0,.int .i64 0]) 5 48 Tryz.underlying27 hi hz0 hz1 hz2 rfl (by decide) B _ ao n cap (aJ l) (hrm.below hb) hnc (by rw [yE];omega) (by rw [bB,←hr.1]) (fun b off e j u hj=>by subst e;exact iJ (hr.below hb) j u hj) ⟨w.heap.size,0,none⟩ 1 1 (aDt m) rfl (World.news_of_block (yD w _ _)) (by intro u hu;simp at hu;rcases hu with rfl | rfl | rfl | rfl | rfl<;>rfl) (by decide) (by unfold maxLen;omega) (by omega)
theorem aLB {l:List Ask} (hr:bE w ao n l) (hrm:dS B w.heap.size w 104 5 ao cap) (hnc:n≤cap) (hn:n≤1000) (hB:B≤w.heap.size) (m:Ask) :
  ∃g cp w4,(Builtin.append_ #[46,46] 46 #[.slice ao n cap,.slice (some ⟨w.heap.size,0,none⟩) 1 1]).run Tryz.prog (w.alloc (.cells #[.int .i64 m.mem,.int .i64 m.cpu,.int .i64 m.count,.string (bs m.node),.int .i64 m.missed] 104))=.ok (.slice (some ⟨g,0,none⟩) (n+1) cp) w4
   ∧Hid (aFA B (w.alloc (.cells #[.int .i64 m.mem,.int .i64 m.cpu,.int .i64 m.count,.string (bs m.node),.int .i64 m.missed] 104)) 104 5 ao (n+1) (cK l++oJ m) g cp w4):=by
 obtain ⟨i0,hi,hz0,hz1,hz2⟩:=info_parts Tryz.infoA
 have hb:=yA (yH _ w) (.cells #[.int .i64 m.mem,.int .i64 m.cpu,.int .i64 m.count,.string (bs m.node),.int .i64 m.missed] 104)
 exact j6 _ 46 46 104 i0 (.agg #[.int .i64 0,.int .i64 0,.int .i64 0,.string ByteArray.empty,.int .i64 0]) 5 48 Tryz.underlying46 hi hz0 hz1 hz2 rfl (by decide) B _ ao n cap (cK l) (hrm.below hb) hnc (by rw [yE];omega) (by rw [eQ,←hr.1]) (fun b off e j u hj=>by subst e;exact lV (hr.below hb) j u hj) ⟨w.heap.size,0,none⟩ 1 1 (oJ m) rfl (World.news_of_block (yD w _ _)) (by intro u hu;simp at hu;rcases hu with rfl | rfl | rfl | rfl | rfl<;>rfl) (by decide) (by unfold maxLen;omega) (by omega)
theorem aL7 {l:List AV} (hr:fK w ao n l) (hrm:dS B w.heap.size w 48 3 ao cap) (hnc:n≤cap) (hn:n≤1000) (hB:B≤w.heap.size) (m:AV) :
  ∃g cp w4,(Builtin.append_ #[25,25] 25 #[.slice ao n cap,.slice (some ⟨w.heap.size,0,none⟩) 1 1]).run Tryz.prog (w.alloc (.cells #[.int .i64 m.id,.string (bs m.queue),.slice m.ao m.len m.cap] 48))=.ok (.slice (some ⟨g,0,none⟩) (n+1) cp) w4
   ∧Hid (aFA B (w.alloc (.cells #[.int .i64 m.id,.string (bs m.queue),.slice m.ao m.len m.cap] 48)) 48 3 ao (n+1) (cB l++jP m) g cp w4):=by
 obtain ⟨i0,hi,hz0,hz1,hz2⟩:=info_parts Tryz.infoApp
 have hb:=yA (yH _ w) (.cells #[.int .i64 m.id,.string (bs m.queue),.slice m.ao m.len m.cap] 48)
 exact j6 _ 25 25 48 i0 (.agg #[.int .i64 0,.string ByteArray.empty,.slice none 0 0]) 3 48 Tryz.underlying25 hi hz0 hz1 hz2 rfl (by decide) B _ ao n cap (cB l) (hrm.below hb) hnc (by rw [yE];omega) (by rw [gF,←hr.1]) (fun b off e j u hj=>by subst e;exact rU (hr.below hb) j u hj) ⟨w.heap.size,0,none⟩ 1 1 (jP m) rfl (World.news_of_block (yD w _ _)) (by intro u hu;simp at hu;rcases hu with rfl | rfl | rfl<;>rfl) (by decide) (by unfold maxLen;omega) (by omega)
theorem aIO {cs:List Value} (ha:aFA B w t sz ao n cs g cap w') (hn:0<n) (hl:cs.length=n*sz):∃M,Lay w' t g (M*sz) cs:=by
 rcases ha.own with e | ⟨g',M,e,_,_,hc,hM⟩
 ·have:=ha.cap;omega
 ·cases e
  exact ⟨M,xL hc ha.cells (by rw [hl];exact Nat.mul_le_mul_right _ (by have:=ha.cap;omega))⟩
theorem dQ.addM (h:dQ B w x s hs) (m:Mac) (ha:aFA B w 102 4 x.ma (x.ml+1) (dR s.ms++aD6 m) g cap w') :
  dQ B w' ⟨x.qa,x.ql,x.qc,x.aa,x.al,x.ac,some ⟨g,0,none⟩,x.ml+1,cap,x.ca,x.cl,x.cc⟩ ⟨s.qs,s.clock,s.epoch,s.next,s.serial,s.apps,s.ms++[m],s.cs⟩ hs:=by
 have hrm:=(h.rm.mks ha.mks).mono (yJ B) ha.mks.size
 have GN:x.ml=s.ms.length:=h.m.1.1
 refine ⟨h.q.off ha.mks (mM (by decide)),h.p.off ha.mks (mM (by decide)),h.k.off ha.mks (mM (by decide)),⟨?_,ha.own.le ha.cap⟩,h.c.off ha.mks (mM (by decide)),⟨h.cap.q,h.cap.a,ha.cap,h.cap.c⟩,⟨hrm.1,hrm.2.1,ha.own,hrm.2.2.2⟩⟩
 obtain ⟨M,hL⟩:=aIO ha (by omega) (by rw [←aA0,iG];simp [GN])
 rw [←aA0] at hL
 have:=hL.rowM
 rwa [List.length_append,List.length_singleton,←GN] at this
theorem dQ.addC (h:dQ B w x s hs) (m:Con) (ha:aFA B w 52 5 x.ca (x.cl+1) (aJ s.cs++aDt m) g cap w') :
  dQ B w' ⟨x.qa,x.ql,x.qc,x.aa,x.al,x.ac,x.ma,x.ml,x.mc,some ⟨g,0,none⟩,x.cl+1,cap⟩ ⟨s.qs,s.clock,s.epoch,s.next,s.serial,s.apps,s.ms,s.cs++[m]⟩ hs:=by
 have hrm:=(h.rm.mks ha.mks).mono (yJ B) ha.mks.size
 have GN:x.cl=s.cs.length:=h.c.1.1
 refine ⟨h.q.off ha.mks (mM (by decide)),h.p.off ha.mks (mM (by decide)),h.k.off ha.mks (mM (by decide)),h.m.off ha.mks (mM (by decide)),⟨?_,ha.own.le ha.cap⟩,⟨h.cap.q,h.cap.a,h.cap.m,ha.cap⟩,⟨hrm.1,hrm.2.1,hrm.2.2.1,ha.own,hrm.2.2.2.2⟩⟩
 obtain ⟨M,hL⟩:=aIO ha (by omega) (by rw [←sP,bB];simp [GN])
 rw [←sP] at hL
 have:=hL.rowC
 rwa [List.length_append,List.length_singleton,←GN] at this
theorem zK (a:List Ask) (q:Ask):cK (a++[q])=cK a++oJ q:=by
 induction a with
 | nil=>rfl
 | cons x t ih=>rw [List.cons_append,cK,cK,ih,List.append_assoc]
theorem aKE {l:List Ask} (hn:n=l.length) (m:Ask) (ha:aFA B w 104 5 ao (n+1) (cK l++oJ m) g cap w'):bE w' (some ⟨g,0,none⟩) (n+1) (l++[m]):=by
 obtain ⟨M,hL⟩:=aIO ha (by omega) (by rw [←zK,eQ];simp [hn])
 rw [←zK] at hL
 have:=hL.rowA
 rwa [List.length_append,List.length_singleton,←hn] at this
theorem jI.snocE {ns:List AV} {l:List bN} (h:jI B w ns l) (hE:∀v ∈ ns,dS B E w 104 5 v.ao v.len) (hB:B≤E) (id:Int) (qu:List UInt8) (ao:Option Addr) (cap:Nat) (k:List Ask) (hc:k.length≤cap)
  (hr:bE w ao k.length k) (ho:dS E w.heap.size w 104 5 ao k.length):jI B w (ns++[⟨id,qu,ao,k.length,cap⟩]) (l++[⟨id,qu,k⟩]):=by
 refine ⟨⟨by simp [h.heads.1],fun i h1 h2=>?_⟩,fun v hv=>?_,?_⟩
 ·by_cases hi:i<ns.length
  ·have hi':i<l.length:=by rw [←h.heads.1];exact hi
   rw [List.getElem_append_left hi,List.getElem_append_left hi']
   exact h.heads.2 i hi hi'
  ·have hi1:i=ns.length:=by simp at h1;omega
   subst hi1
   have hl:ns.length=l.length:=h.heads.1
   simp only [List.getElem_append_right (yJ _),Nat.sub_self,List.getElem_cons_zero]
   rw [List.getElem_append_right (by omega)]
   simp only [hl,Nat.sub_self,List.getElem_cons_zero]
   exact ⟨trivial,trivial,hr,hc⟩
 ·rcases List.mem_append.1 hv with hv | hv
  ·exact h.own v hv
  ·simp at hv
   subst hv
   exact ho.mono hB (yJ _)
 ·refine List.pairwise_append.2 ⟨h.apart,by simp,fun u hu v hv=>?_⟩
  simp at hv
  subst hv
  rcases hE u hu with e | ⟨g1,M1,e1,_,h3,_⟩
  ·exact .inl e
  ·rcases ho with e | ⟨g2,M2,e2,h4,_⟩
   ·exact .inr (.inl e)
   ·refine .inr (.inr (fun e=>?_))
    simp only at e
    rw [e1,e2] at e
    cases e
    omega
theorem dQ.addA {cp:Nat} (h:rA B E w x s hs) (hE:E≤w.heap.size) (hB:B≤E) (id nx:Int) (qu:List UInt8) (ao:Option Addr) (k:List Ask) (hn:n=k.length) (hc:n≤cp)
  (hr:bE w ao n k) (ho:dS E w.heap.size w 104 5 ao cp) (ha:aFA B w 48 3 x.aa (x.al+1) (cB hs++jP ⟨id,qu,ao,n,cp⟩) g cap w') :
  dQ B w' ⟨x.qa,x.ql,x.qc,some ⟨g,0,none⟩,x.al+1,cap,x.ma,x.ml,x.mc,x.ca,x.cl,x.cc⟩ ⟨s.qs,s.clock,s.epoch,nx,s.serial,s.apps++[⟨id,qu,k⟩],s.ms,s.cs⟩ (hs++[⟨id,qu,ao,n,cp⟩]):=by
 subst hn
 have H:=h.has hE
 have hrm:=(H.rm.mks ha.mks).mono (yJ B) ha.mks.size
 have GN:x.al=hs.length:=H.p.1.1
 have hk:=(H.k.snocE h.asks hB id qu ao cp k hc hr (ho.le hc)).off ha.mks (mM (by decide))
 refine ⟨H.q.off ha.mks (mM (by decide)),⟨?_,ha.own.le ha.cap⟩,hk,H.m.off ha.mks (mM (by decide)),H.c.off ha.mks (mM (by decide)),⟨H.cap.q,ha.cap,H.cap.m,H.cap.c⟩,⟨hrm.1,ha.own,hrm.2.2.1,hrm.2.2.2.1,fun v hv=>?_⟩⟩
 ·obtain ⟨M,hL⟩:=aIO ha (by omega) (by rw [←nV,gF];simp [GN])
  rw [←nV] at hL
  have:=hL.rowP
  rwa [List.length_append,List.length_singleton,←GN] at this
 ·rcases List.mem_append.1 hv with hv | hv
  ·exact hrm.2.2.2.2 v hv
  ·obtain rfl:=List.mem_singleton.1 hv
   exact ((ho.mono hB (yJ _)).mks ha.mks).mono (yJ _) ha.mks.size
structure StB (w:World) (b:Nat) (y:Sls) (s:St):Prop where
 box:Blk w b (svc y s) 29
 row:gU w y s
 cap:y.ql≤y.qc
theorem StB.below (h:StB w b y s) (hb:Bw w w'):StB w' b y s:=⟨h.box.below hb,h.row.below hb,h.cap⟩
theorem StB.new (h:dQ B w y s hs):StB (w.alloc (.cells (svc y s) 29)) w.heap.size y s:=⟨yD _ _ _,h.ans.row.below (yA (yH _ w) _),h.cap.q⟩
theorem StB.read (h:StB w b y s):w.cell? ⟨b,0,none⟩=some (.slice y.qa y.ql y.qc)∧w.cell? ⟨b,1,none⟩=some (.int .i64 s.clock)∧w.cell? ⟨b,2,none⟩=some (.int .i64 s.epoch)∧w.cell? ⟨b,3,none⟩=some (.int .i64 s.next)∧w.cell? ⟨b,4,none⟩=some (.int .i64 s.serial)∧w.cell? ⟨b,5,none⟩=some (.slice y.aa y.al y.ac)∧w.cell? ⟨b,6,none⟩=some (.slice y.ma y.ml y.mc)∧w.cell? ⟨b,7,none⟩=some (.slice y.ca y.cl y.cc):=
 ⟨h.box.at 0,h.box.at 1,h.box.at 2,h.box.at 3,h.box.at 4,h.box.at 5,h.box.at 6,h.box.at 7⟩
theorem aEH {x:Int} (h0 : -1000000000000≤x) (h1:x≤1000000000000):(Lit.int .i64 x).wf=true:=by
 simp only [Lit.wf,yK,yL]
 exact ⟨Int.le_trans (by decide) h0,Int.le_trans h1 (by decide)⟩
def CRm (B:Nat) (w:World) (ao:Option Addr) (n cap:Nat) (l:List Con):Prop:=bG w ao n l∧zM B w 52 5 ao n cap
theorem CRm.cells (h:CRm B w (some ⟨g,0,none⟩) n cap l) (h0:0<cap):∃M,B≤g∧Lay w 52 g (M*5) (aJ l)∧cap≤M∧n=l.length∧n≤cap:=by
 obtain ⟨h1,h2,h4⟩:=h
 rcases h4 with e | ⟨g',M,e,hB,hc,hM⟩
 ·omega
 ·cases e
  have hl:=h1.1
  exact ⟨M,hB,xL hc (fun j u hj=>by have:=iJ h1 j u hj;rwa [Nat.zero_add] at this) (by rw [bB,←hl];exact Nat.mul_le_mul_right _ (by omega)),hM,hl,h2⟩
end
end Go.Proofs.YtngkddhcmfbjnaaGreat
