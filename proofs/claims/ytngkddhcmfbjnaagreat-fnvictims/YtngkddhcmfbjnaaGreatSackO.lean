/-
  The heap of leaves: one put in, the first one taken, and the heap that is made; walks over the dump.
-/
import Derived.Test.YtngkddhcmfbjnaaGreatSackL
set_option maxRecDepth 100000
set_option maxHeartbeats 16000000
set_option linter.unusedVariables false
set_option linter.unusedSimpArgs false
namespace Go.Proofs.YtngkddhcmfbjnaaGreat
section
open Go.RowKit Go.Maps
variable {F:List Fr3} {K:List P4} {l:List SE} {bk bm g:Nat} {w w0:World}
def HI (K:List P4) (F:List Fr3) (w0:World) (bm bk g:Nat) (w:World) (l:List SE):Prop:=HSt K F w0 bm bk g w l∧l.length≤1000000
theorem aKQ (K:List P4) (F:List Fr3) (hK:K.length≤1000000000) (KW:∀p ∈ K,Wf4 p.1 p.2.1 p.2.2.1 p.2.2.2) (w0:World) (bm bk g:Nat) :
  zO (∀f ∈ F,f.2.2≠164) seD gT g (HI K F w0 bm bk g) (fun _ x v=>v=.iface 164 (stv x)∧x.2 ∈ K) where
 obj:=fun w l h=>let ⟨v,b,_⟩:=h.1.1;⟨v,_,b⟩
 less:=fun w l x y i j h hb hi hj=>(aFK K F hK KW w0 bm bk g w l x y i j h.1 hb hi hj h.2).mono (fun e w' k=>⟨k.1,k.2,h.2⟩)
 swap:=fun w l x y i j h hb hi hj=>(aFI K F w0 bm bk g w l x y i j h.1 hb hi hj h.2).mono (fun e w' k=>⟨k.1,k.2,by rw [HeapM.swap_len];exact h.2⟩)
 len:=fun w l x y h hb=>(aBw K F w0 bm bk g w l x y h.1 hb).mono (fun e w' k=>⟨k.1,k.2,h.2⟩)
 push:=fun hF w l a v h hv hl=>by
  obtain ⟨rfl,hk⟩:=hv
  exact (aFJ K F w0 bm bk g w l a h.1 hF hk hl).mono (fun e w' k=>⟨k.1,k.2,by simp;omega⟩)
 pop:=fun w l h h0=>(aG1 K F w0 bm bk g w l h.1 h0 h.2).mono (fun e w' k=>⟨⟨_,k.1,rfl,aHg h.1.2.2.2.2.1 (by omega)⟩,k.2,by simp;have:=h.2;omega⟩)
theorem aKF (K:List P4) (F:List Fr3) (hK:K.length≤1000000000) (KW:∀p ∈ K,Wf4 p.1 p.2.1 p.2.2.1 p.2.2.2) (w0:World) (bm bk g:Nat) (w:World) (l:List SE) (z:SE) (h:HI K F w0 bm bk g w l) (hF:∀f ∈ F,f.2.2≠164) (hz:z.2 ∈ K) (hl:l.length<1000000) :
  cP 139 #[.pointer (some ⟨g,0,none⟩),stv z] w fun e w'=>e=.returned (.tuple #[])∧HI K F w0 bm bk g w' (HeapM.upL seD gT (l.length+1) (l++[z]) l.length):=by
 obtain ⟨n1,p1,p2,p3,p4⟩:=z
 have hb0:=yA (yH _ w) (.cells #[.string (bs n1),.int .i64 p1,.int .i64 p2,.int .i64 p3,.int .i64 p4] 164)
 have C:=aA (aIR (aKQ K F hK KW w0 bm bk g) hF l (n1,p1,p2,p3,p4) (.iface 164 (stv (n1,p1,p2,p3,p4))) _ ⟨h.1.below hb0,h.2⟩ ⟨rfl,hz⟩ hl)
 clear h hb0
 go_enter Tryz.func139,Tryz.ntmps139
 go_wp2_with fail
 refine (uH C).mono ?_
 rintro e w1 ⟨rfl,hh⟩
 have HH:=aA hh
 clear hh C
 go_wp2
 go_end0
 exact ⟨rfl,uH HH⟩
theorem HSt.more (h:HSt K F w0 bm bk g w l) {v:Value} (hb:Blk w g #[v,aBj bk] 161) (f:Fr3) (h2:FrB bm g f w) (hv:some f.1≠v.ownBlock):HSt K (f::F) w0 bm bk g w l:=by
 obtain ⟨⟨v0,h1,o1,hF⟩,h3,h4,h5,h6,h7,h8⟩:=h
 have e:=h1.symm.trans hb
 simp at e
 subst e
 exact ⟨⟨v0,h1,o1,fun k hk=>by rcases List.mem_cons.1 hk with rfl | hk;exact hv;exact hF k hk⟩,h3,h4,h5,h6,h7,fun k hk=>by rcases List.mem_cons.1 hk with rfl | hk;exact h2;exact h8 k hk⟩
theorem HSt.less {f:Fr3} (h:HSt K (f::F) w0 bm bk g w l):HSt K F w0 bm bk g w l:=by
 obtain ⟨⟨v0,h1,o1,hF⟩,h3,h4,h5,h6,h7,h8⟩:=h
 exact ⟨⟨v0,h1,o1,fun k hk=>hF k (List.mem_cons_of_mem _ hk)⟩,h3,h4,h5,h6,h7,fun k hk=>h8 k (List.mem_cons_of_mem _ hk)⟩
theorem HSt.write {f:Fr3} (h:HSt K (f::F) w0 bm bk g w l) (hk:f.1≠bk) (h0:w0.heap.size≤f.1) (hd:∀k ∈ F,k.1≠f.1) (j:Nat) (x:Value):HSt K ((f.1,f.2.1.setIfInBounds j x,f.2.2)::F) w0 bm bk g (w.setCell ⟨f.1,j,none⟩ x) l:=by
 obtain ⟨⟨v0,h1,o1,hF⟩,h3,h4,h5,h6,h7,h8⟩:=h
 have hf:=h8 f (List.mem_cons_self ..)
 have hv:=hF f (List.mem_cons_self ..)
 refine ⟨⟨v0,h1.other _ _ _ (fun e=>hf.2.2 e.symm),o1.kept (dM (aF w (some f.1)) j x) (.inr (fun e=>hv e.symm)),?_⟩,h3.other _ _ _ (fun e=>hk e.symm),h4.grown (dM (aF w (some f.1)) j x) (by simp;exact fun e=>hf.2.1 e.symm),h5,h6,yC h7 _ _ _ h0,?_⟩
 ·intro k hk'
  rcases List.mem_cons.1 hk' with rfl | hk'
  ·exact hv
  ·exact hF k (List.mem_cons_of_mem _ hk')
 ·intro k hk'
  rcases List.mem_cons.1 hk' with rfl | hk'
  ·exact ⟨hf.1.set j x,hf.2⟩
  ·have:=h8 k (List.mem_cons_of_mem _ hk')
   exact ⟨this.1.other _ _ _ (hd k hk'),this.2⟩
theorem aGw (K:List P4) (w:World):cP 138 #[] w fun e w'=>e=.returned (aBj (w.heap.size+1))∧Blk w' (w.heap.size+1) #[.map (some w.heap.size)] 202∧dU K w.heap.size w'∧Bw w w'∧w'.heap.size=w.heap.size+2:=by
 have hmm:=@run_makeMap Tryz.prog
 have KQ:∀(fn:Fn) (first cap:Array Value) (w:World),(Instr.makeFunc fn first cap).run Tryz.prog w=.ok (.func fn first cap) w:=fun _ _ _ _=>rfl
 go_enter Tryz.func138,Tryz.ntmps138
 go_wp2
 go_ret
 refine ⟨rfl,?_,aDn K ?_,yA (yA (yH _ _) _) _,by simp⟩
 ·have:=yD (w.alloc (Obj.map #[] 0)) #[Value.map (some w.heap.size)] 202
  rw [yE] at this
  exact this
 ·have:=(World.ownsMap_made w Tryz.prog 86 mF).alloc (.cells #[.map (some w.heap.size)] 202)
  exact this
theorem aAs (K:List P4) (F:List Fr3) (hK:K.length≤1000000000) (KW:∀p ∈ K,Wf4 p.1 p.2.1 p.2.2.1 p.2.2.2) (w0:World) (bm bk g:Nat) (w:World) (l:List SE) (h:HI K F w0 bm bk g w l) (h0:0<l.length) (hw0:w0.heap.size≤w.heap.size) :
  cP 142 #[.pointer (some ⟨g,0,none⟩)] w fun e w'=>e=.returned (stv (HeapM.at' seD (HeapM.popL seD gT l) (l.length - 1)))∧HI K F w0 bm bk g w' ((HeapM.popL seD gT l).take (l.length - 1)):=by
 obtain ⟨v,b1,Hq,_⟩:=h.1.1
 have hgl:=b1.lt
 have h5:=h.1.2.2.2.1
 have hb0:=yA (yH _ w) (.cells #[.string ⟨#[]⟩,.int .i64 0,.int .i64 0,.int .i64 0,.int .i64 0] 164)
 have hM:HI K ((w.heap.size,#[.string ⟨#[]⟩,.int .i64 0,.int .i64 0,.int .i64 0,.int .i64 0],164)::F) w0 bm bk g _ l:=⟨(h.1.below hb0).more (b1.below hb0) (w.heap.size,#[.string ⟨#[]⟩,.int .i64 0,.int .i64 0,.int .i64 0,.int .i64 0],164) ⟨yD _ _ _,by show w.heap.size≠bm;omega,by show w.heap.size≠g;omega⟩ (fun e=>by have:=(Hq.lt w.heap.size e.symm).2;omega),h.2⟩
 have C:=aA (aJa (aKQ K _ hK KW w0 bm bk g) l _ hM h0 h.2)
 have HD:=aA (show ∀k ∈ F,k.1≠w.heap.size from fun k hk=>by have:=(h.1.2.2.2.2.2.2 k hk).1.lt;omega)
 obtain ⟨R,hR⟩:∃R,(HeapM.popL seD gT l).take (l.length - 1)=R:=⟨_,rfl⟩
 obtain ⟨⟨n1,p1,p2,p3,p4⟩,hs1⟩:∃s,HeapM.at' seD (HeapM.popL seD gT l) (l.length - 1)=s:=⟨_,rfl⟩
 rw [hR,hs1] at C ⊢
 have hbk:w.heap.size≠bk:=by omega
 clear h b1 Hq hb0 hM hR hs1
 have hta:=aHh (n1,p1,p2,p3,p4)
 go_enter Tryz.func142,Tryz.ntmps142
 go_wp2_with fail
 refine (uH C).mono ?_
 rintro e w1 ⟨⟨v1,rfl,rfl,_⟩,hh⟩
 have q1:=hh.1.write hbk hw0 (uH HD) 0 (.string (bs n1))
 have q2:=q1.write hbk hw0 (uH HD) 1 (.int .i64 p1)
 have q3:=q2.write hbk hw0 (uH HD) 2 (.int .i64 p2)
 have q4:=q3.write hbk hw0 (uH HD) 3 (.int .i64 p3)
 have q5:=q4.write hbk hw0 (uH HD) 4 (.int .i64 p4)
 have bw:=(hh.1.2.2.2.2.2.2 _ (List.mem_cons_self ..)).1
 obtain ⟨c0,c1,c2,c3,c4⟩:=zp bw
 have f0:=bw.f 0;have f1:=bw.f 1;have f2:=bw.f 2;have f3:=bw.f 3;have f4:=bw.f 4
 have bz:=(q5.2.2.2.2.2.2 _ (List.mem_cons_self ..)).1
 obtain ⟨z0,z1,z2,z3,z4⟩:=zp bz
 have HQ:=aA (show HI K F w0 bm bk g _ R from ⟨q5.less,hh.2⟩)
 simp only at HQ f0 f1 f2 f3 f4
 clear hh q1 q2 q3 q4 q5 bw bz C
 go_wp2
 refine bodyPost_ret (v:=stv (n1,p1,p2,p3,p4)) (by simp [results,Tryz.results142,go_sem,z0,z1,z2,z3,z4]) rfl ⟨rfl,uH HQ⟩
end
end Go.Proofs.YtngkddhcmfbjnaaGreat
