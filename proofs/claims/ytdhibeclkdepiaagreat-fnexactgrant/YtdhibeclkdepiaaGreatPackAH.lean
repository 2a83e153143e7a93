/-
  Texts in one: GrT, GrL, StBx.
-/
import Derived.Test.YtdhibeclkdepiaaGreatGrS
set_option maxRecDepth 100000
set_option maxHeartbeats 16000000
set_option linter.unusedVariables false
set_option linter.unusedSimpArgs false
namespace Go.Proofs.YtdhibeclkdepiaaGreat
section
open Go.RowKit
theorem specGrant_any (x:Sls) (s:St) (hs0:List AV) (nd:List UInt8) (w:World) (h:SRow w x s) (hav:AVRow w x.aa x.al hs0) (hhd:Heads w hs0 s.apps) (hss:SSome x hs0) (hf:FitSt s) (hnd:nd.length≤1048576) :
  Calls Tryz.prog 6 #[sv x s,.string (bs nd)] w (GtAns w (grantV s nd) (conOf (nextGV s nd)) (nextGV s nd).isSome):=by
 have hb1:=yA (yA (yA (Below.refl _ w) (.cells (svc x s) 34)) (.cells #[.slice none 0 0,.int .i64 0,.int .i64 0,.int .i64 0,.int .i64 0,.slice none 0 0,.slice none 0 0,.slice none 0 0] 34)) (.cells #[.int .i64 0,.int .i64 0,.string ⟨#[]⟩,.int .i64 0,.int .i64 0] 38)
 have P0:=hide (((yD w (svc x s) 34).al (.cells #[.slice none 0 0,.int .i64 0,.int .i64 0,.int .i64 0,.int .i64 0,.slice none 0 0,.slice none 0 0,.slice none 0 0] 34)).al (.cells #[.int .i64 0,.int .i64 0,.string ⟨#[]⟩,.int .i64 0,.int .i64 0] 38))
 have P1:=hide ((yD (w.alloc (.cells (svc x s) 34)) #[.slice none 0 0,.int .i64 0,.int .i64 0,.int .i64 0,.int .i64 0,.slice none 0 0,.slice none 0 0,.slice none 0 0] 34).al (.cells #[.int .i64 0,.int .i64 0,.string ⟨#[]⟩,.int .i64 0,.int .i64 0] 38))
 have P2:=hide (yD ((w.alloc (.cells (svc x s) 34)).alloc (.cells #[.slice none 0 0,.int .i64 0,.int .i64 0,.int .i64 0,.int .i64 0,.slice none 0 0,.slice none 0 0,.slice none 0 0] 34)) #[.int .i64 0,.int .i64 0,.string ⟨#[]⟩,.int .i64 0,.int .i64 0] 38)
 rw [yE] at P1
 rw [yE,yE] at P2
 have B1:=hide hb1
 have hz1:(((w.alloc (.cells (svc x s) 34)).alloc (.cells #[.slice none 0 0,.int .i64 0,.int .i64 0,.int .i64 0,.int .i64 0,.slice none 0 0,.slice none 0 0,.slice none 0 0] 34)).alloc (.cells #[.int .i64 0,.int .i64 0,.string ⟨#[]⟩,.int .i64 0,.int .i64 0] 38)).heap.size=w.heap.size+1+1+1:=by simp only [yE]
 obtain ⟨o,ho⟩:∃o,stateOkV s=o:=⟨_,rfl⟩
 have CO:=hide (show Calls Tryz.prog 22 #[sv x s] (((w.alloc (.cells (svc x s) 34)).alloc (.cells #[.slice none 0 0,.int .i64 0,.int .i64 0,.int .i64 0,.int .i64 0,.slice none 0 0,.slice none 0 0,.slice none 0 0] 34)).alloc (.cells #[.int .i64 0,.int .i64 0,.string ⟨#[]⟩,.int .i64 0,.int .i64 0] 38)) (fun e w'=>e=.returned (.bool o)∧Below _ _ w') from by have:=specStateOk_any x s _ (h.below hb1) hf;rw [ho] at this;exact this)
 have CC:=hide (fun wx (hb:Below w.heap.size w wx)=>l04Copy_some x s hs0 wx (h.below hb) (hav.below hb) (hhd.below hb) hss hf)
 have HNO:=hide (fun e:stateOkV s=false=>show nextGV s nd=none∧grantV s nd=s from by
  have h1:nextGV s nd=none:=by rw [nextGV,if_neg (by simp [e])]
  exact ⟨h1,grantV_none h1⟩)
 have CG:=hide (fun B y hs wx (hx:SHas B wx y s hs) (hBw:B≤wx.heap.size) (hca:∃g,y.ca=some ⟨g,0,none⟩) (hok:stateOkV s=true)=>show Calls Tryz.prog 24 #[sv y s,.string (bs nd)] wx (fun e w'=>∃y' hs',e=.returned (.tuple #[sv y' (grantV s nd),conv (conOf (nextGV s nd)),.bool (nextGV s nd).isSome])∧SHas B w' y' (grantV s nd) hs'∧(∃g,y'.ca=some ⟨g,0,none⟩)∧Below B wx w') from l05Grant_any hx hBw hca nd hf hok hnd)
 rw [ho] at HNO
 have HO:=hide ho
 clear h hav hhd hss hf hnd hb1 ho
 have u0:=(uH P0).at 0;have u1:=(uH P0).at 1;have u2:=(uH P0).at 2;have u3:=(uH P0).at 3;have u4:=(uH P0).at 4;have u5:=(uH P0).at 5;have u6:=(uH P0).at 6;have u7:=(uH P0).at 7
 simp at u0 u1 u2 u3 u4 u5 u6 u7
 go_enter Tryz.func6,Tryz.ntmps6
 go_wp2_with fail
 refine (uH CO).mono ?_
 rintro e w2 ⟨rfl,hb⟩
 clear u0 u1 u2 u3 u4 u5 u6 u7
 have X2:=hide ((uH P0).below hb)
 have Q1:=hide ((uH P1).below hb)
 have Q2:=hide ((uH P2).below hb)
 have B2:=hide (yB (uH B1) hb)
 have hz2:w.heap.size+1+1+1≤w2.heap.size:=by have:=hb.size;rw [hz1] at this;exact this
 clear hb P0 P1 P2 B1 CO hz1
 cases o with
 | false=>
  obtain ⟨hn1,hn2⟩:=uH HNO rfl
  have HN1:=hide hn1
  have HN2:=hide hn2
  go_upto_region 2 with fail
  refine wp_region_lit ?_
  refine wpList_same (v:=sv x s) (d:=some 10) rfl rfl (run_v (state_load (uH X2) rfl)) ?_
  simp only [Act.put,sA,sB,sC]
  refine wpList_plain rfl (fun K hK=>?_)
  go_simp
  refine (uH CC _ (uH B2)).mono ?_
  rintro e w3 ⟨y,hs,rfl,ha,hb,-⟩
  refine hK _ _ ?_
  clear hK K
  have H3:=hide (ha.has (Nat.le_refl _))
  have Q3:=hide ((uH Q1).below hb)
  have Q4:=hide ((uH Q2).below hb)
  have B3:=hide (yB (uH B2) hb)
  clear ha hb X2 Q1 Q2 B2 CC CG HNO hn1 hn2
  try simp only [Act.put,sA,sB,sC]
  refine wpList_same (v:=.agg #[.int .i64 0,.int .i64 0,.string ⟨#[]⟩,.int .i64 0,.int .i64 0]) (d:=some 12) rfl rfl (by refine run_v ?_;simp only [List.map_toArray,List.map_nil];kernel_rfl) ?_
  simp only [Act.put,sA,sB,sC]
  refine wpList_none (d:=none) rfl rfl (run_u (blk_store 34 (arr:=svc y s) (uH Q3) (by kernel_rfl) rfl (by kernel_rfl))) ?_
  simp only [Act.put]
  have M5:=mks_row (uH Q3) (svc y s) rfl
  have R5:=hide (blk_row (uH Q3) (svc y s))
  have Q5:=hide (M5.blk (uH Q4) (by omega))
  have H5:=hide ((uH H3).low M5 (by omega))
  have B5:=hide ((uH B3).trans (M5.below (fun k e=>by subst e;omega) (uH B3).size))
  clear M5 Q3 Q4 H3 B3
  generalize World.setRow w3 (w.heap.size+1) (svc y s)=w5 at R5 Q5 H5 B5 ⊢
  refine wpList_none (d:=none) rfl rfl (run_u (blk_store 38 (arr:=#[.int .i64 0,.int .i64 0,.string ⟨#[]⟩,.int .i64 0,.int .i64 0]) (uH Q5) (by kernel_rfl) rfl (by kernel_rfl))) ?_
  simp only [Act.put]
  have M6:=mks_row (uH Q5) #[.int .i64 0,.int .i64 0,.string ⟨#[]⟩,.int .i64 0,.int .i64 0] rfl
  have R6:=hide (M6.blk (uH R5) (by omega))
  have T6:=hide (blk_row (uH Q5) #[.int .i64 0,.int .i64 0,.string ⟨#[]⟩,.int .i64 0,.int .i64 0])
  have H6:=hide ((uH H5).low M6 (by omega))
  have B6:=hide ((uH B5).trans (M6.below (fun k e=>by subst e;omega) (uH B5).size))
  clear M6 R5 Q5 H5 B5
  generalize World.setRow w5 (w.heap.size+1+1) #[.int .i64 0,.int .i64 0,.string ⟨#[]⟩,.int .i64 0,.int .i64 0]=w6 at R6 T6 H6 B6 ⊢
  have HA:=hide (show GtAns w s ⟨0,0,[],0,0⟩ false (.returned (.tuple #[sv y s,conv ⟨0,0,[],0,0⟩,.bool false])) w6 from ⟨y,hs,rfl,((uH H6).base (by omega)).ans,uH B6⟩)
  have z0:=(uH R6).at 0;have z1:=(uH R6).at 1;have z2:=(uH R6).at 2;have z3:=(uH R6).at 3;have z4:=(uH R6).at 4;have z5:=(uH R6).at 5;have z6:=(uH R6).at 6;have z7:=(uH R6).at 7
  simp at z0 z1 z2 z3 z4 z5 z6 z7
  have r0:=(uH T6).at 0;have r1:=(uH T6).at 1;have r2:=(uH T6).at 2;have r3:=(uH T6).at 3;have r4:=(uH T6).at 4
  simp at r0 r1 r2 r3 r4
  clear R6 T6 H6 B6
  go_wp2
  refine bodyPost_ret (v:=.tuple #[sv y s,conv ⟨0,0,[],0,0⟩,.bool false]) (by simp [results,Tryz.results6,go_sem,z0,z1,z2,z3,z4,z5,z6,z7,r0,r1,r2,r3,r4];try rfl) rfl ?_
  rw [uH HN2,uH HN1]
  exact uH HA
 | true=>
  have CG2:=hide (fun B y hs wx (hx:SHas B wx y s hs) (hBw:B≤wx.heap.size) (hca:∃g,y.ca=some ⟨g,0,none⟩)=>uH CG B y hs wx hx hBw hca (uH HO))
  obtain ⟨S2,hS2⟩:∃t,grantV s nd=t:=⟨_,rfl⟩
  obtain ⟨⟨c0,c1,cn,c3,c4⟩,hc⟩:∃t,conOf (nextGV s nd)=t:=⟨_,rfl⟩
  obtain ⟨ok,hok⟩:∃t,(nextGV s nd).isSome=t:=⟨_,rfl⟩
  rw [hS2,hc,hok] at CG2
  have HS2:=hide hS2
  have HCC:=hide hc
  have HOK:=hide hok
  clear CG HNO HO hS2 hc hok
  go_upto_region 3 with fail
  refine wp_region_lit ?_
  refine wpList_same (v:=sv x s) (d:=some 13) rfl rfl (run_v (state_load (uH X2) rfl)) ?_
  simp only [Act.put,sA,sB,sC]
  refine wpList_plain rfl (fun K hK=>?_)
  go_simp
  refine (uH CC _ (uH B2)).mono ?_
  rintro e w3 ⟨y,hs,rfl,ha,hb,hca⟩
  refine hK _ _ ?_
  clear hK K
  try simp only [Act.put,sA,sB,sC]
  have H3:=hide (ha.has (Nat.le_refl _))
  have Q3:=hide ((uH Q1).below hb)
  have Q4:=hide ((uH Q2).below hb)
  have B3:=hide (yB (uH B2) hb)
  have hz3:=hb.size
  clear ha hb X2 Q1 Q2 B2 CC
  refine wpList_same (v:=.string (bs nd)) (d:=some 15) rfl rfl rfl ?_
  simp only [Act.put,sA,sB,sC]
  refine wpList_plain rfl (fun K hK=>?_)
  go_simp
  refine (uH CG2 _ y hs _ (uH H3) hz3 hca).mono ?_
  rintro e w4 ⟨y2,hs2,rfl,hsh,-,hbl⟩
  refine hK _ _ ?_
  clear hK K
  try simp only [Act.put,sA,sB,sC]
  have H4:=hide hsh
  have Q5:=hide (show Blk w4 (w.heap.size+1) _ 34 from (hbl.block (w.heap.size+1) (by omega)).trans (uH Q3))
  have Q6:=hide (show Blk w4 (w.heap.size+1+1) _ 38 from (hbl.block (w.heap.size+1+1) (by omega)).trans (uH Q4))
  have B4:=hide ((uH B3).trans (hbl.mono (by omega)))
  clear hsh hbl H3 Q3 Q4 B3 CG2
  have H3:=H4
  have Q3:=Q5
  have Q4:=Q6
  have B3:=B4
  clear H4 Q5 Q6 B4
  refine wpList_same (v:=sv y2 S2) (d:=some 17) rfl rfl rfl ?_
  simp only [Act.put,sA,sB,sC]
  refine wpList_same (v:=conv ⟨c0,c1,cn,c3,c4⟩) (d:=some 18) rfl rfl rfl ?_
  simp only [Act.put,sA,sB,sC]
  refine wpList_same (v:=.bool ok) (d:=some 19) rfl rfl rfl ?_
  simp only [Act.put,sA,sB,sC]
  refine wpList_none (d:=none) rfl rfl (run_u (blk_store 34 (arr:=svc y2 S2) (uH Q3) (by kernel_rfl) rfl (by kernel_rfl))) ?_
  simp only [Act.put]
  have M5:=mks_row (uH Q3) (svc y2 S2) rfl
  have R5:=hide (blk_row (uH Q3) (svc y2 S2))
  have Q5:=hide (M5.blk (uH Q4) (by omega))
  have H5:=hide ((uH H3).low M5 (by omega))
  have B5:=hide ((uH B3).trans (M5.below (fun k e=>by subst e;omega) (uH B3).size))
  clear M5 Q3 Q4 H3 B3
  generalize World.setRow w4 (w.heap.size+1) (svc y2 S2)=w5 at R5 Q5 H5 B5 ⊢
  refine wpList_none (d:=none) rfl rfl (run_u (blk_store 38 (arr:=#[.int .i64 c0,.int .i64 c1,.string (bs cn),.int .i64 c3,.int .i64 c4]) (uH Q5) (by kernel_rfl) rfl (by kernel_rfl))) ?_
  simp only [Act.put]
  have M6:=mks_row (uH Q5) #[.int .i64 c0,.int .i64 c1,.string (bs cn),.int .i64 c3,.int .i64 c4] rfl
  have R6:=hide (M6.blk (uH R5) (by omega))
  have T6:=hide (blk_row (uH Q5) #[.int .i64 c0,.int .i64 c1,.string (bs cn),.int .i64 c3,.int .i64 c4])
  have H6:=hide ((uH H5).low M6 (by omega))
  have B6:=hide ((uH B5).trans (M6.below (fun k e=>by subst e;omega) (uH B5).size))
  clear M6 R5 Q5 H5 B5
  generalize World.setRow w5 (w.heap.size+1+1) #[.int .i64 c0,.int .i64 c1,.string (bs cn),.int .i64 c3,.int .i64 c4]=w6 at R6 T6 H6 B6 ⊢
  have HA:=hide (show GtAns w S2 ⟨c0,c1,cn,c3,c4⟩ ok (.returned (.tuple #[sv y2 S2,conv ⟨c0,c1,cn,c3,c4⟩,.bool ok])) w6 from ⟨y2,hs2,rfl,((uH H6).base (by omega)).ans,uH B6⟩)
  have z0:=(uH R6).at 0;have z1:=(uH R6).at 1;have z2:=(uH R6).at 2;have z3:=(uH R6).at 3;have z4:=(uH R6).at 4;have z5:=(uH R6).at 5;have z6:=(uH R6).at 6;have z7:=(uH R6).at 7
  simp at z0 z1 z2 z3 z4 z5 z6 z7
  have r0:=(uH T6).at 0;have r1:=(uH T6).at 1;have r2:=(uH T6).at 2;have r3:=(uH T6).at 3;have r4:=(uH T6).at 4
  simp at r0 r1 r2 r3 r4
  clear R6 T6 H6 B6
  go_wp2
  refine bodyPost_ret (v:=.tuple #[sv y2 S2,conv ⟨c0,c1,cn,c3,c4⟩,.bool ok]) (by simp [results,Tryz.results6,go_sem,z0,z1,z2,z3,z4,z5,z6,z7,r0,r1,r2,r3,r4];try rfl) rfl ?_
  rw [uH HS2,uH HCC,uH HOK]
  exact uH HA
theorem GtAns.lay {w w':World} {s:St} {c0 c1 c3 c4:Int} {cn:List UInt8} {ok:Bool} {e:Ending} (h:GtAns w s ⟨c0,c1,cn,c3,c4⟩ ok e w'):∃y hs,e=.returned (.tuple #[sv y s,conv ⟨c0,c1,cn,c3,c4⟩,.bool ok])∧AnsL w.heap.size w'.heap.size ((w'.alloc (.cells (svc y s) 34)).alloc (.cells #[.int .i64 c0,.int .i64 c1,.string (bs cn),.int .i64 c3,.int .i64 c4] 38)) w'.heap.size y s hs none 0 []∧Blk ((w'.alloc (.cells (svc y s) 34)).alloc (.cells #[.int .i64 c0,.int .i64 c1,.string (bs cn),.int .i64 c3,.int .i64 c4] 38)) (w'.heap.size+1) #[.int .i64 c0,.int .i64 c1,.string (bs cn),.int .i64 c3,.int .i64 c4] 38∧Below w.heap.size w w':=by
 obtain ⟨y,hs,rfl,h1,h2⟩:=h
 have hb:=yA (Below.refl _ w') (.cells (svc y s) 34)
 have h0:AnsL w.heap.size w'.heap.size (w'.alloc (.cells (svc y s) 34)) w'.heap.size y s hs none 0 []:=⟨yD _ _ _,h1.below hb,⟨rfl,.inl rfl⟩,.inl rfl,fun k hk=>absurd rfl hk.1,Nat.le_refl _⟩
 refine ⟨y,hs,rfl,h0.al _,?_,h2⟩
 have:=yD (w'.alloc (.cells (svc y s) 34)) #[.int .i64 c0,.int .i64 c1,.string (bs cn),.int .i64 c3,.int .i64 c4] 38
 rwa [yE] at this
theorem AnsH.done {B E:Nat} {w:World} {g:Nat} {y:Sls} {s:St} {hs:List AV} (h:AnsH B E w g y s hs none 0):AnsM w g y s hs none 0:=⟨h.box,h.m,⟨rfl,.inl rfl⟩⟩
theorem Blk.offd {B' E':Nat} {w w':World} {g:Nat} {arr:Array Value} {t:TypeId} (h:Blk w g arr t) (hm:Mkd B' E' w w') (h1:g<B'∨E'≤g):Blk w' g arr t:=(hm.block g h.lt h1).trans h
structure StB (w:World) (b:Nat) (y:Sls) (s:St):Prop where
 box:Blk w b (svc y s) 34
 row:SRow w y s
 cap:y.ql≤y.qc
theorem StB.below {w w':World} {b:Nat} {y:Sls} {s:St} (h:StB w b y s) (hb:Below w.heap.size w w'):StB w' b y s:=⟨h.box.below hb,h.row.below hb,h.cap⟩
theorem StB.new {B:Nat} {w:World} {y:Sls} {s:St} {hs:List AV} (h:SHas B w y s hs):StB (w.alloc (.cells (svc y s) 34)) w.heap.size y s:=⟨yD _ _ _,h.ans.row.below (yA (Below.refl _ w) _),h.cap.q⟩
theorem StB.read {w:World} {b:Nat} {y:Sls} {s:St} (h:StB w b y s):w.cell? ⟨b,0,none⟩=some (.slice y.qa y.ql y.qc)∧w.cell? ⟨b,1,none⟩=some (.int .i64 s.clock)∧w.cell? ⟨b,2,none⟩=some (.int .i64 s.epoch)∧w.cell? ⟨b,3,none⟩=some (.int .i64 s.next)∧w.cell? ⟨b,4,none⟩=some (.int .i64 s.serial)∧w.cell? ⟨b,5,none⟩=some (.slice y.aa y.al y.ac)∧w.cell? ⟨b,6,none⟩=some (.slice y.ma y.ml y.mc)∧w.cell? ⟨b,7,none⟩=some (.slice y.ca y.cl y.cc):=
 ⟨h.box.at 0,h.box.at 1,h.box.at 2,h.box.at 3,h.box.at 4,h.box.at 5,h.box.at 6,h.box.at 7⟩
end
end Go.Proofs.YtdhibeclkdepiaaGreat
