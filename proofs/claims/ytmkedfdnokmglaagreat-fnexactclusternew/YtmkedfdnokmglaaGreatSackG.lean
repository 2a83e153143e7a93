/-
  An amount that is something, an ask that is right: by the program and by the model; walks over the dump.
-/
import Derived.Test.YtmkedfdnokmglaaGreatSackC
set_option maxRecDepth 100000
set_option maxHeartbeats 16000000
set_option linter.unusedVariables false
set_option linter.unusedSimpArgs false
namespace Go.Proofs.YtmkedfdnokmglaaGreat
section
open Go.RowKit
def someR (a b:Int):Bool:=resOk a b&&!(decide (a=0)&&decide (b=0))
theorem something_any (a b:Int) (w:World) :
  Calls Tryz.prog 164 #[rv a b] w fun e w'=>e=.returned (.bool (someR a b))∧Below w.heap.size w w':=by
 have HB0:=hide (yA (yH _ w) (.cells #[.int .i64 a,.int .i64 b] 69))
 have P0:=hide (yD w #[.int .i64 a,.int .i64 b] 69)
 obtain ⟨r,hr⟩:∃r,resOk a b=r:=⟨_,rfl⟩
 have C:=hide (fun wx=>by have:=ok_bel a b wx;rw [hr] at this;exact this)
 have HS:=hide (show someR a b=(r&&!(decide (a=0)&&decide (b=0))) by rw [someR,hr])
 obtain ⟨o,ho⟩:∃o,someR a b=o:=⟨_,rfl⟩
 rw [ho] at HS ⊢
 clear hr ho
 go_enter Tryz.func164,Tryz.ntmps164
 go_wp2_with fail
 refine (uH C _).mono ?_
 rintro e w1 ⟨rfl,hb⟩
 have HB1:=hide (yB (uH HB0) hb)
 have P1:=(uH P0).below hb
 have p0:=P1.at 0
 have p1:=P1.at 1
 simp at p0 p1
 clear hb P1 P0 HB0 C
 cases r with
 | false=>
  go_wp2
  go_ret
  exact ⟨yF (by rw [uH HS];simp),uH HB1⟩
 | true=>
  by_cases ha:a=0
  ·by_cases hbz:b=0
   ·subst ha hbz
    go_wp2
    go_ret
    exact ⟨yF (by rw [uH HS];simp),uH HB1⟩
   ·subst ha
    go_wp2
    go_ret
    exact ⟨yF (by rw [uH HS];simp [hbz]),uH HB1⟩
  ·go_wp2
   go_ret
   exact ⟨yF (by rw [uH HS];simp [ha]),uH HB1⟩
theorem specOk_bel (a b:Int) (w:World) :
  Calls Tryz.prog 41 #[rv a b] w fun e w'=>e=.returned (.bool (resOk a b))∧Below w.heap.size w w':=
 (specResOk_any a b w).mono fun e w' h=>⟨h.1,by rw [h.2];exact yA (yH _ _) _⟩
theorem l04Some_any (a b:Int) (w:World) :
  Calls Tryz.prog 135 #[rv a b] w fun e w'=>e=.returned (.bool (someR a b))∧Below w.heap.size w w':=by
 have HB0:=hide (yA (yH _ w) (.cells #[.int .i64 a,.int .i64 b] 69))
 have P0:=hide (yD w #[.int .i64 a,.int .i64 b] 69)
 obtain ⟨r,hr⟩:∃r,resOk a b=r:=⟨_,rfl⟩
 have C:=hide (fun wx=>by have:=specOk_bel a b wx;rw [hr] at this;exact this)
 have HS:=hide (show someR a b=(r&&!(decide (a=0)&&decide (b=0))) by rw [someR,hr])
 obtain ⟨o,ho⟩:∃o,someR a b=o:=⟨_,rfl⟩
 rw [ho] at HS ⊢
 clear hr ho
 go_enter Tryz.func135,Tryz.ntmps135
 go_wp2_with fail
 refine (uH C _).mono ?_
 rintro e w1 ⟨rfl,hb⟩
 have HB1:=hide (yB (uH HB0) hb)
 have P1:=(uH P0).below hb
 have p0:=P1.at 0
 have p1:=P1.at 1
 simp at p0 p1
 clear hb P1 P0 HB0 C
 cases r with
 | false=>
  go_wp2
  go_ret
  exact ⟨yF (by rw [uH HS];simp),uH HB1⟩
 | true=>
  by_cases ha:a=0
  ·by_cases hbz:b=0
   ·subst ha hbz
    go_wp2
    go_ret
    exact ⟨yF (by rw [uH HS];simp),uH HB1⟩
   ·subst ha
    go_wp2
    go_ret
    exact ⟨yF (by rw [uH HS];simp [hbz]),uH HB1⟩
  ·go_wp2
   go_ret
   exact ⟨yF (by rw [uH HS];simp [ha]),uH HB1⟩
def askOk (q:Ask):Bool:=someR q.mem q.cpu&&(inB q.count 1 1000&&((decide (q.node=[])||nameOk q.node)&&inB q.missed 0 1000))
theorem askOk_any (q:Ask) (w:World) (hn:q.node.length≤1048576) :
  Calls Tryz.prog 177 #[askv q] w fun e w'=>e=.returned (.bool (askOk q))∧Below w.heap.size w w':=by
 obtain ⟨x0,x1,ct,nd,ms⟩:=q
 simp only at hn
 have HB0:=hide (yA (yH _ w) (.cells #[.int .i64 x0,.int .i64 x1,.int .i64 ct,.string (bs nd),.int .i64 ms] 198))
 have P0:=hide (yD w #[.int .i64 x0,.int .i64 x1,.int .i64 ct,.string (bs nd),.int .i64 ms] 198)
 obtain ⟨sm,hsm⟩:∃r,someR x0 x1=r:=⟨_,rfl⟩
 obtain ⟨nk,hnk⟩:∃r,nameOk nd=r:=⟨_,rfl⟩
 have C:=hide (fun wx=>by have:=something_any x0 x1 wx;rw [hsm] at this;exact this)
 have CN:=hide (fun wx=>by have:=implNameOk_any (bs nd) wx (by rw [bs_size];exact hn);rw [show nameOk (bs nd).data.toList=nk by rw [←hnk];simp [bs]] at this;exact this)
 have HS:=hide (show askOk ⟨x0,x1,ct,nd,ms⟩=(sm&&(inB ct 1 1000&&((decide (nd=[])||nk)&&inB ms 0 1000))) by rw [askOk];simp only [hsm,hnk])
 obtain ⟨o,ho⟩:∃o,askOk ⟨x0,x1,ct,nd,ms⟩=o:=⟨_,rfl⟩
 have hbz:=bs_empty nd
 rw [ho] at HS ⊢
 clear hsm hnk ho hn
 go_enter Tryz.func177,Tryz.ntmps177
 go_wp2_with fail
 refine (uH C _).mono ?_
 rintro e w1 ⟨rfl,hb⟩
 have HB1:=hide (yB (uH HB0) hb)
 have P1:=(uH P0).below hb
 have p2:=P1.at 2
 have p3:=P1.at 3
 have p4:=P1.at 4
 simp at p2 p3 p4
 clear hb P1 P0 HB0 C
 cases sm with
 | false=>
  go_wp2
  go_ret
  exact ⟨yF (by rw [uH HS];simp),uH HB1⟩
 | true=>
 by_cases h1:1≤ct
 case neg=>
  go_wp2
  go_ret
  exact ⟨yF (by rw [uH HS,inB_false (by omega)];simp),uH HB1⟩
 by_cases h2:ct≤1000
 case neg=>
  go_wp2
  go_ret
  exact ⟨yF (by rw [uH HS,inB_false (by omega)];simp),uH HB1⟩
 by_cases hz:nd=[]
 ·rw [decide_eq_true hz] at hbz HS
  clear hz
  by_cases m1:0≤ms
  case neg=>
   go_wp2
   go_ret
   exact ⟨yF (by rw [uH HS,inB_true h1 h2,inB_false (by omega)];simp),uH HB1⟩
  by_cases m2:ms≤1000
  case neg=>
   go_wp2
   go_ret
   exact ⟨yF (by rw [uH HS,inB_true h1 h2,inB_false (x:=ms) (by omega)];simp;omega),uH HB1⟩
  go_wp2
  go_ret
  exact ⟨yF (by rw [uH HS,inB_true h1 h2,inB_true m1 m2];simp),uH HB1⟩
 ·rw [decide_eq_false hz] at hbz HS
  clear hz
  go_wp2_with fail
  refine (uH CN _).mono ?_
  rintro e w2 ⟨rfl,rfl⟩
  clear CN
  cases nk with
  | false=>
   go_wp2
   go_ret
   exact ⟨yF (by rw [uH HS];simp),uH HB1⟩
  | true=>
  by_cases m1:0≤ms
  case neg=>
   go_wp2
   go_ret
   exact ⟨yF (by rw [uH HS,inB_true h1 h2,inB_false (by omega)];simp),uH HB1⟩
  by_cases m2:ms≤1000
  case neg=>
   go_wp2
   go_ret
   exact ⟨yF (by rw [uH HS,inB_true h1 h2,inB_false (by omega)];simp;omega),uH HB1⟩
  go_wp2
  go_ret
  exact ⟨yF (by rw [uH HS,inB_true h1 h2,inB_true m1 m2];simp),uH HB1⟩
theorem l04Ask_any (q:Ask) (w:World) (hn:q.node.length≤1048576) :
  Calls Tryz.prog 150 #[askv q] w fun e w'=>e=.returned (.bool (askOk q))∧Below w.heap.size w w':=by
 obtain ⟨x0,x1,ct,nd,ms⟩:=q
 simp only at hn
 have HB0:=hide (yA (yH _ w) (.cells #[.int .i64 x0,.int .i64 x1,.int .i64 ct,.string (bs nd),.int .i64 ms] 198))
 have P0:=hide (yD w #[.int .i64 x0,.int .i64 x1,.int .i64 ct,.string (bs nd),.int .i64 ms] 198)
 obtain ⟨sm,hsm⟩:∃r,someR x0 x1=r:=⟨_,rfl⟩
 obtain ⟨nk,hnk⟩:∃r,nameOk nd=r:=⟨_,rfl⟩
 obtain ⟨ic,hic⟩:∃r,inB ct 1 1000=r:=⟨_,rfl⟩
 obtain ⟨im,him⟩:∃r,inB ms 0 1000=r:=⟨_,rfl⟩
 have C:=hide (fun wx=>by have:=l04Some_any x0 x1 wx;rw [hsm] at this;exact this)
 have CN:=hide (fun wx=>by have:=specNameOk_any (bs nd) wx (by rw [bs_size];exact hn);rw [show nameOk (bs nd).data.toList=nk by rw [←hnk];simp [bs]] at this;exact this)
 have CC:=hide (fun wx=>by have:=l01In_any ct 1 1000 wx;rw [hic] at this;exact this)
 have CD:=hide (fun wx=>by have:=l01In_any ms 0 1000 wx;rw [him] at this;exact this)
 have HS:=hide (show askOk ⟨x0,x1,ct,nd,ms⟩=(sm&&(ic&&((decide (nd=[])||nk)&&im))) by rw [askOk];simp only [hsm,hnk,hic,him])
 obtain ⟨o,ho⟩:∃o,askOk ⟨x0,x1,ct,nd,ms⟩=o:=⟨_,rfl⟩
 have hbz:=bs_empty nd
 rw [ho] at HS ⊢
 clear hsm hnk ho hn hic him
 go_enter Tryz.func150,Tryz.ntmps150
 go_wp2_with fail
 refine (uH C _).mono ?_
 rintro e w1 ⟨rfl,hb⟩
 have HB1:=hide (yB (uH HB0) hb)
 have P1:=(uH P0).below hb
 have p2:=P1.at 2
 have p3:=P1.at 3
 have p4:=P1.at 4
 simp at p2 p3 p4
 clear hb P1 P0 HB0 C
 cases sm with
 | false=>
  go_wp2
  go_ret
  exact ⟨yF (by rw [uH HS];simp),uH HB1⟩
 | true=>
 go_wp2_with fail
 refine (uH CC _).mono ?_
 rintro e w2 ⟨rfl,rfl⟩
 clear CC
 cases ic with
 | false=>
  go_wp2
  go_ret
  exact ⟨yF (by rw [uH HS];simp),uH HB1⟩
 | true=>
 by_cases hz:nd=[]
 ·rw [decide_eq_true hz] at hbz HS
  clear hz CN
  go_wp2_with fail
  refine (uH CD _).mono ?_
  rintro e w3 ⟨rfl,rfl⟩
  clear CD
  go_wp2
  go_ret
  exact ⟨yF (by rw [uH HS];simp),uH HB1⟩
 ·rw [decide_eq_false hz] at hbz HS
  clear hz
  go_wp2_with fail
  refine (uH CN _).mono ?_
  rintro e w3 ⟨rfl,rfl⟩
  clear CN
  cases nk with
  | false=>
   go_wp2
   go_ret
   exact ⟨yF (by rw [uH HS];simp),uH HB1⟩
  | true=>
  go_wp2_with fail
  refine (uH CD _).mono ?_
  rintro e w4 ⟨rfl,rfl⟩
  clear CD
  go_wp2
  go_ret
  exact ⟨yF (by rw [uH HS];simp),uH HB1⟩
end
end Go.Proofs.YtmkedfdnokmglaaGreat
