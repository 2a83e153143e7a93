/-
  The container that would be given next: in plain words.
-/
import Derived.Test.YtdhibeclkdepiaaGreatPackP
set_option maxRecDepth 100000
set_option maxHeartbeats 16000000
set_option linter.unusedVariables false
set_option linter.unusedSimpArgs false
namespace Go.Proofs.YtdhibeclkdepiaaGreat
section
open Go.RowKit
theorem appFrom_at {p:Ask→Bool} {qu:List UInt8}:∀{l:List Appl} {i:Nat} {r:Nat×Nat},appFrom p qu l i=some r→i≤r.1∧∃h:r.1 - i<l.length,r.2<l[r.1 - i].asks.length
 | [],_,_,h=>by cases h
 | a::t,i,r,h=>by
  have go:appFrom p qu t (i+1)=some r→i≤r.1∧∃h:r.1 - i<(a::t).length,r.2<(a::t)[r.1 - i].asks.length:=fun h=>by
   obtain ⟨h1,h2,h3⟩:=appFrom_at h
   have e:r.1 - i=(r.1 - (i+1))+1:=by omega
   refine ⟨by omega,by simp only [List.length_cons];omega,?_⟩
   simp only [e,List.getElem_cons_succ]
   exact h3
  rw [appFrom] at h
  split at h
  ·split at h
   ·rename_i k hk
    cases h
    have:=askFrom_lt hk
    refine ⟨Nat.le_refl _,by simp,?_⟩
    simp only [Nat.sub_self,List.getElem_cons_zero]
    omega
   ·exact go h
  ·exact go h
theorem queFrom_at {s:St} {nd:List UInt8} {r:Nat×Nat}:∀{l:List (List UInt8)},queFrom s nd l=some r→∃h:r.1<s.apps.length,r.2<s.apps[r.1].asks.length
 | [],h=>by cases h
 | q::t,h=>by
  rw [queFrom] at h
  split at h
  ·rename_i r' hr
   cases h
   obtain ⟨_,h2,h3⟩:=appFrom_at hr
   simp only [Nat.sub_zero] at h2 h3
   exact ⟨h2,h3⟩
  ·exact queFrom_at h
theorem pick_at {s:St} {nd:List UInt8} {r:Nat×Nat} (h:pickV s nd=some r):∃h:r.1<s.apps.length,r.2<s.apps[r.1].asks.length:=queFrom_at h
theorem conts_above {apps:List Appl} {ms:List Mac}:∀(cs:List Con) (last:Int),contsS apps ms last cs=true→∀c ∈ cs,last<c.id
 | [],_,_,_,h=>by cases h
 | c::t,last,h,c',hc=>by
  rw [contsS] at h
  simp only [Bool.and_eq_true,decide_eq_true_eq] at h
  rcases List.mem_cons.1 hc with rfl | hc
  ·exact h.1
  ·have:=conts_above t c.id h.2.2.2.2.2 c' hc
   omega
theorem conts_asc {apps:List Appl} {ms:List Mac}:∀(cs:List Con) (last:Int),contsS apps ms last cs=true→AscC cs
 | [],_,_=>fun i j hi=>absurd hi (by simp)
 | c::t,last,h=>by
  rw [contsS] at h
  simp only [Bool.and_eq_true,decide_eq_true_eq] at h
  have h1:=conts_above t c.id h.2.2.2.2.2
  have h2:=conts_asc t c.id h.2.2.2.2.2
  intro i j hi hj hij
  match i,j with
  | _,0=>omega
  | 0,j+1=>
   simp only [List.getElem_cons_zero,List.getElem_cons_succ]
   exact h1 _ (List.getElem_mem _)
  | i+1,j+1=>
   simp only [List.getElem_cons_succ]
   exact h2 i j (by simpa using hi) (by simpa using hj) (by omega)
theorem ok_asc {s:St} (h:stateOkV s=true):AscC s.cs∧(0≤s.epoch∧s.epoch≤1000000000)∧(0≤s.serial∧s.serial≤1000000000):=by
 rw [stateOkV,stateOkS] at h
 simp only [Bool.and_eq_true,inB,decide_eq_true_eq] at h
 exact ⟨conts_asc _ _ h.2.2.2.2.2.2.2.2,by omega,by omega⟩
def grantC (s:St) (nd:List UInt8) (r:Nat×Nat):Con:=
 match s.apps[r.1]? with
 | some a=>(match a.asks[r.2]? with | some k=>⟨idV s,a.id,nd,k.mem,k.cpu⟩ | none=>⟨0,0,[],0,0⟩)
 | none=>⟨0,0,[],0,0⟩
theorem grantC_at {s:St} {nd:List UInt8} {r:Nat×Nat} (h1:r.1<s.apps.length) (h2:r.2<s.apps[r.1].asks.length):grantC s nd r=⟨idV s,s.apps[r.1].id,nd,s.apps[r.1].asks[r.2].mem,s.apps[r.1].asks[r.2].cpu⟩:=by
 rw [grantC,List.getElem?_eq_getElem h1]
 simp only
 rw [List.getElem?_eq_getElem h2]
def mayV (s:St) (nd:List UInt8):Bool:=(findM nd s.ms).isSome&&(decide (s.cs.length<150)&&freeIdV s)
def nextV (s:St) (nd:List UInt8):Option ((Nat×Nat)×Con):=if mayV s nd=true then (pickV s nd).map fun r=>(r,grantC s nd r) else none
def nextGV (s:St) (nd:List UInt8):Option ((Nat×Nat)×Con):=if stateOkV s=true then nextV s nd else none
def conOf:Option ((Nat×Nat)×Con)→Con
 | some r=>r.2
 | none=>⟨0,0,[],0,0⟩
end
end Go.Proofs.YtdhibeclkdepiaaGreat
