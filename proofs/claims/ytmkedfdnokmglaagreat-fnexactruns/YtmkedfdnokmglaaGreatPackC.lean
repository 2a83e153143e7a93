/-
  Rows of cells that may be written, of each kind.
-/
import Derived.Test.YtmkedfdnokmglaaGreatPackB
set_option maxRecDepth 100000
set_option maxHeartbeats 16000000
set_option linter.unusedVariables false
set_option linter.unusedSimpArgs false
namespace Go.Proofs.YtmkedfdnokmglaaGreat
section
open Go.RowKit
theorem QBlk.cel {w:World} {t:TypeId} {g n k:Nat} {l:List Q} (h:QBlk w t g n k l):Cel w t g (n*4):=let ⟨arr,h1,h2,_⟩:=h;⟨arr,h1,h2⟩
theorem AskBlk.cel {w:World} {t:TypeId} {g n k:Nat} {l:List Ask} (h:AskBlk w t g n k l):Cel w t g (n*5):=let ⟨arr,h1,h2,_⟩:=h;⟨arr,h1,h2⟩
theorem MacBlk.cel {w:World} {t:TypeId} {g n k:Nat} {l:List Mac} (h:MacBlk w t g n k l):Cel w t g (n*4):=let ⟨arr,h1,h2,_⟩:=h;⟨arr,h1,h2⟩
theorem ConBlk.cel {w:World} {t:TypeId} {g n k:Nat} {l:List Con} (h:ConBlk w t g n k l):Cel w t g (n*5):=let ⟨arr,h1,h2,_⟩:=h;⟨arr,h1,h2⟩
theorem ApplBlk.cel {w:World} {t:TypeId} {g n k:Nat} {l:List Appl} (h:ApplBlk w t g n k l):Cel w t g (n*3):=let ⟨arr,h1,h2,_⟩:=h;⟨arr,h1,h2⟩
end
end Go.Proofs.YtmkedfdnokmglaaGreat
