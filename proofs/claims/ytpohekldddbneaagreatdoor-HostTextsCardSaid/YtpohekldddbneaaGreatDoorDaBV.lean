import Derived.Test.YtpohekldddbneaaGreatDoorDaBT
set_option linter.unusedVariables false
set_option linter.unusedSimpArgs false
set_option maxRecDepth 20000
set_option maxHeartbeats 16000000
namespace Go.Proofs.YtpohekldddbneaaGreatDoor
open Go.ChangeShapes Go.WideShapes Go.ChangeAt Go.RowKit
def laidRow:List (String×DataW Unit):=[("springhouse/pct.words",Rows.laid_springhouse_pct_words),("unicode/utf8.acceptRanges",Rows.laid_unicode_utf8_acceptRanges),("unicode/utf8.first",Rows.laid_unicode_utf8_first)]
theorem tabThere {W:World} (h:laidMetH Tryz.prog laidRow W) (hs:W.ShapedOpen Tryz.prog):TabR W:=by
 have h':laidMet Tryz.prog laidRow W:=h
 obtain ⟨ps,hv,_⟩:=h'
 obtain ⟨g',t',cs,fuel,p,q,hg',ht',hvar,hd,_,_⟩:=hv
 obtain rfl:=Option.some.inj (gTab.symm.trans hg')
 obtain rfl:=Option.some.inj (gTabType.symm.trans ht')
 exact ⟨maxThere hs,pc_of hvar hd⟩
def laidOn (w:World):World :=
 putCells (putCells (putCells w 5 firstCells8) 6 rangeCells8) 0 tabCellsPc
end Go.Proofs.YtpohekldddbneaaGreatDoor
