import Derived.Test.YtigfgloenjoeoaaGreatDoorLaBN
import Derived.Test.YtigfgloenjoeoaaGreatDoorLaAE
import Derived.Shelf.SlicesE.DeleteFunc
set_option linter.unusedVariables false
set_option linter.unusedSimpArgs false
set_option maxRecDepth 20000
set_option maxHeartbeats 16000000
namespace Go.Proofs.YtigfgloenjoeoaaGreatDoor
open Go.RowKit Go.Shelf Go.Lib Go.Sort
def delRen:Ren:=⟨fun | 6=>87 | 10=>66 | n=>n,fun | 0=>0 | 3=>3 | 4=>4 | 22=>63 | 23=>3 | 25=>91 | n=>n,fun n=>n⟩
theorem delLays:SlLaysH.n10 Tryz.prog delRen :=
 {mixed:=by kernel_rfl
  f6:=⟨"slices.IndexFunc[[]int,int]",by decide,Tryz.func87.trans (congrArg some (by kernel_rfl))⟩
  f10:=⟨"slices.DeleteFunc[[]int,int]",by decide,Tryz.func66.trans (congrArg some (by kernel_rfl))⟩
  t0:=Tryz.underlying0
  a0:=Tryz.isAgg0
  z0:=Tryz.sizeOf0
  v0:=Tryz.zeroValue0
  t3:=Tryz.underlying3
  a3:=Tryz.isAgg3
  z3:=Tryz.sizeOf3
  v3:=Tryz.zeroValue3
  t4:=Tryz.underlying4
  a4:=Tryz.isAgg4
  z4:=Tryz.sizeOf4
  v4:=Tryz.zeroValue4
  t22:=Tryz.underlying63
  a22:=Tryz.isAgg63
  z22:=Tryz.sizeOf63
  v22:=Tryz.zeroValue63
  a23:=Tryz.isAgg3
  z23:=Tryz.sizeOf3
  t25:=Tryz.underlying91
  a25:=Tryz.isAgg91
  z25:=Tryz.sizeOf91
  v25:=Tryz.zeroValue91 }
def blankP (c:Int):Bool:=c==9||c==10||c==13
theorem blank_gives (x:Int) (W:World):FnGives Tryz.prog 67 #[] #[.int .i64 x] (.bool (blankP x)) W:=by
 show Calls Tryz.prog 67 #[.int .i64 x] W _
 unfold blankP
 go_enter Tryz.func67,Tryz.ntmps67
 go_wp2
 all_goals (go_ret;exact ⟨by simp_all,0,rfl⟩)
theorem blank_enters:∀args w,(callFunc 67 args).run Tryz.prog w=.ok (.enter 67 args) w:=enters_of Tryz.func67 (by kernel_rfl) rfl
theorem del_calls (g off cap:Nat) (d:List Int) (w:World) (hg:g < w.heap.size) (hH:∀i (h:i < d.length),w.cell? ⟨g,off+i,none⟩=some (fi d[i])∧w.frozen? ⟨g,off+i,none⟩=false) (hsz:d.length≤cap) (hcap:cap≤maxLen) :
 Calls Tryz.prog 66 #[.slice (some ⟨g,off,none⟩) d.length cap,.func (.func 67) #[] #[]] w fun e w' =>
  (∃v,e=.returned v∧v=.slice (some ⟨g,off,none⟩) (d.filter fun x=>!blankP x).length cap∧Row fi w' v (d.filter fun x=>!blankP x))∧∃q D,w'=putRow (Value.int .i64) (Sort.ahead w q) g off D:=by
 have hH':Holds (Value.int .i64) w g off d.toArray:=fun j hj=>by
  have:=hH j (by simpa using hj)
  refine ⟨this.1.trans ?_,this.2⟩
  simp [getElem!_pos,List.getElem?_eq_getElem (show j < d.length by simpa using hj)]
 have hcon:=AnyE.slices_DeleteFunc delLays (Value.int .i64) (fun _=>rfl) blankP 67 #[] blank_enters 0 Tryz.zeroValue3 g off cap d.toArray w
  (fun W x _=>blank_gives x W) (fun n os dk x _=>blank_gives x _) hH' (by simp;unfold maxLen at hcap;omega) (by simpa using hsz)
 change Calls Tryz.prog 66 _ _ _ at hcon
 have e0:d.toArray.toList=d:=rfl
 have e1:d.toArray.size=d.length:=by simp
 rw [e0,e1] at hcon
 refine hcon.mono ?_
 rintro e w1 ⟨rfl,q,rfl⟩
 have hle:(d.filter fun x=>!blankP x).length≤d.length:=List.length_filter_le _ _
 refine ⟨⟨_,rfl,rfl,_,_,rfl,by omega,hcap,fun _=>⟨g,off,rfl,by rw [size_putRow];exact hg,fun i hi=>?_⟩⟩,q,_,rfl⟩
 have hs:((d.filter fun x=>!blankP x)++List.replicate (d.length-(d.filter fun x=>!blankP x).length) (0:Int)).toArray.size=d.toArray.size:=by simp;omega
 have hHa:Holds (Value.int .i64) (Sort.ahead w q) g off d.toArray:=hH'
 rw [cell?_putRow (Value.int .i64) _ g off d.toArray _ hHa hs i (by rw [hs];simp;omega)]
 rw [getElem!_pos _ i (by rw [hs];simp;omega),List.getElem_toArray,List.getElem_append_left hi]
end Go.Proofs.YtigfgloenjoeoaaGreatDoor
