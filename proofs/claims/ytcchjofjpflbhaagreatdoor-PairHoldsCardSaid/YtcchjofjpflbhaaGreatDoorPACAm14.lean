/- -/
import Derived.Test.YtcchjofjpflbhaaGreatDoorRows
import Derived.WalkKit
import Derived.WalkSpells
import Derived.WalkLawsBesides
import Derived.Laws.BitsAllLaws
import Derived.Lib.Hide
import Derived.Below
import Derived.Laws.OwnMore
import Derived.Deep.Draws
import Derived.Laws.Rows
import Derived.RangeFuncNested
import Derived.Maps.AppendAt
import Derived.Deep.AppendLies
import Derived.Laws.BytesArg
import Derived.ProofKit
import Derived.OpenShut
import Derived.Deep.DeepCutAuto
import Derived.Deep.RegionHeld3
import Derived.BigRegion
import Derived.Deep.QuietTactic
import Derived.BigQuiet
import Derived.Deep.RegionWith
import Derived.Outline
import Derived.Recover
import Derived.Defers
import Derived.Shelf.Abstract
import Derived.Lib.BitFns
import Derived.WalkMore
import Derived.RangeFuncBound
import Derived.RangeFuncCalls
import Derived.RangeFuncLeaves
import Derived.Shelf.RegionOpen
import Derived.OwnWalkIn
import Derived.TacticsInMore
import Derived.LoopNIn
import Derived.LoopIn
import Derived.Lib.Walk
import Derived.Lib.Small
import Derived.Laws.ShiftsVarLaws
import Derived.Lib.SliceRun
import Derived.ArgAppend
import Derived.Laws.IdiomCopy
import Derived.Lib.AppendZeros
import Derived.Deep.RegionLaw
import Derived.Test.YtcchjofjpflbhaaGreatDoorPASAm14
import Derived.Test.YtcchjofjpflbhaaGreatDoorPACA
set_option linter.unusedVariables false
set_option linter.unusedSimpArgs false
set_option maxRecDepth 100000
set_option maxHeartbeats 600000
namespace Go.Proofs.YtcchjofjpflbhaaGreatDoor.C
open Go.RowKit

section
variable {w w':World} {g:Nat} {t:TypeId} {cs:Array Value}
end

section
variable {W W':World} {B B':Nat} {v:Value} {l:List UInt8}
end

section
variable {W W':World} {B B':Nat} {v:Value} {ls:List (List UInt8)}
end

theorem run_app {P:Program} (w:World) (base:Nat) (ty:TypeId) (i:TypeInfo) (ht:P.underlying 64=some (.slice 5)) (hi:P.info? 5=some i) (hz:i.zero=some (.int .u8 0)) (hsize:i.size=1) (hby:i.bytes=1)
 (v:Value) (xs:List UInt8) (hown:OwnB w base v xs) (B:Nat) (sv:Value) (ys:List UInt8) (hb:Bytes B w sv ys) (hlen:xs.length+ys.length≤140737488355328) (hbase:base≤w.heap.size) :
 ∃ v' w',(Builtin.append_ #[64,64] ty #[v,sv]).run P w = .ok v' w'∧OwnB w' base v' (xs ++ ys)∧w.grownBy w' v.ownBlock∧(v'.ownBlock=v.ownBlock∨v'.ownBlock=some w.heap.size):=by
 obtain ⟨A,cap,rfl,_,hA⟩:=hb
 rcases A with _ | ad
 · have hn:ys = []:=by
    rcases Nat.eq_zero_or_pos ys.length with h0 | h0
    · exact List.eq_nil_of_length_eq_zero h0
    · obtain ⟨b,off,h,_⟩:=hA h0
      cases h
   subst hn
   refine ⟨v,w,?_,by simpa using hown,World.grownBy.refl w _,.inl rfl⟩
   rcases hown.2 with ⟨rfl,h0⟩ | ⟨g,cap',cur,rfl,_,_,hnc,_⟩
   · simp [Builtin.append_,run_underlying ht,sizeOf,typeInfo,hi,Builtin.lenOf,Builtin.firstCells]
   · simp [Builtin.append_,run_underlying ht,sizeOf,typeInfo,hi,Builtin.lenOf,Builtin.firstCells,hnc,storeCells]
 · have hcells:∀ j u,(ys.map enc)[j]?=some u→w.cell? (ad.add j)=some u:=by
    intro j u hu
    have hj:j<ys.length:=by simpa using (List.getElem?_eq_some_iff.1 hu).1
    obtain ⟨b,off,h,_,hc⟩:=hA (by omega)
    injection h with h
    subst h
    rw [addr_add,hc j hj]
    rw [List.getElem?_map,List.getElem?_eq_getElem hj] at hu
    rw [List.getElem?_eq_getElem hj]
    exact hu
   obtain ⟨v',w',hrun,h2,h3,_,h5⟩:=run_append_own_at (P:=P) w base 64 ty 5 i (.int .u8 0) 1 1 ht hi hz hsize hby rfl (by omega) v xs.length (xs.map enc) hown ad ys.length cap (ys.map enc) (by simp) hcells
    (by intro u hu;obtain ⟨c,_,rfl⟩:=List.mem_map.1 hu;rfl) (by unfold maxLen;omega) (by omega) hbase
   exact ⟨v',w',hrun,by unfold OwnB;simpa using h2,h3,h5⟩

theorem wp_app {P:Program} (w:World) {o:Oper} {a:Act} {K:Act→World→Prop} {Q:Exit→Act→World→Prop} (s x:Operand)
 (ho:o.op = .call { callee:=.builtin .append,args:=#[s,x],argTypes:=#[64,64] })
 (base:Nat) (i:TypeInfo) (ht:P.underlying 64=some (.slice 5)) (hi:P.info? 5=some i) (hz:i.zero=some (.int .u8 0)) (hsize:i.size=1) (hby:i.bytes=1)
 (v:Value) (xs:List UInt8) (hs:a.eval s=v) (hown:OwnB w base v xs) (B:Nat) (sv:Value) (ys:List UInt8) (hx:a.eval x=sv) (hb:Bytes B w sv ys) (hlen:xs.length+ys.length≤140737488355328) (hbase:base≤w.heap.size)
 (h:∀ v' w',OwnB w' base v' (xs ++ ys)→w.grownBy w' v.ownBlock→(v'.ownBlock=v.ownBlock∨v'.ownBlock=some w.heap.size)→K (a.put o.dst v') w'):o.wp P a w K Q:=by
 obtain ⟨v',w',hrun,h2,h3,h4⟩:=run_app (P:=P) w base o.type i ht hi hz hsize hby v xs hown B sv ys hb hlen hbase
 unfold Oper.wp execOp
 simp only [ho,resolve,invoke,builtin,Sem.run_bind,Sem.run_pure,Result.andThen_ok,List.map_toArray,List.map_cons,List.map_nil,hs,hx,hrun]
 exact h v' w' h2 h3 h4

theorem step_app {P:Program} (w:World) {ops:Array Oper} {o:Oper} {a:Act} {K:Act→World→Prop} {Q:Exit→Act→World→Prop} {E:Prop} (hgd:o.guard=none) (s x:Operand)
 (ho:o.op = .call { callee:=.builtin .append,args:=#[s,x],argTypes:=#[64,64] })
 (base:Nat) (i:TypeInfo) (ht:P.underlying 64=some (.slice 5)) (hi:P.info? 5=some i) (hz:i.zero=some (.int .u8 0)) (hsize:i.size=1) (hby:i.bytes=1)
 (v:Value) (xs:List UInt8) (hs:a.eval s=v) (hown:OwnB w base v xs) (B:Nat) (sv:Value) (ys:List UInt8) (hx:a.eval x=sv) (hb:Bytes B w sv ys) (hlen:xs.length+ys.length≤140737488355328) (hbase:base≤w.heap.size)
 (h:∀ v' w',OwnB w' base v' (xs ++ ys)→w.grownBy w' v.ownBlock→(v'.ownBlock=v.ownBlock∨v'.ownBlock=some w.heap.size)→K (a.put o.dst v') w') :
 if Region.wanted o (yielded ops a.tmps)=true then Oper.wp P o a w K Q else E:=by
 have hw:Region.wanted o (yielded ops a.tmps)=true:=by simp [Region.wanted,hgd]
 rw [if_pos hw]
 exact wp_app w s x ho base i ht hi hz hsize hby v xs hs hown B sv ys hx hb hlen hbase h

def IsRow (k:IntKind) (w:World) (a:Option Addr) (len cap:Nat) (zs:List Int):Prop :=
 (a=none∧len=0∧cap=0∧zs = []) ∨
 ∃ x,a=some x∧len≤cap∧cap≤maxLen∧zs.length=cap∧(∀ i,i<zs.length→w.cell? (x.add i)=some (.int k (zs.getD i 0)))∧∀ n∈zs,(Lit.int k n).wf=true

theorem wf_u8 {n:Int} (h:(Lit.int .u8 n).wf=true):0≤n∧n<256:=by
 have:=bounds_u8 h
 omega
theorem row_bytes {w:World} {a:Option Addr} {len cap:Nat} {zs:List Int} (h:IsRow .u8 w a len cap zs):∃ l:List UInt8,l.length=len∧Bytes w.heap.size w (.slice a len cap) l:=by
 rcases h with ⟨rfl,rfl,rfl,rfl⟩ | ⟨x,rfl,hl,_,hz,hcell,hwz⟩
 · exact ⟨[],rfl,Bytes.nil_ _ _ _ _⟩
 · have hlen:((zs.take len).map fun z=>UInt8.ofNat z.toNat).length=len:=by rw [List.length_map,List.length_take];omega
   refine ⟨(zs.take len).map fun z=>UInt8.ofNat z.toNat,hlen,?_⟩
   unfold Bytes
   rw [hlen]
   refine ⟨some x,cap,rfl,hl,fun hp=>?_⟩
   obtain ⟨b,off,spot⟩:=x
   have hc:=hcell 0 (by omega)
   have hspot:spot=none:=by simpa [Addr.add] using World.cell?_spot hc
   subst hspot
   refine ⟨b,off,rfl,?_,fun j hj=>?_⟩
   · have:=block_lt_of_cell hc
     simpa [Addr.add] using this
   · have hj':j<zs.length:=by omega
     rw [←addr_add,hcell j hj']
     have hw:=wf_u8 (hwz _ (List.getElem_mem hj'))
     have e:((zs.take len).map fun z=>UInt8.ofNat z.toNat)[j]?.getD 0=UInt8.ofNat zs[j].toNat:=by
      rw [List.getElem?_map,List.getElem?_take_of_lt hj,List.getElem?_eq_getElem hj'];rfl
     rw [e,List.getD_eq_getElem?_getD,List.getElem?_eq_getElem hj']
     have:((UInt8.ofNat zs[j].toNat).toNat:Int)=zs[j]:=by
      have e2:(UInt8.ofNat zs[j].toNat).toNat=zs[j].toNat % 256:=by simp
      omega
     rw [this];rfl
end Go.Proofs.YtcchjofjpflbhaaGreatDoor.C

namespace Go.Proofs.YtcchjofjpflbhaaGreatDoor.C

def came (l:List UInt8) (k i:Nat):List Nat:=((List.range k).flatMap fun j=>bitsTo j (at_ l j) 8) ++ bitsTo k (at_ l k) i
end Go.Proofs.YtcchjofjpflbhaaGreatDoor.C

namespace Go.Proofs.YtcchjofjpflbhaaGreatDoor.C
open Go.RowKit Go.Shelf

theorem own_nil (w:World) (base:Nat):OwnB w base (.slice none 0 0) []:=World.ownsRow_nil w base _ 1

end Go.Proofs.YtcchjofjpflbhaaGreatDoor.C

namespace Go.Proofs.YtcchjofjpflbhaaGreatDoor.C
open Go.RowKit Go.Shelf

theorem OwnB.grown_ {w w':World} {base:Nat} {v:Value} {l:List UInt8} (h:OwnB w base v l) (hg:w.grownBy w' none):OwnB w' base v l :=
 World.ownsRow.kept h hg (by cases hv:v.ownBlock <;> simp)
theorem grown_drew {a w:World} {row:Option Nat} (h:a.grownBy w row):a.grownBy w.drew row:=⟨h.os,h.tape,h.output,h.size,h.block⟩
theorem one_bytes (w:World) (c:UInt8):Bytes (w.heap.size+1) (w.alloc (.cells #[.int .u8 (c.toNat:Int)] 5)) (.slice (some ⟨w.heap.size,0,none⟩) 1 1) [c]:=by
 refine ⟨_,1,rfl,Nat.le_refl _,fun _=>⟨w.heap.size,0,rfl,by omega,fun j hj=>?_⟩⟩
 obtain rfl:j=0:=by simpa using hj
 exact (Blk.new w _ _).one

theorem xorB_take (a b:List UInt8) (k:Nat) (hk:k<a.length):(xorB a b).take (k+1)=(xorB a b).take k ++ [at_ a k ^^^ at_ b k]:=by
 rw [List.take_succ_eq_append_getElem (by rw [xorB_len];exact hk)]
 have:=xorB_at a b k hk
 unfold at_ at this ⊢
 rw [List.getElem?_eq_getElem (by rw [xorB_len];exact hk)] at this
 rw [←this];rfl

theorem rput_any (v1 v2:Value) (a b:List UInt8) (w:World) (h1:Bytes w.heap.size w v1 a) (h2:Bytes w.heap.size w v2 b) (hl:a.length≤b.length) (hlen:a.length≤1000000) :
 Calls Tryz.prog 81 #[v1,v2] w fun e w'=>∃ v',e = .returned v'∧OwnB w' w.heap.size v' (xorB a b)∧Below w.heap.size w w':=by
 obtain ⟨i0,hi,hz0,hz1,hz2⟩:=info_parts Tryz.infoByte
 obtain ⟨A1,cap1,rfl,_,hA1⟩:=h1
 obtain ⟨A2,cap2,rfl,_,hA2⟩:=h2
 go_enter Tryz.func81,Tryz.ntmps81
 go_wp2
 go_loopw [5,6] (fun v i wr=>∃ k:Nat,k≤a.length∧i = .int .i64 k∧OwnB wr w.heap.size v ((xorB a b).take k)∧Below w.heap.size w wr) (fun _ i _=>a.length - (intOf i).toNat)
 case atStart=>exact ⟨0,Nat.zero_le _,rfl,own_nil _ _,Below.refl _ _⟩
 case round =>
  obtain ⟨k,hk,rfl,hown,hB⟩:=hrel
  by_cases hlt:k<a.length
  · have hdec:decide ((k:Int)<(a.length:Int))=true:=by simp;omega
    have hk2:(k:Int)<(b.length:Int):=by omega
    obtain ⟨b1,o1,rfl,hb1,hcell1⟩:=hA1 (by omega)
    obtain ⟨b2,o2,rfl,hb2,hcell2⟩:=hA2 (by omega)
    have hc1:wr.cell? ⟨b1,o1+k,none⟩=some (.int .u8 ((at_ a k).toNat:Int)):=(hB.cell (p:=⟨b1,o1+k,none⟩) hb1).trans (hcell1 k hlt)
    have hc2:wr.cell? ⟨b2,o2+k,none⟩=some (.int .u8 ((at_ b k).toNat:Int)):=(hB.cell (p:=⟨b2,o2+k,none⟩) hb2).trans (hcell2 k (by omega))
    have HN:=Lib.hid (xorB_take a b k hlt)
    have hx:=bits_u8 (at_ a k) (at_ b k)
    have hpl:((xorB a b).take k).length≤1000000:=by rw [List.length_take];omega
    have hs:=hB.size
    clear hcell1 hcell2 hA1 hA2
    generalize at_ a k=x at *
    generalize at_ b k=y at *
    generalize (xorB a b).take k=p at *
    have HO:=Lib.hid (hown.grown_ ((grown_drew (World.grownBy.refl wr none)).trans (World.grownBy_alloc wr.drew (.cells #[.int .u8 ((x ^^^ y).toNat:Int)] 5) none)))
    have HY:=Lib.hid (one_bytes wr.drew (x ^^^ y))
    have hbl1:b1<wr.heap.size:=by omega
    have hbl2:b2<wr.heap.size:=by omega
    go_wp2
    go_region_law (refine step_app _ rfl (.tmp 13) (.tmp 23) rfl w.heap.size i0 Tryz.underlying64 hi hz0 hz1 hz2 _ p rfl HO.out (wr.drew.heap.size+1) _ [x ^^^ y] rfl HY.out (by simp;omega) (by simp;omega) ?_;intro v2 w2 hown2 hgrow2 _)
    all_goals go_wp2
    all_goals go_roundw
    all_goals (first
     | exact ⟨k+1,by omega,by go_num,by rw [HN.out];exact hown2,below_grown (hB.drew.alloc hB.size _) hgrow2 (by simp;omega) (fun g e=>(World.ownsRow.lt hown g e).1)⟩
     | (simp [intOf];omega))
  · obtain rfl:k=a.length:=by omega
    have e1:decide ((a.length:Int)<(a.length:Int))=false:=by simp
    rw [List.take_of_length_le (by rw [xorB_len];exact Nat.le_refl _)] at hown
    go_wp2
    go_ret
    exact ⟨_,rfl,hown,hB⟩

theorem Fresh.grown_ {base:Nat} {W W':World} {v:Value} {l:List UInt8} (h:Fresh base W v l) (hg:W.grownBy W' none):Fresh base W' v l :=
 h.keep hg.size fun p _ hp=>World.cell?_of_block (hg.block p.block hp (by simp))

end Go.Proofs.YtcchjofjpflbhaaGreatDoor.C
