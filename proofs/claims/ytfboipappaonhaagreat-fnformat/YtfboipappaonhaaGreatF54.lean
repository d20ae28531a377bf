import Derived.OpenShut
import Derived.ProofKit
import Derived.Lib.SmallJoins
import Derived.ChangeSlices
import Derived.Deep.Slices
import Derived.ShutString
import Derived.ChangeOld
import Derived.Below
import Derived.Test.YtfboipappaonhaaGreatF00
import Derived.Test.YtfboipappaonhaaGreatF53
namespace Go.Proofs.YtfboipappaonhaaGreat
set_option linter.unusedVariables false
set_option maxHeartbeats 16000000
set_option maxRecDepth 100000
open Go.ChangeShapes Go.WideShapes Go.ChangeAt Go.RowKit Go.Joins
theorem ByP.own:ownKnob Tryz.prog.godebug=none:=by kernel_rfl
theorem ByP.laidOut:laidOutB Tryz.prog=true:=by kernel_rfl
theorem ByP.cellsB:Tryz.prog.cellsOf 5=1:=by kernel_rfl
theorem zLd {W:World} {x:Addr} {v:Value} (h:W.cell? (x.add 0)=some v):x=⟨x.block,x.off,none⟩:=by
 obtain ⟨b,off,spot⟩:=x
 have hs:spot=none:=by
  have:=World.cell?_spot h
  simpa [Addr.add] using this
 subst hs
 rfl
theorem zH7 (zs:List Int) (len i:Nat) (hi:i<len) (hz:len<=zs.length):((zs.take len).map fun n=>UInt8.ofNat n.toNat).getD i 0=UInt8.ofNat (zs.getD i 0).toNat:=by
 have h1:i<zs.length:=by omega
 simp [List.getD,hi,h1]
theorem zKp {H:Type} {enc:TypeId×Value->H} {W:World} {held:Bool} {fuel:Nat} {cs:List Value} {x:DataW H×List MemPlace} (h:DataW.trod enc Tryz.prog W 0 (fun _=>true) held fuel 22 cs=some x) :
  ∃ (a:Option Addr) (cap:Nat) (l:List UInt8),cs=[.slice a l.length cap]/\l.length<=maxLen/\l.length<=cap/\zIk W a l:=by
 rcases open_ints Tryz.underlying22 Tryz.underlying5 ByP.cellsB h with ⟨rfl,_⟩ | ⟨a,len,cap,zs,rfl,_,hl,hm,hz,_,hcell,hwz⟩
 ·exact ⟨none,0,[],rfl,Nat.zero_le _,Nat.zero_le _,Or.inl rfl⟩
 simp only [if_true] at hz
 have hll:((zs.take len).map fun n=>UInt8.ofNat n.toNat).length=len:=by simp; omega
 refine ⟨some a,cap,(zs.take len).map fun n=>UInt8.ofNat n.toNat,by rw [hll],by rw [hll]; omega,by rw [hll]; exact hl,?_⟩
 by_cases h0:len=0
 ·exact Or.inl (by rw [hll]; exact h0)
 ·have c0:=hcell 0 (by omega)
  have hs:=zLd c0
  refine Or.inr ⟨a.block,a.off,by rw [<- hs],?_,fun i hi=>?_⟩
  ·have:=block_lt_of_cell c0
   simpa [Addr.add] using this
  ·rw [hll] at hi
   have hc:=hcell i (by omega)
   rw [hs,Addr.add_mid] at hc
   have hb:=range_u8 hwz i
   have e:zs.getD i 0=zs[i]?.getD 0:=rfl
   rw [hc,zH7 zs len i hi (by omega),e]
   obtain ⟨z,hz⟩:∃ z:Int,z=zs[i]?.getD 0:=⟨_,rfl⟩
   rw [<- hz] at hb ⊢
   congr 2
   have:(UInt8.ofNat z.toNat).toNat=z.toNat:=by
    rw [UInt8.toNat_ofNat']
    omega
   rw [this]
   omega
theorem FoP.lifted (os:Os) (started:os.Started) (H:Type) (enc:TypeId×Value->H) :
  ReturnsInHanded {} Tryz.checked os 6 .any (Rows.fnFormatSpec.pre6 enc Tryz.prog Tryz.f6 Rows.fnFormatRow.domain false) (Rows.fnFormatSpec.post enc Tryz.prog Tryz.f6 false true false false):=by
 refine returnsInHanded_of_change (C:=Tryz.checked) ByP.own started (by kernel_rfl) Tryz.func6
  (ChangeSpec.witness6 (enc:=enc) (C:=Tryz.checked) false ⟨#[],#[.slice none 0 0],[]⟩ 8 (by kernel_rfl) (by kernel_rfl) (by kernel_rfl) (by kernel_rfl)) ?_
 intro W base args ds gs before hval0 hW hcnd _
 have hval:∀ (j:Nat) t v,Tryz.f6.params[j]?=some t->args[j]?=some v->Value.okWide Tryz.prog W .any base t v:=hval0
 have hW':=hW
 obtain ⟨p,q,hA0,hV,rfl,hfz,hnd⟩:=hW
 have hA:DataW.TrodAll enc Tryz.prog W 0 (fun _=>true) true Tryz.f6.params.toList args.toList ds p:=hA0
 rw [Tryz.params6] at hA hval
 obtain ⟨v0,vs0,d0,ds0,p0,q0,hargs,rfl,rfl,h0,r0⟩:=trodAll_cons hA
 obtain ⟨rfl,rfl,rfl⟩:=trodAll_nil r0
 obtain rfl:args=#[v0]:=by cases args; simp_all
 obtain ⟨rfl,rfl⟩:=trodVars_none hV
 have k0:=h0
 have lt0:∀ x∈p0,x.block<W.heap.size:=by obtain ⟨m,hm⟩:=k0; exact DataW.trod_lt m _ _ _ hm
 obtain ⟨a,len,cap,rfl⟩:=okWide_slice Tryz.underlying22 (hval 0 22 v0 rfl rfl)
 obtain ⟨a',cap',l,e,h1,h2,h3⟩:∃ (a':Option Addr) (cap':Nat) (l:List UInt8),[Value.slice a len cap]=[.slice a' l.length cap']/\l.length<=maxLen/\l.length<=cap'/\zIk W a' l:=by
  obtain ⟨fuel,hf⟩:=h0
  exact zKp hf
 simp at e
 obtain ⟨rfl,rfl,rfl⟩:=e
 clear hA0 hval0
 refine (zMv a cap l W h1 h2 h3).mono fun e W' ⟨he,bel⟩=>?_
 subst he
 exact ⟨_,rfl,_,_,_,[],_,[],hW',trodAll_mk1 (shut_bool Tryz.underlying4 _),(trodAll_cons_mk (Below.trod ByP.laidOut (by kernel_rfl) (of_decide_eq_true (by kernel_rfl)) k0 bel lt0) trodAll_mk0),rfl,bel.frame _,fun h=>by cases h⟩
theorem formatted_holds:Rows.FnFormatSaid:=
 OpenClaim.holds_of_wide 6 Tryz.f6 rfl rfl rfl rfl rfl rfl rfl ⟨rfl,rfl,rfl,rfl,rfl⟩ rfl rfl rfl rfl rfl (by kernel_rfl) Tryz.func6 (by kernel_rfl)
  (of_decide_eq_true (by kernel_rfl)) (by unfold Func.isWrapper; first | (rw [if_pos (by decide +kernel)]; kernel_rfl) | (rw [if_neg (by decide +kernel)]; exact ⟨rfl,rfl⟩))
  (fun os started H enc _=>FoP.lifted os started H enc)
#print axioms formatted_holds
end Go.Proofs.YtfboipappaonhaaGreat
