import Derived.Deep.RegionHeldLaw
import Derived.Test.YtfboipappaonhaaGreatF08
import Derived.Test.YtfboipappaonhaaGreatF14
import Derived.Test.YtfboipappaonhaaGreatF15
import Derived.Test.YtfboipappaonhaaGreatF30
import Derived.Test.YtfboipappaonhaaGreatF34
namespace Go.Proofs.YtfboipappaonhaaGreat
set_option linter.unusedSimpArgs false
set_option linter.unusedVariables false
set_option maxHeartbeats 16000000
set_option maxRecDepth 100000
open Go.RowKit
theorem zJg {H:List Int} {k:Nat} (h:k<H.length):H.take (k+1)=H.take k++[atI H k]:=by
 rw [List.take_add_one]
 simp [atI,List.getD,h]
theorem zKh {H:List Int} {i k:Nat} (h:i<k):atI (H.take k) i=atI H i:=by
 simp [atI,List.getD,List.getElem?_take,h]
theorem zJh (bn cn:Nat) (ns:List zD) (H:List Int) (w:World) (hw:Zu w bn 0 ns) (hB:bn<w.heap.size) (hl:ns.length<=100000) (h1:1<=ns.length) (hH:H.length=ns.length) (hat:∀ i,i<ns.length->zOO (atN ns i) H 0 i) (hbd:∀ i,i<ns.length->0<=atI H i/\atI H i<=100000) :
  Calls Tryz.prog 35 #[.agg #[.slice (some ⟨bn,0,none⟩) ns.length cn]] w fun e w'=>e = .returned (.int .i64 (atI H (ns.length-1)))/\Below w.heap.size w w':=by
 obtain ⟨i0,hi0,hz0,hz1,hz2⟩:=info_parts zJc
 have HI0:=zB hi0
 have HZ0:=zB (And.intro hz0 (And.intro hz1 hz2))
 have HW:=zB hw
 have HAT:=zB hat
 have HBD:=zB hbd
 have HLN:=zB hH
 clear hi0 hz0 hz1 hz2 hw hat hbd hH
 have HO:=zB (show ((w.alloc (.cells #[.slice (some ⟨bn,0,none⟩) ns.length cn] 28)).alloc (.cells #[] 3)).ownsRow (w.heap.size+1) 3 1 (.slice (some ⟨w.heap.size+1,0,none⟩) 0 0) 0 (za []) by
  have h0:=World.ownsRow_lit (base:=w.heap.size+1) (e:=3) (size:=1) (w.alloc (.cells #[.slice (some ⟨bn,0,none⟩) ns.length cn] 28)) #[] 0 (by simp) (Nat.zero_le _) rfl
  simpa [za] using h0)
 have hb0:Below (w.heap.size+1) (w.alloc (.cells #[.slice (some ⟨bn,0,none⟩) ns.length cn] 28)) ((w.alloc (.cells #[.slice (some ⟨bn,0,none⟩) ns.length cn] 28)).alloc (.cells #[] 3)):=(zC _ _).mono (by simp)
 go_enter Tryz.func35,Tryz.ntmps35
 go_wp2_with fail
 go_loopw [3,4] (fun hv iv wr=>∃ (k go co:Nat),k<=ns.length/\iv = .int .i64 (k:Int)/\hv = .slice (some ⟨go,0,none⟩) k co/\Hid (wr.ownsRow (w.heap.size+1) 3 1 (.slice (some ⟨go,0,none⟩) k co) k (za (H.take k)))/\Hid (Below (w.heap.size+1) (w.alloc (.cells #[.slice (some ⟨bn,0,none⟩) ns.length cn] 28)) wr)/\w.heap.size+1<wr.heap.size) (fun _ iv _=>ns.length-(intOf iv).toNat)
 case atStart=>exact ⟨0,w.heap.size+1,0,Nat.zero_le _,rfl,rfl,HO,zB hb0,by simp⟩
 case round=>
  clear HO hb0
  obtain ⟨k,go,co,hk,rfl,rfl,hown,hbel,hz⟩:=hrel
  have tc:wr.cell? ⟨w.heap.size,0,none⟩=some (.slice (some ⟨bn,0,none⟩) ns.length cn):=by
   rw [(zA hbel).cell (p:=⟨w.heap.size,0,none⟩) (show w.heap.size<_ by omega)]; simp [go_sem]
  have hbw:Below w.heap.size w wr:=(zC _ _).trans ((zA hbel).mono (by omega))
  have HFI:=zB (show zFN wr go (H.take k) (H.take k).length by
   have hlk:(H.take k).length=k:=by rw [List.length_take,zA HLN]; omega
   have ho:=zA hown
   refine (zDi (base:=w.heap.size+1) (cap:=co) (e:=3) ?_).2
   rw [hlk]; exact ho)
  have hlk:(H.take k).length=k:=by rw [List.length_take,zA HLN]; omega
  have HLK:=zB hlk
  have hgo:=(zA hown).lt go rfl
  have HGO:=zB hgo
  by_cases hlt:k<ns.length
  ·have hltI:(k:Int)<(ns.length:Int):=by omega
   obtain ⟨a0,a1,a2,a3⟩:=((zA HW) k hlt).below hbw hB
   rw [Nat.zero_add] at a0 a1 a2 a3
   have hb1:=(zA HBD) k hlt
   have hbn:bn<wr.heap.size:=by have:=hbw.size; omega
   have HTK:=zB (zJg (H:=H) (k:=k) (by rw [zA HLN]; exact hlt))
   have HCL:=zB (show ∀ i,i<k->wr.cell? ⟨go,i,none⟩=some (.int .i64 (atI H i)) from fun i hi=>by
    have:=(zA HFI).2.2 i (by rw [zA HLK]; exact hi)
    rw [this,zKh hi])
   rcases (zA HAT) k hlt with ⟨k0,e⟩ | ⟨k1,a,e1,e2,e3⟩ | ⟨k2,a,c,e1,e2,e3,e4,e5⟩
   ·have HKK:=zB k0
    have HVE:=zB e
    clear k0 e
    go_wp2_with (first | (go_at_call 55; refine (zS (zA HKK) 0 rfl _).mono ?_; rintro e w' ⟨rfl,hx⟩; obtain rfl:=hx.symm) | (at_builtin; refine wpList_append_own _ rfl (.tmp 47) (.tmp 50) 79 rfl (w.heap.size+1) 3 i0 _ 1 8 Tryz.underlying79 (zA HI0) (zA HZ0).1 (zA HZ0).2.1 (zA HZ0).2.2 rfl (by decide) _ k (za (H.take k)) rfl (((zA hown).alloc _).alloc _) ⟨wr.heap.size+1,0,none⟩ 1 1 (za [1]) rfl rfl (by simpa using zDD (wr.alloc (.cells #[.int .i64 (atN ns k).k,.string (atN ns k).t,.int .i64 (atN ns k).a,.int .i64 (atN ns k).b] 81)) (1)) (zAn _) ?b1 ?b2 ?b3 ?next))
    case b1=>unfold maxLen; omega
    case b2=>omega
    case b3=>simp; omega
    case next=>
     intro v4 w4 hown4 hgrow4 hnil4
     have hbel4:Below (w.heap.size+1) (w.alloc (.cells #[.slice (some ⟨bn,0,none⟩) ns.length cn] 28)) w4:=(((zA hbel).alloc (by omega) _).alloc (by simp; omega) _).grown hgrow4 (by simp; omega) (fun q hq=>by have:=(zA HGO).1; simp [Value.ownBlock] at hq; omega)
     have z4:w.heap.size+1<w4.heap.size:=by have:=hgrow4.size; simp at this; omega
     obtain ⟨g4,c4,rfl⟩:=ZL hown4 (by simp [hnil4])
     rw [<- Z8,<- zA HVE,<- zA HTK] at hown4
     have HO4:=zB hown4
     have HB4:=zB hbel4
     clear hown4 hgrow4 hnil4 hbel4
     go_wp2_with fail
     exact ⟨⟨k+1,g4,c4,by omega,by go_num,rfl,HO4,HB4,z4⟩,by simp [intOf]; omega⟩
   ·have HKK:=zB k1
    have HVE:=zB e3
    rw [Nat.zero_add] at e1
    have ca:=(zA HCL) a e2
    have hgl:go<wr.heap.size:=(zA HGO).2
    have hgn:go≠wr.heap.size:=by omega
    have hba:=(zA HBD) a (by omega)
    obtain ⟨hba1,hba2⟩:=hba
    have haI:(a:Int)<(k:Int):=by omega
    rw [e1] at a2
    clear k1 e3 e1
    go_wp2_with (first | (go_at_call 55; refine (zS (zA HKK) 1 rfl _).mono ?_; rintro e w' ⟨rfl,hx⟩; obtain rfl:=hx.symm) | (at_builtin; refine wpList_append_own _ rfl (.tmp 47) (.tmp 50) 79 rfl (w.heap.size+1) 3 i0 _ 1 8 Tryz.underlying79 (zA HI0) (zA HZ0).1 (zA HZ0).2.1 (zA HZ0).2.2 rfl (by decide) _ k (za (H.take k)) rfl (((zA hown).alloc _).alloc _) ⟨wr.heap.size+1,0,none⟩ 1 1 (za [atI H a+1]) rfl rfl (by simpa using zDD (wr.alloc (.cells #[.int .i64 (atN ns k).k,.string (atN ns k).t,.int .i64 (a:Int),.int .i64 (atN ns k).b] 81)) (atI H a+1)) (zAn _) ?b1 ?b2 ?b3 ?next))
    case b1=>unfold maxLen; omega
    case b2=>omega
    case b3=>simp; omega
    case next=>
     intro v4 w4 hown4 hgrow4 hnil4
     have hbel4:Below (w.heap.size+1) (w.alloc (.cells #[.slice (some ⟨bn,0,none⟩) ns.length cn] 28)) w4:=(((zA hbel).alloc (by omega) _).alloc (by simp; omega) _).grown hgrow4 (by simp; omega) (fun q hq=>by have:=(zA HGO).1; simp [Value.ownBlock] at hq; omega)
     have z4:w.heap.size+1<w4.heap.size:=by have:=hgrow4.size; simp at this; omega
     obtain ⟨g4,c4,rfl⟩:=ZL hown4 (by simp [hnil4])
     rw [<- Z8,<- zA HVE,<- zA HTK] at hown4
     have HO4:=zB hown4
     have HB4:=zB hbel4
     clear hown4 hgrow4 hnil4 hbel4
     go_wp2_with fail
     exact ⟨⟨k+1,g4,c4,by omega,by go_num,rfl,HO4,HB4,z4⟩,by simp [intOf]; omega⟩
   ·have HKK:=zB k2
    rw [Nat.zero_add] at e1 e2
    have ca:=(zA HCL) a e3
    have cc:=(zA HCL) c e4
    have hgl:go<wr.heap.size:=(zA HGO).2
    have hgn:go≠wr.heap.size:=by omega
    obtain ⟨hba1,hba2⟩:=(zA HBD) a (by omega)
    obtain ⟨hbc1,hbc2⟩:=(zA HBD) c (by omega)
    have haI:(a:Int)<(k:Int):=by omega
    have hcI:(c:Int)<(k:Int):=by omega
    rw [e1] at a2
    rw [e2] at a3
    by_cases hg:atI H a<atI H c
    ·have HVE:=zB (show atI H k=atI H c+1 by omega)
     clear k2 e5 e1 e2 hb1
     go_wp2_with (first | (go_at_call 55; refine (zS (zA HKK) 2 rfl _).mono ?_; rintro e w' ⟨rfl,hx⟩; obtain rfl:=hx.symm) | (at_builtin; refine wpList_append_own _ rfl (.tmp 47) (.tmp 50) 79 rfl (w.heap.size+1) 3 i0 _ 1 8 Tryz.underlying79 (zA HI0) (zA HZ0).1 (zA HZ0).2.1 (zA HZ0).2.2 rfl (by decide) _ k (za (H.take k)) rfl (((zA hown).alloc _).alloc _) ⟨wr.heap.size+1,0,none⟩ 1 1 (za [atI H c+1]) rfl rfl (by simpa using zDD (wr.alloc (.cells #[.int .i64 (atN ns k).k,.string (atN ns k).t,.int .i64 (a:Int),.int .i64 (c:Int)] 81)) (atI H c+1)) (zAn _) ?b1 ?b2 ?b3 ?next))
     case b1=>unfold maxLen; omega
     case b2=>omega
     case b3=>simp; omega
     case next=>
      intro v4 w4 hown4 hgrow4 hnil4
      have hbel4:Below (w.heap.size+1) (w.alloc (.cells #[.slice (some ⟨bn,0,none⟩) ns.length cn] 28)) w4:=(((zA hbel).alloc (by omega) _).alloc (by simp; omega) _).grown hgrow4 (by simp; omega) (fun q hq=>by have:=(zA HGO).1; simp [Value.ownBlock] at hq; omega)
      have z4:w.heap.size+1<w4.heap.size:=by have:=hgrow4.size; simp at this; omega
      obtain ⟨g4,c4,rfl⟩:=ZL hown4 (by simp [hnil4])
      rw [<- Z8,<- zA HVE,<- zA HTK] at hown4
      have HO4:=zB hown4
      have HB4:=zB hbel4
      clear hown4 hgrow4 hnil4 hbel4
      go_wp2_with fail
      exact ⟨⟨k+1,g4,c4,by omega,by go_num,rfl,HO4,HB4,z4⟩,by simp [intOf]; omega⟩
    ·have HVE:=zB (show atI H k=atI H a+1 by omega)
     clear k2 e5 e1 e2 hb1
     go_wp2_with (first | (go_at_call 55; refine (zS (zA HKK) 2 rfl _).mono ?_; rintro e w' ⟨rfl,hx⟩; obtain rfl:=hx.symm) | (at_builtin; refine wpList_append_own _ rfl (.tmp 47) (.tmp 50) 79 rfl (w.heap.size+1) 3 i0 _ 1 8 Tryz.underlying79 (zA HI0) (zA HZ0).1 (zA HZ0).2.1 (zA HZ0).2.2 rfl (by decide) _ k (za (H.take k)) rfl (((zA hown).alloc _).alloc _) ⟨wr.heap.size+1,0,none⟩ 1 1 (za [atI H a+1]) rfl rfl (by simpa using zDD (wr.alloc (.cells #[.int .i64 (atN ns k).k,.string (atN ns k).t,.int .i64 (a:Int),.int .i64 (c:Int)] 81)) (atI H a+1)) (zAn _) ?b1 ?b2 ?b3 ?next))
     case b1=>unfold maxLen; omega
     case b2=>omega
     case b3=>simp; omega
     case next=>
      intro v4 w4 hown4 hgrow4 hnil4
      have hbel4:Below (w.heap.size+1) (w.alloc (.cells #[.slice (some ⟨bn,0,none⟩) ns.length cn] 28)) w4:=(((zA hbel).alloc (by omega) _).alloc (by simp; omega) _).grown hgrow4 (by simp; omega) (fun q hq=>by have:=(zA HGO).1; simp [Value.ownBlock] at hq; omega)
      have z4:w.heap.size+1<w4.heap.size:=by have:=hgrow4.size; simp at this; omega
      obtain ⟨g4,c4,rfl⟩:=ZL hown4 (by simp [hnil4])
      rw [<- Z8,<- zA HVE,<- zA HTK] at hown4
      have HO4:=zB hown4
      have HB4:=zB hbel4
      clear hown4 hgrow4 hnil4 hbel4
      go_wp2_with fail
      exact ⟨⟨k+1,g4,c4,by omega,by go_num,rfl,HO4,HB4,z4⟩,by simp [intOf]; omega⟩
  ·have hltI:¬ (k:Int)<(ns.length:Int):=by omega
   have e:k=ns.length:=by omega
   subst e
   have hlast:=(zA HFI).2.2 (ns.length-1) (by rw [zA HLK]; omega)
   rw [zKh (by omega)] at hlast
   have ec:((ns.length:Int)-1)=((ns.length-1:Nat):Int):=by omega
   have hs1:((ns.length:Int)-1)<(ns.length:Int):=by omega
   have hs0:(0:Int)<=(ns.length:Int)-1:=by omega
   have et:((ns.length:Int)-1).toNat=ns.length-1:=by omega
   go_wp2_with fail
   go_ret
   exact ⟨rfl,hbw⟩
end Go.Proofs.YtfboipappaonhaaGreat
namespace Go.Proofs.YtfboipappaonhaaGreat
set_option linter.unusedSimpArgs false
set_option linter.unusedVariables false
set_option maxHeartbeats 16000000
set_option maxRecDepth 100000
open Go.RowKit Go.Maps
def zCQ (k:Int):Int:=if 3<=k/\k<=5 then k-2 else 0
theorem zMC {k:Int} (h:3<=k/\k<=5):zCQ k=k-2:=if_pos h
theorem zEp (k:Int) (w:World) :
  Calls Tryz.prog 137 #[.int .i64 k] w fun e w'=>e = .returned (.int .i64 (zCQ k))/\w'=w:=by
 by_cases h3:k=3
 ·subst h3
  go_enter Tryz.func137,Tryz.ntmps137
  go_wp2
  go_ret
  exact ⟨zF (by simp [zCQ]),rfl⟩
 by_cases h4:k=4
 ·subst h4
  go_enter Tryz.func137,Tryz.ntmps137
  go_wp2
  go_ret
  exact ⟨zF (by simp [zCQ]),rfl⟩
 by_cases h5:k=5
 ·subst h5
  go_enter Tryz.func137,Tryz.ntmps137
  go_wp2
  go_ret
  exact ⟨zF (by simp [zCQ]),rfl⟩
 have e3:(k==3)=false:=by simpa using h3
 have e4:(k==4)=false:=by simpa using h4
 have e5:(k==5)=false:=by simpa using h5
 have HK:=zB (show zCQ k=0 by unfold zCQ; rw [if_neg]; omega)
 clear h3 h4 h5
 go_enter Tryz.func137,Tryz.ntmps137
 go_wp2
 go_ret
 exact ⟨zF (zA HK).symm,rfl⟩
theorem zOY {w:World} {bo bs:Nat} {xs:List OpR} (hi:Idx w bo bs xs xs.length) (hc:zM xs 0) (hok:zBF xs xs.length) (o:zD) (ht:o.t.size<=maxLen) :
  ∃ D:DataW Unit,w.ownsMap Tryz.prog 161 Z7 bo xs.length D /\
   (
    (∃ j,ZF o/\fnd xs o.t (o.k-2)=some j/\Maps.has D (klO o.t (zCQ o.k))=true/\D.atKey (klO o.t (zCQ o.k)) (zAa ⟨#[]⟩ 0 0 0)=zAa (atO xs j).s (atO xs j).k (atO xs j).l (atO xs j).sd) \/
    ((ZF o->fnd xs o.t (o.k-2)=none)/\Maps.has D (klO o.t (zCQ o.k))=false)):=by
 obtain ⟨⟨D,hown,hD⟩,_,_⟩:=hi
 have hw:(Lit.int .i64 (zCQ o.k)).wf=true:=by
  unfold zCQ
  split
  ·rename_i h
   rcases (by omega:o.k=3\/o.k=4\/o.k=5) with e | e | e <;> rw [e] <;> decide
  ·decide
 obtain ⟨h1,h2⟩:=hD o.t (zCQ o.k) ht hw
 refine ⟨D,hown,?_⟩
 cases hh:Maps.has D (klO o.t (zCQ o.k)) with
 | true=>
  obtain ⟨j,hj,e1,e2,e3⟩:=h2 hh
  have hop:ZF o:=by
   unfold ZF
   have hk:=zGj (hok j hj)
   unfold zCQ at e2
   split at e2
   ·assumption
   ·omega
  have e2':(atO xs j).k=o.k-2:=by
   rw [e2]; exact zMC hop
  exact Or.inl ⟨j,hop,zLn hc hj ⟨e1,e2'⟩,rfl,e3⟩
 | false=>
  refine Or.inr ⟨fun hop=>zLm (fun j hj h=>?_),rfl⟩
  have:Maps.has D (klO o.t (zCQ o.k))=true:=h1.2 ⟨j,hj,h.1,by rw [h.2]; exact (zMC hop).symm⟩
  rw [hh] at this
  cases this
def zJi (xs:List OpR) (o:zD) (p:OpR) (found:Bool):Prop:=
 (∃ j,ZF o/\fnd xs o.t (o.k-2)=some j/\found=true/\p=atO xs j)\/((ZF o->fnd xs o.t (o.k-2)=none)/\found=false)
theorem zFS (bo bs:Nat) (xs:List OpR) (o:zD) (w:World) (hi:Idx w bo bs xs xs.length) (hc:zM xs 0) (hok:zBF xs xs.length) (ht:o.t.size<=maxLen) :
  Calls Tryz.prog 88 #[.agg #[.map (some bo),.map (some bs)],.agg #[.int .i64 o.k,.string o.t,.int .i64 o.a,.int .i64 o.b]] w fun e w'=>(∃ (p:OpR) (v:Bool),e = .returned (.tuple #[.agg #[.string p.s,.int .i64 p.k,.int .i64 p.l,.int .i64 p.sd],.bool v])/\zJi xs o p v)/\Below w.heap.size w w':=by
 obtain ⟨D,hown,hcase⟩:=zOY hi hc hok o ht
 have hw:(Lit.int .i64 (zCQ o.k)).wf=true:=by
  unfold zCQ
  split
  ·rename_i h
   rcases (by omega:o.k=3\/o.k=4\/o.k=5) with e | e | e <;> rw [e] <;> decide
  ·decide
 have HKY:=zB (zJD ht hw)
 have HOW:=zB hown
 have HCS:=zB hcase
 have HB3:=zB (show ∀ o1 o2 o3:Obj,Below w.heap.size w ((w.alloc o1).alloc o2 |>.alloc o3) from fun o1 o2 o3=>((zC w o1).alloc (by simp) o2).alloc (by simp; omega) o3)
 clear hown hcase hi hc hok
 go_enter Tryz.func88,Tryz.ntmps88
 go_wp2_with fail
 have hlook:∀ W:World,W.ownsMap Tryz.prog 161 Z7 bo xs.length D->∃ p v,(Instr.lookup 66 (.map (some bo)) (.agg #[.string o.t,.int .i64 (zCQ o.k)]) true).run Tryz.prog W = .ok (.tuple #[.agg #[.string p.s,.int .i64 p.k,.int .i64 p.l,.int .i64 p.sd],.bool v]) W/\zJi xs o p v:=fun W hW=>by
  obtain ⟨v,ps,hr,hv⟩:=hW.look_ok zHt Tryz.underlying66 (zNp _) (zC7 _ _ _ _) (zA HKY)
  rcases zA HCS with ⟨j,h1,h2,h3,h4⟩ | ⟨h1,h2⟩
  ·rw [h4] at hv
   have e:=zK6 hv
   subst e
   rw [h3] at hr
   exact ⟨atO xs j,true,hr,Or.inl ⟨j,h1,h2,rfl,rfl⟩⟩
  ·obtain ⟨s,k,l,sd,rfl⟩:=zDb hv
   rw [h2] at hr
   exact ⟨⟨s,k,l,sd⟩,false,hr,Or.inr ⟨h1,rfl⟩⟩
 obtain ⟨p1,v1,hr1,hp1⟩:=hlook (((w.alloc (.cells #[.map (some bo),.map (some bs)] 69)).alloc (.cells #[.int .i64 o.k,.string o.t,.int .i64 o.a,.int .i64 o.b] 81)).alloc (.cells #[.string ⟨#[]⟩,.int .i64 0,.int .i64 0,.int .i64 0] 123)).drew ((((zA HOW).alloc _).alloc _).alloc _).drew
 obtain ⟨p2,v2,hr2,hp2⟩:=hlook ((((w.alloc (.cells #[.map (some bo),.map (some bs)] 69)).alloc (.cells #[.int .i64 o.k,.string o.t,.int .i64 o.a,.int .i64 o.b] 81)).alloc (.cells #[.string ⟨#[]⟩,.int .i64 0,.int .i64 0,.int .i64 0] 123)).alloc (.cells #[.string ⟨#[]⟩,.int .i64 0,.int .i64 0,.int .i64 0] 123)).drew (((((zA HOW).alloc _).alloc _).alloc _).alloc _).drew
 have HP1:=zB hp1
 have HP2:=zB hp2
 clear hp1 hp2 hlook
 go_region_held (fun w'=>w'.cell? ⟨w.heap.size,0,none⟩=some (.map (some bo))/\w'.cell? ⟨w.heap.size+1,0,none⟩=some (.int .i64 o.k)/\w'.cell? ⟨w.heap.size+1,1,none⟩=some (.string o.t)) (go_keep)
  (first | (go_at_call 137; refine (zEp _ _).mono ?_; rintro e w2 ⟨rfl,hx⟩; obtain rfl:=hx.symm))
 all_goals go_wp2
 all_goals first | (refine bodyPost_ret (v:=.tuple #[.agg #[.string p1.s,.int .i64 p1.k,.int .i64 p1.l,.int .i64 p1.sd],.bool v1]) ?_ rfl ⟨⟨p1,v1,rfl,zA HP1⟩,((((zC _ _).alloc (by simp) _).alloc (by simp; omega) _).alloc (by simp; omega) _).drew⟩; (simp [results,Tryz.results88,go_sem]; done)) | (refine bodyPost_ret (v:=.tuple #[.agg #[.string p2.s,.int .i64 p2.k,.int .i64 p2.l,.int .i64 p2.sd],.bool v2]) ?_ rfl ⟨⟨p2,v2,rfl,zA HP2⟩,((((zC _ _).alloc (by simp) _).alloc (by simp; omega) _).alloc (by simp; omega) _).drew⟩; (simp [results,Tryz.results88,go_sem]; done))
def zMD (w0 w:World) (K:FuncId) (p:Nat) (q:OpR) (x:Value):Prop:=
 ∃ ba bp bh,x = .func (.func K) #[] #[.pointer (some ⟨ba,0,none⟩),.pointer (some ⟨bp,0,none⟩),.pointer (some ⟨bh,0,none⟩)]/\w0.heap.size<=ba/\w0.heap.size<=bp/\w0.heap.size<=bh /\
  OpC w ba q/\w.cell? ⟨bp,0,none⟩=some (.pointer (some ⟨p,0,none⟩))/\w.cell? ⟨bh,0,none⟩=some (.int .i64 (ZJ q.s q.k q.l q.sd false))
theorem zHi (p:Nat) (q:OpR) (w:World) (hs:q.s.size<=maxLen) :
  Calls Tryz.prog 83 #[.pointer (some ⟨p,0,none⟩),.agg #[.string q.s,.int .i64 q.k,.int .i64 q.l,.int .i64 q.sd]] w fun x w'=>(∃ v,x = .returned v/\Hid (zMD w w' 132 p q v))/\Below w.heap.size w w':=by
 obtain ⟨W,hW⟩:∃ W,W=(w.alloc (.cells #[.pointer (some ⟨p,0,none⟩)] 75)).alloc (.cells #[.string q.s,.int .i64 q.k,.int .i64 q.l,.int .i64 q.sd] 123):=⟨_,rfl⟩
 have hWz:W.heap.size=w.heap.size+2:=by rw [hW]; simp
 have bel0:Below w.heap.size w W:=by rw [hW]; exact (zC _ _).alloc (by simp) _
 have g0:W.cell? ⟨w.heap.size,0,none⟩=some (.pointer (some ⟨p,0,none⟩)):=by rw [hW]; simp [go_sem]
 have g1:OpC W (w.heap.size+1) q:=by rw [hW]; exact ⟨by simp [go_sem],by simp [go_sem],by simp [go_sem],by simp [go_sem]⟩
 have HX:=zAO q.s q.k q.l q.sd false W hs
 have HG:=zB (And.intro g0 g1)
 have HZ:=zB hWz
 have HB:=zB bel0
 rw [hW] at HX
 have HW:=zB hW
 clear g0 g1 hWz bel0 hW
 go_enter Tryz.func83,Tryz.ntmps83
 go_wp2_with fail
 refine HX.mono ?_
 rw [<- zA HW]
 rintro x w1 ⟨rfl,hb1⟩
 have hz1:w.heap.size+2<=w1.heap.size:=by have:=hb1.size; rw [zA HZ] at this; exact this
 have bel1:Below w.heap.size w (w1.alloc (.cells #[.int .i64 (ZJ q.s q.k q.l q.sd false)] 3)):=((zA HB).trans (hb1.mono (zA HB).size)).alloc (by omega) _
 have l0:w.heap.size<W.heap.size:=by rw [zA HZ]; omega
 have l1:w.heap.size+1<W.heap.size:=by rw [zA HZ]; omega
 have r0:(w1.alloc (.cells #[.int .i64 (ZJ q.s q.k q.l q.sd false)] 3)).cell? ⟨w.heap.size,0,none⟩=some (.pointer (some ⟨p,0,none⟩)):=((zC _ _).cell (p:=⟨w.heap.size,0,none⟩) (by simp only; omega)).trans ((hb1.cell (p:=⟨w.heap.size,0,none⟩) l0).trans (zA HG).1)
 have r1:OpC (w1.alloc (.cells #[.int .i64 (ZJ q.s q.k q.l q.sd false)] 3)) (w.heap.size+1) q:=((zA HG).2.kept (zE.of_below (g:=W.heap.size) hb1) (by omega)).kept (zE.of_below (g:=W.heap.size) (zC _ _)) (by omega)
 have r2:(w1.alloc (.cells #[.int .i64 (ZJ q.s q.k q.l q.sd false)] 3)).cell? ⟨w1.heap.size,0,none⟩=some (.int .i64 (ZJ q.s q.k q.l q.sd false)):=by simp [go_sem]
 have HEND:=zB (show zMD w (w1.alloc (.cells #[.int .i64 (ZJ q.s q.k q.l q.sd false)] 3)) 132 p q (.func (.func 132) #[] #[.pointer (some ⟨w.heap.size+1,0,none⟩),.pointer (some ⟨w.heap.size,0,none⟩),.pointer (some ⟨w1.heap.size,0,none⟩)]) from ⟨_,_,_,rfl,by omega,by omega,by omega,r1,r0,r2⟩)
 clear r0 r1 r2 l0 l1 HX HG HZ HB hb1 hz1
 go_wp2_with fail
 go_ret
 exact ⟨⟨_,rfl,HEND⟩,bel1⟩
theorem zGN (p:Nat) (q:OpR) (w:World) (hs:q.s.size<=maxLen) :
  Calls Tryz.prog 85 #[.pointer (some ⟨p,0,none⟩),.agg #[.string q.s,.int .i64 q.k,.int .i64 q.l,.int .i64 q.sd]] w fun x w'=>(∃ v,x = .returned v/\Hid (zMD w w' 135 p q v))/\Below w.heap.size w w':=by
 obtain ⟨W,hW⟩:∃ W,W=(w.alloc (.cells #[.pointer (some ⟨p,0,none⟩)] 75)).alloc (.cells #[.string q.s,.int .i64 q.k,.int .i64 q.l,.int .i64 q.sd] 123):=⟨_,rfl⟩
 have hWz:W.heap.size=w.heap.size+2:=by rw [hW]; simp
 have bel0:Below w.heap.size w W:=by rw [hW]; exact (zC _ _).alloc (by simp) _
 have g0:W.cell? ⟨w.heap.size,0,none⟩=some (.pointer (some ⟨p,0,none⟩)):=by rw [hW]; simp [go_sem]
 have g1:OpC W (w.heap.size+1) q:=by rw [hW]; exact ⟨by simp [go_sem],by simp [go_sem],by simp [go_sem],by simp [go_sem]⟩
 have HX:=zAO q.s q.k q.l q.sd false W hs
 have HG:=zB (And.intro g0 g1)
 have HZ:=zB hWz
 have HB:=zB bel0
 rw [hW] at HX
 have HW:=zB hW
 clear g0 g1 hWz bel0 hW
 go_enter Tryz.func85,Tryz.ntmps85
 go_wp2_with fail
 refine HX.mono ?_
 rw [<- zA HW]
 rintro x w1 ⟨rfl,hb1⟩
 have hz1:w.heap.size+2<=w1.heap.size:=by have:=hb1.size; rw [zA HZ] at this; exact this
 have bel1:Below w.heap.size w (w1.alloc (.cells #[.int .i64 (ZJ q.s q.k q.l q.sd false)] 3)):=((zA HB).trans (hb1.mono (zA HB).size)).alloc (by omega) _
 have l0:w.heap.size<W.heap.size:=by rw [zA HZ]; omega
 have l1:w.heap.size+1<W.heap.size:=by rw [zA HZ]; omega
 have r0:(w1.alloc (.cells #[.int .i64 (ZJ q.s q.k q.l q.sd false)] 3)).cell? ⟨w.heap.size,0,none⟩=some (.pointer (some ⟨p,0,none⟩)):=((zC _ _).cell (p:=⟨w.heap.size,0,none⟩) (by simp only; omega)).trans ((hb1.cell (p:=⟨w.heap.size,0,none⟩) l0).trans (zA HG).1)
 have r1:OpC (w1.alloc (.cells #[.int .i64 (ZJ q.s q.k q.l q.sd false)] 3)) (w.heap.size+1) q:=((zA HG).2.kept (zE.of_below (g:=W.heap.size) hb1) (by omega)).kept (zE.of_below (g:=W.heap.size) (zC _ _)) (by omega)
 have r2:(w1.alloc (.cells #[.int .i64 (ZJ q.s q.k q.l q.sd false)] 3)).cell? ⟨w1.heap.size,0,none⟩=some (.int .i64 (ZJ q.s q.k q.l q.sd false)):=by simp [go_sem]
 have HEND:=zB (show zMD w (w1.alloc (.cells #[.int .i64 (ZJ q.s q.k q.l q.sd false)] 3)) 135 p q (.func (.func 135) #[] #[.pointer (some ⟨w.heap.size+1,0,none⟩),.pointer (some ⟨w.heap.size,0,none⟩),.pointer (some ⟨w1.heap.size,0,none⟩)]) from ⟨_,_,_,rfl,by omega,by omega,by omega,r1,r0,r2⟩)
 clear r0 r1 r2 l0 l1 HX HG HZ HB hb1 hz1
 go_wp2_with fail
 go_ret
 exact ⟨⟨_,rfl,HEND⟩,bel1⟩
def zCg (lo:Nat) (w:World) (K:FuncId) (p:Nat) (q:OpR) (x:Value):Prop:=
 ∃ ba bp bh,x = .func (.func K) #[] #[.pointer (some ⟨ba,0,none⟩),.pointer (some ⟨bp,0,none⟩),.pointer (some ⟨bh,0,none⟩)]/\lo<=ba/\lo<=bp/\lo<=bh /\
  OpC w ba q/\w.cell? ⟨bp,0,none⟩=some (.pointer (some ⟨p,0,none⟩))/\w.cell? ⟨bh,0,none⟩=some (.int .i64 (ZJ q.s q.k q.l q.sd false))
def zD4 (lo:Nat) (w:World) (K:FuncId) (p:Nat) (q:OpR) (x:Value):Prop:=
 ∃ ba bp bh bs,x = .func (.func K) #[] #[.pointer (some ⟨ba,0,none⟩),.pointer (some ⟨bp,0,none⟩),.pointer (some ⟨bh,0,none⟩),.pointer (some ⟨bs,0,none⟩)]/\lo<=ba/\lo<=bp/\lo<=bh/\lo<=bs /\
  OpC w ba q/\w.cell? ⟨bp,0,none⟩=some (.pointer (some ⟨p,0,none⟩))/\w.cell? ⟨bh,0,none⟩=some (.int .i64 (ZJ q.s q.k q.l q.sd false))/\w.cell? ⟨bs,0,none⟩=some (.int .i64 (ZJ q.s q.k q.l q.sd true))
theorem zCg.kept {lo:Nat} {w w':World} {K:FuncId} {p g:Nat} {q:OpR} {x:Value} (h:zCg lo w K p q x) (hk:zE w w' g) (hg:g<lo):zCg lo w' K p q x:=by
 obtain ⟨ba,bp,bh,h0,n1,n2,n3,h1,h2,h3⟩:=h
 exact ⟨ba,bp,bh,h0,n1,n2,n3,h1.kept hk (by omega),(hk.cell (b:=bp) (block_lt_of_cell h2) (by omega) 0).trans h2,(hk.cell (b:=bh) (block_lt_of_cell h3) (by omega) 0).trans h3⟩
theorem zD4.kept {lo:Nat} {w w':World} {K:FuncId} {p g:Nat} {q:OpR} {x:Value} (h:zD4 lo w K p q x) (hk:zE w w' g) (hg:g<lo):zD4 lo w' K p q x:=by
 obtain ⟨ba,bp,bh,bs,h0,n1,n2,n3,n4,h1,h2,h3,h4⟩:=h
 exact ⟨ba,bp,bh,bs,h0,n1,n2,n3,n4,h1.kept hk (by omega),(hk.cell (b:=bp) (block_lt_of_cell h2) (by omega) 0).trans h2,(hk.cell (b:=bh) (block_lt_of_cell h3) (by omega) 0).trans h3,(hk.cell (b:=bs) (block_lt_of_cell h4) (by omega) 0).trans h4⟩
theorem zCg.low {lo lo':Nat} {w:World} {K:FuncId} {p:Nat} {q:OpR} {x:Value} (h:zCg lo w K p q x) (hl:lo'<=lo):zCg lo' w K p q x:=by
 obtain ⟨ba,bp,bh,h0,n1,n2,n3,h1,h2,h3⟩:=h
 exact ⟨ba,bp,bh,h0,by omega,by omega,by omega,h1,h2,h3⟩
theorem zD4.low {lo lo':Nat} {w:World} {K:FuncId} {p:Nat} {q:OpR} {x:Value} (h:zD4 lo w K p q x) (hl:lo'<=lo):zD4 lo' w K p q x:=by
 obtain ⟨ba,bp,bh,bs,h0,n1,n2,n3,n4,h1,h2,h3,h4⟩:=h
 exact ⟨ba,bp,bh,bs,h0,by omega,by omega,by omega,by omega,h1,h2,h3,h4⟩
def BfD (lo:Nat) (w:World) (p:Nat) (ns:List OpR) (dn:ByteArray->Int->Bool) (G:ByteArray->Option Value):Prop:=
 G opn=some (.func (.func 82) #[.pointer (some ⟨p,0,none⟩)] #[]) /\
 ∀ t,t≠opn->(dn t 1=false->G t=none)/\(dn t 1=true->∃ v,G t=some v/\zCg lo w 132 p (opA ns (rt 3 t)) v)
def BbD (lo:Nat) (w:World) (p:Nat) (ns:List OpR) (dn:ByteArray->Int->Bool) (G:ByteArray->Option Value):Prop:=
 ∀ t,(dn t 2=false->dn t 3=false->G t=none) /\
 (dn t 2=true->∃ v,G t=some v/\zD4 lo w 133 p (opA ns (rt 4 t)) v) /\
 (dn t 3=true->∃ v,G t=some v/\zCg lo w 135 p (opA ns (rt 5 t)) v)
theorem BfD.kept {lo:Nat} {w w':World} {p g:Nat} {ns:List OpR} {dn:ByteArray->Int->Bool} {G:ByteArray->Option Value} (h:BfD lo w p ns dn G) (hk:zE w w' g) (hg:g<lo):BfD lo w' p ns dn G:=
 ⟨h.1,fun t ht=>⟨(h.2 t ht).1,fun hb=>by obtain ⟨v,h1,h2⟩:=(h.2 t ht).2 hb; exact ⟨v,h1,h2.kept hk hg⟩⟩⟩
theorem BbD.kept {lo:Nat} {w w':World} {p g:Nat} {ns:List OpR} {dn:ByteArray->Int->Bool} {G:ByteArray->Option Value} (h:BbD lo w p ns dn G) (hk:zE w w' g) (hg:g<lo):BbD lo w' p ns dn G:=
 fun t=>⟨(h t).1,fun hb=>by obtain ⟨v,h1,h2⟩:=(h t).2.1 hb; exact ⟨v,h1,h2.kept hk hg⟩,fun hb=>by obtain ⟨v,h1,h2⟩:=(h t).2.2 hb; exact ⟨v,h1,h2.kept hk hg⟩⟩
theorem zDE {s t:ByteArray} (h:s.data=t.data):s=t:=by cases s; cases t; simp at h; rw [h]
def zFT (dn dn':ByteArray->Int->Bool) (s:ByteArray) (kd:Int):Prop:=∀ t k,dn' t k=true↔dn t k=true\/(t=s/\k=kd)
theorem zFT.other {dn dn':ByteArray->Int->Bool} {s:ByteArray} {kd:Int} (h:zFT dn dn' s kd) {t:ByteArray} {k:Int} (hn:¬ (t=s/\k=kd)):dn' t k=dn t k:=by
 have:=h t k
 cases a:dn' t k <;> cases b:dn t k <;> simp [a,b,hn] at this ⊢
 all_goals exact absurd this (by simp [hn])
theorem BfD.keep {lo:Nat} {w:World} {p:Nat} {ns:List OpR} {dn dn':ByteArray->Int->Bool} {G:ByteArray->Option Value} {s:ByteArray} {kd:Int} (h:BfD lo w p ns dn G) (hm:zFT dn dn' s kd) (hk:kd≠1):BfD lo w p ns dn' G:=
 ⟨h.1,fun t ht=>by rw [hm.other (fun e=>hk e.2.symm)]; exact h.2 t ht⟩
theorem BbD.keep {lo:Nat} {w:World} {p:Nat} {ns:List OpR} {dn dn':ByteArray->Int->Bool} {G:ByteArray->Option Value} {s:ByteArray} {kd:Int} (h:BbD lo w p ns dn G) (hm:zFT dn dn' s kd) (hk:kd=1):BbD lo w p ns dn' G:=
 fun t=>by rw [hm.other (fun e=>by omega),hm.other (fun e=>by omega)]; exact h t
theorem BfD.put {lo:Nat} {w:World} {p:Nat} {ns:List OpR} {dn dn':ByteArray->Int->Bool} {G:ByteArray->Option Value} {s:ByteArray} {v:Value} (h:BfD lo w p ns dn G) (hm:zFT dn dn' s 1) (hs:s≠opn) (hv:zCg lo w 132 p (opA ns (rt 3 s)) v) :
  BfD lo w p ns dn' (fun t'=>if t'.data=s.data then some v else G t'):=by
 refine ⟨?_,fun t ht=>?_⟩
 ·simp only
  rw [if_neg (fun e=>hs (zDE e).symm)]
  exact h.1
 ·by_cases e:t=s
  ·subst e
   refine ⟨fun hf=>?_,fun _=>⟨v,if_pos rfl,hv⟩⟩
   rw [(hm t 1).2 (Or.inr ⟨rfl,rfl⟩)] at hf
   cases hf
  ·simp only
   rw [if_neg (fun x=>e (zDE x)),hm.other (fun x=>e x.1)]
   exact h.2 t ht
theorem BbD.put2 {lo:Nat} {w:World} {p:Nat} {ns:List OpR} {dn dn':ByteArray->Int->Bool} {G:ByteArray->Option Value} {s:ByteArray} {v:Value} (h:BbD lo w p ns dn G) (hm:zFT dn dn' s 2) (h3:dn s 3=false) (hv:zD4 lo w 133 p (opA ns (rt 4 s)) v) :
  BbD lo w p ns dn' (fun t'=>if t'.data=s.data then some v else G t'):=by
 intro t
 by_cases e:t=s
 ·subst e
  refine ⟨fun hf=>?_,fun _=>⟨v,if_pos rfl,hv⟩,fun hf=>?_⟩
  ·rw [(hm t 2).2 (Or.inr ⟨rfl,rfl⟩)] at hf
   cases hf
  ·rw [hm.other (fun x=>by omega),h3] at hf
   cases hf
 ·simp only
  rw [if_neg (fun x=>e (zDE x)),hm.other (fun x=>e x.1),hm.other (fun x=>e x.1)]
  exact h t
theorem BbD.put3 {lo:Nat} {w:World} {p:Nat} {ns:List OpR} {dn dn':ByteArray->Int->Bool} {G:ByteArray->Option Value} {s:ByteArray} {v:Value} (h:BbD lo w p ns dn G) (hm:zFT dn dn' s 3) (h2:dn s 2=false) (hv:zCg lo w 135 p (opA ns (rt 5 s)) v) :
  BbD lo w p ns dn' (fun t'=>if t'.data=s.data then some v else G t'):=by
 intro t
 by_cases e:t=s
 ·subst e
  refine ⟨fun _ hf=>?_,fun hf=>?_,fun _=>⟨v,if_pos rfl,hv⟩⟩
  ·rw [(hm t 3).2 (Or.inr ⟨rfl,rfl⟩)] at hf
   cases hf
  ·rw [hm.other (fun x=>by omega),h2] at hf
   cases hf
 ·simp only
  rw [if_neg (fun x=>e (zDE x)),hm.other (fun x=>e x.1),hm.other (fun x=>e x.1)]
  exact h t
theorem zEM {ns:List OpR} {t:ByteArray} {q:Nat} {k:Int} (h:zn ns t k=true) (hq:(q:Int)-2=k) (b:Bool):ZJ (opA ns (rt q t)).s (opA ns (rt q t)).k (opA ns (rt q t)).l (opA ns (rt q t)).sd b=sH ns (q,t) b:=by
 have hk:=zDX h hq
 unfold knB at hk
 unfold sH zY opA
 simp only [rt] at hk ⊢
 cases hf:fnd ns t ((q:Int)-2) with
 | none=>rw [hf] at hk; cases hk
 | some j=>rfl
theorem BfD.ok {lo:Nat} {w:World} {p:Nat} {ns:List OpR} {G:ByteArray->Option Value} (h:BfD lo w p ns (zn ns) G) (hp:p<lo):zNu w p ns G:=by
 refine ⟨h.1,fun t ht=>⟨(h.2 t ht).1,fun hb=>?_⟩⟩
 obtain ⟨v,h1,ba,bp,bh,rfl,n1,n2,n3,c1,c2,c3⟩:=(h.2 t ht).2 hb
 rw [zEM hb (by decide)] at c3
 exact ⟨ba,bp,bh,h1,by omega,by omega,by omega,c1,c2,c3⟩
theorem BbD.ok {lo:Nat} {w:World} {p:Nat} {ns:List OpR} {G:ByteArray->Option Value} (h:BbD lo w p ns (zn ns) G) (hp:p<lo):zNv w p ns G:=by
 intro t
 refine ⟨fun hn=>(h t).1 ?_ ?_,fun hb=>?_,fun hb=>?_⟩
 ·cases e:zn ns t 2 with
  | false=>rfl
  | true=>obtain ⟨j,hj,e1,_⟩:=(ZQ _ _ _).1 e; exact absurd ⟨j,hj,e1⟩ hn
 ·cases e:zn ns t 3 with
  | false=>rfl
  | true=>obtain ⟨j,hj,e1,_⟩:=(ZQ _ _ _).1 e; exact absurd ⟨j,hj,e1⟩ hn
 ·obtain ⟨v,h1,ba,bp,bh,bs,rfl,n1,n2,n3,n4,c1,c2,c3,c4⟩:=(h t).2.1 hb
  rw [zEM hb (by decide)] at c3
  rw [zEM hb (by decide)] at c4
  exact ⟨ba,bp,bh,bs,h1,by omega,by omega,by omega,by omega,c1,c2,c3,c4⟩
 ·obtain ⟨v,h1,ba,bp,bh,rfl,n1,n2,n3,c1,c2,c3⟩:=(h t).2.2 hb
  rw [zEM hb (by decide)] at c3
  exact ⟨ba,bp,bh,h1,by omega,by omega,by omega,c1,c2,c3⟩
def dnL (ns:List OpR) (left:Lit->Bool) (t:ByteArray) (k:Int):Bool:=zn ns t k&&!left (klO t k)
theorem zOZ {ns:List OpR} {left:Lit->Bool} {s:ByteArray} {kd:Int} (hz:ZV ns) (hok:zBF ns ns.length) (hss:s.size<=maxLen) (hkw:(Lit.int .i64 kd).wf=true) (hh:zn ns s kd=true) :
  zFT (dnL ns left) (dnL ns (fun z=>left z&&!z.sameKey (klO s kd))) s kd:=by
 intro t k
 unfold dnL
 constructor
 ·intro h
  simp only [Bool.and_eq_true,Bool.not_eq_true',Bool.and_eq_false_iff,Bool.not_eq_false'] at h
  obtain ⟨h1,h2⟩:=h
  rcases h2 with h2 | h2
  ·exact Or.inl (by simp [h1,h2])
  ·right
   have e:klO t k=klO s kd:=by simpa [Lit.sameKey,klO] using h2
   obtain ⟨j,hj,e1,e2⟩:=(ZQ _ _ _).1 h1
   have:=zJE (by rw [<- e1]; exact hz j hj) hss (by rw [<- e2]; exact zFv (hok j hj)) hkw e
   exact this
 ·rintro (h | ⟨rfl,rfl⟩)
  ·simp only [Bool.and_eq_true,Bool.not_eq_true'] at h
   simp [h.1,h.2]
  ·simp [hh,Lit.sameKey,klO]
end Go.Proofs.YtfboipappaonhaaGreat
