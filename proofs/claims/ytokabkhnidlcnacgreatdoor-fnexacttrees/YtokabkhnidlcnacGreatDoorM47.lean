import Derived.Test.YtokabkhnidlcnacGreatDoorM36
import Derived.Test.YtokabkhnidlcnacGreatDoorM46
namespace Go.Proofs.YtokabkhnidlcnacGreatDoor
set_option linter.unusedSimpArgs false
set_option linter.unusedVariables false
set_option maxHeartbeats 16000000
set_option maxRecDepth 100000
open Go.RowKit Go.Maps
def zE1 (w:World) (am:Option Addr) (cm:Nat) (ms:List zJ) (e:Ending) (w':World):Prop:=
 (∃ (s k:Nat) (c:Int),s < 5 /\ k < ms.length /\ c = (s:Int) + 2 /\ e = .returned (.tuple #[.pointer none,.int .i64 c,.int .i64 (k:Int)]) /\ Fl ms s k /\ Below w.heap.size w w') \/
 (e = .returned (.tuple #[.pointer (some ⟨w.heap.size + 1,0,none⟩),.int .i64 0,.int .i64 0]) /\ ∃ W X ob,St w W X ob am cm ms 4 ms.length w')
def Sx (w W:World) (am:Option Addr) (cm:Nat) (ms:List zJ) (s:Nat) (wr:World):Prop:=(s < 5 /\ ∃ X ob,St w W X ob am cm ms s 0 wr) \/ (s = 5 /\ ∃ X ob,St w W X ob am cm ms 4 ms.length wr)
theorem Sx.start (w:World) (am:Option Addr) (cm:Nat) (ms:List zJ):Sx w (((w.alloc (.map #[] 0)).alloc (.cells #[.slice am ms.length cm,.slice none 0 0,.slice none 0 0,.map none,.map (some w.heap.size),.slice none 0 0] 75)).alloc (.cells #[.int .i64 2,.func (.func 90) #[.pointer (some ⟨w.heap.size + 1,0,none⟩)] #[],.int .i64 3,.func (.func 91) #[.pointer (some ⟨w.heap.size + 1,0,none⟩)] #[],.int .i64 4,.func (.func 92) #[.pointer (some ⟨w.heap.size + 1,0,none⟩)] #[],.int .i64 5,.func (.func 93) #[.pointer (some ⟨w.heap.size + 1,0,none⟩)] #[],.int .i64 6,.func (.func 94) #[.pointer (some ⟨w.heap.size + 1,0,none⟩)] #[]] 160)) am cm ms 0 (((w.alloc (.map #[] 0)).alloc (.cells #[.slice am ms.length cm,.slice none 0 0,.slice none 0 0,.map none,.map (some w.heap.size),.slice none 0 0] 75)).alloc (.cells #[.int .i64 2,.func (.func 90) #[.pointer (some ⟨w.heap.size + 1,0,none⟩)] #[],.int .i64 3,.func (.func 91) #[.pointer (some ⟨w.heap.size + 1,0,none⟩)] #[],.int .i64 4,.func (.func 92) #[.pointer (some ⟨w.heap.size + 1,0,none⟩)] #[],.int .i64 5,.func (.func 93) #[.pointer (some ⟨w.heap.size + 1,0,none⟩)] #[],.int .i64 6,.func (.func 94) #[.pointer (some ⟨w.heap.size + 1,0,none⟩)] #[]] 160)):=by
 obtain ⟨W1,hW1⟩:∃ W1,W1 = w.alloc (.map #[] 0):=⟨_,rfl⟩
 have z1:W1.heap.size = w.heap.size + 1:=by rw [hW1]; simp
 have s1:ZQ W1 w.heap.size 0 (fun _=>none):=by rw [hW1]; exact ZQ.made w
 rw [<- hW1]
 refine Or.inl ⟨by omega,w.heap.size + 2,.cells #[.int .i64 2,.func (.func 90) #[.pointer (some ⟨w.heap.size + 1,0,none⟩)] #[],.int .i64 3,.func (.func 91) #[.pointer (some ⟨w.heap.size + 1,0,none⟩)] #[],.int .i64 4,.func (.func 92) #[.pointer (some ⟨w.heap.size + 1,0,none⟩)] #[],.int .i64 5,.func (.func 93) #[.pointer (some ⟨w.heap.size + 1,0,none⟩)] #[],.int .i64 6,.func (.func 94) #[.pointer (some ⟨w.heap.size + 1,0,none⟩)] #[]] 160,⟨⟨?_,Nat.le_refl _,?_,rfl,by simp; omega,?_⟩,fun i hi=>by omega,.slice none 0 0,[],[],rfl,?_,⟨rfl,fun i hi=>by omega⟩,by simp [Value.ownBlock]⟩⟩
 ·have:w.heap.size + 2 = (W1.alloc (.cells #[.slice am ms.length cm,.slice none 0 0,.slice none 0 0,.map none,.map (some w.heap.size),.slice none 0 0] 75)).heap.size:=by simp [z1]
  rw [this]
  exact zGx _ _
 ·rw [hW1]
  exact ((zC _ _).alloc (by simp) _).alloc (by simp; omega) _
 ·have hz:w.heap.size + 1 = W1.heap.size:=z1.symm
  exact ⟨by rw [hz]; simp [go_sem],by rw [hz]; simp [go_sem]⟩
 ·have hz:w.heap.size + 1 = W1.heap.size:=z1.symm
  refine ⟨by omega,by omega,by omega,?_,?_,?_,?_,?_,?_,World.ownsRow_nil _ _ _ _,⟨rfl,fun i hi=>by simp at hi⟩,fun i hi=>by simp at hi,?_⟩
  ·rw [hz]; simp [go_sem]
  ·rw [hz]; simp [go_sem]
  ·rw [hz]; simp [go_sem]
  ·rw [hz]; simp [go_sem]
  ·rw [hz]; simp [go_sem]
  ·intro o; rw [hz]; simp [go_sem]
  ·exact (s1.kept (zF (zC _ _) none) (by simp)).kept (zF (zC _ _) none) (by simp)
theorem zFb (am:Option Addr) (cm:Nat) (ms:List zJ) (w:World) (g:LdG w am ms) :
  Calls Tryz.prog 55 #[.slice am ms.length cm] w (zE1 w am cm ms):=by
 have hmm:=@run_makeMap Tryz.prog
 have hsf:∀ (w:World) (a:Addr) (fn:Fn) (x y:Array Value),(store a (.func fn x y)).run Tryz.prog w = stored Tryz.prog w a (.func fn x y) .plain:=fun w a fn x y=>run_store Tryz.prog w a _ .plain rfl
 have hn:=g.hn
 have hnI:¬ (100:Int) < (ms.length:Int):=by omega
 have HG:=zB g
 have HS:=zB (Sx.start w am cm ms)
 obtain ⟨W0,hW0⟩:∃ W0,W0 = ((w.alloc (.map #[] 0)).alloc (.cells #[.slice am ms.length cm,.slice none 0 0,.slice none 0 0,.map none,.map (some w.heap.size),.slice none 0 0] 75)).alloc (.cells #[.int .i64 2,.func (.func 90) #[.pointer (some ⟨w.heap.size + 1,0,none⟩)] #[],.int .i64 3,.func (.func 91) #[.pointer (some ⟨w.heap.size + 1,0,none⟩)] #[],.int .i64 4,.func (.func 92) #[.pointer (some ⟨w.heap.size + 1,0,none⟩)] #[],.int .i64 5,.func (.func 93) #[.pointer (some ⟨w.heap.size + 1,0,none⟩)] #[],.int .i64 6,.func (.func 94) #[.pointer (some ⟨w.heap.size + 1,0,none⟩)] #[]] 160):=⟨_,rfl⟩
 rw [<- hW0] at HS
 have HW0:=zB hW0
 have HROW:=zB (show W0.heap[w.heap.size + 2]? = some (.cells #[.int .i64 2,.func (.func 90) #[.pointer (some ⟨w.heap.size + 1,0,none⟩)] #[],.int .i64 3,.func (.func 91) #[.pointer (some ⟨w.heap.size + 1,0,none⟩)] #[],.int .i64 4,.func (.func 92) #[.pointer (some ⟨w.heap.size + 1,0,none⟩)] #[],.int .i64 5,.func (.func 93) #[.pointer (some ⟨w.heap.size + 1,0,none⟩)] #[],.int .i64 6,.func (.func 94) #[.pointer (some ⟨w.heap.size + 1,0,none⟩)] #[]] 160) by
  rw [hW0]
  have:w.heap.size + 2 = ((w.alloc (.map #[] 0)).alloc (.cells #[.slice am ms.length cm,.slice none 0 0,.slice none 0 0,.map none,.map (some w.heap.size),.slice none 0 0] 75)).heap.size:=by simp
  rw [this]
  exact zGx _ _)
 clear g hW0
 go_enter Tryz.func55,Tryz.ntmps55
 go_wp2_with fail
 rw [<- zA HW0]
 go_loopw [33] (fun x wr=>∃ s:Nat,s <= 5 /\ x = .int .i64 (s:Int) /\ Hid (Sx w W0 am cm ms s wr)) (fun x _=>5 - (intOf x).toNat)
 case atStart=>exact ⟨0,by omega,rfl,HS⟩
 case round=>
  clear HS
  obtain ⟨s,hs,hx,HS⟩:=hrel
  rcases (by omega:s = 5 \/ s = 0 \/ s = 1 \/ s = 2 \/ s = 3 \/ s = 4) with rfl | rfl | rfl | rfl | rfl | rfl
  ·have hx':_ = Value.int .i64 5:=hx
   subst hx'
   clear hx
   have HF:=zB (show ∃ W X ob,St w W X ob am cm ms 4 ms.length wr by
    rcases zA HS with ⟨h,_⟩ | ⟨_,h⟩
    ·omega
    ·exact ⟨W0,h⟩)
   go_wp2_with fail
   go_ret3
   exact Or.inr ⟨rfl,zA HF⟩
  ·have hx':_ = Value.int .i64 0:=hx
   subst hx'
   clear hx
   obtain ⟨X0,ob0,hst⟩:∃ X ob,St w W0 X ob am cm ms 0 0 wr:=by
    rcases zA HS with ⟨_,h⟩ | ⟨h,_⟩
    ·exact h
    ·omega
   have hrow:=hst.ldk.row.trans (zA HROW)
   have q0:wr.cell? ⟨w.heap.size + 1 + 1,0,none⟩ = some (.int .i64 2):=za hrow rfl
   have q1:wr.cell? ⟨w.heap.size + 1 + 1,1,none⟩ = some (.func (.func 90) #[.pointer (some ⟨w.heap.size + 1,0,none⟩)] #[]):=za hrow rfl
   have hql:w.heap.size + 1 + 1 < wr.heap.size:=hst.ldk.siz
   have HA:=zB (hst.alloc (.cells #[.int .i64 2,.func (.func 90) #[.pointer (some ⟨w.heap.size + 1,0,none⟩)] #[]] 160))
   clear hst hrow HS
   go_wp2_with fail
   obtain ⟨wo,rfl⟩:∃ wo,wo = wr:=⟨_,rfl⟩
   go_loopw [39] (fun y wi=>∃ k:Nat,k <= ms.length /\ y = .int .i64 (k:Int) /\ Hid (St w W0 wo.heap.size (.cells #[.int .i64 2,.func (.func 90) #[.pointer (some ⟨w.heap.size + 1,0,none⟩)] #[]] 160) am cm ms 0 k wi)) (fun y _=>ms.length - (intOf y).toNat)
   case atStart=>exact ⟨0,Nat.zero_le _,rfl,HA⟩
   case round=>
    clear HA q0 q1
    obtain ⟨k,hk,rfl,HK⟩:=hrel
    by_cases hlt:k < ms.length
    ·have hltI:(k:Int) < (ms.length:Int):=by omega
     have b0:wr.cell? ⟨wo.heap.size,0,none⟩ = some (.int .i64 2):=za (zA HK).ldk.box rfl
     have b1:wr.cell? ⟨wo.heap.size,1,none⟩ = some (.func (.func 90) #[.pointer (some ⟨w.heap.size + 1,0,none⟩)] #[]):=za (zA HK).ldk.box rfl
     have HX:=zB (zPS (zA HG) hlt (zA HK))
     clear HK
     go_wp2_with fail
     (with_reducible refine (zA HX).mono ?_)
     rintro e w1 ⟨b,rfl,ht,hf⟩
     cases b
     ·obtain ⟨hfl,hK1⟩:=hf rfl
      have d0:w1.cell? ⟨wo.heap.size,0,none⟩ = some (.int .i64 2):=za hK1.box rfl
      have HR:=zB (show zE1 w am cm ms (.returned (.tuple #[.pointer none,.int .i64 2,.int .i64 (k:Int)])) w1.drew from Or.inl ⟨0,k,2,by omega,hlt,rfl,rfl,hfl,hK1.bel.drew⟩)
      clear ht hf hfl hK1 b0 b1
      go_wp2_with fail
      go_region
      go_wp2_with fail
      go_ret3
      exact zA HR
     ·have HN:=zB (ht rfl)
      clear ht hf b0 b1
      go_wp2_with fail
      exact ⟨⟨k + 1,by omega,by go_num,HN⟩,by simp [intOf]; omega⟩
    ·have hltI:¬ (k:Int) < (ms.length:Int):=by omega
     obtain rfl:k = ms.length:=by omega
     have HN:=zB (show Sx w W0 am cm ms 1 wr from (by have h:=zA HK; exact Or.inl ⟨by omega,_,_,zNz h⟩))
     clear HK
     go_wp2_with fail
     exact ⟨⟨1,by omega,by first | rfl | go_num,HN⟩,by simp [intOf]⟩
  ·have hx':_ = Value.int .i64 1:=hx
   subst hx'
   clear hx
   obtain ⟨X0,ob0,hst⟩:∃ X ob,St w W0 X ob am cm ms 1 0 wr:=by
    rcases zA HS with ⟨_,h⟩ | ⟨h,_⟩
    ·exact h
    ·omega
   have hrow:=hst.ldk.row.trans (zA HROW)
   have q0:wr.cell? ⟨w.heap.size + 1 + 1,2,none⟩ = some (.int .i64 3):=za hrow rfl
   have q1:wr.cell? ⟨w.heap.size + 1 + 1,3,none⟩ = some (.func (.func 91) #[.pointer (some ⟨w.heap.size + 1,0,none⟩)] #[]):=za hrow rfl
   have hql:w.heap.size + 1 + 1 < wr.heap.size:=hst.ldk.siz
   have HA:=zB (hst.alloc (.cells #[.int .i64 3,.func (.func 91) #[.pointer (some ⟨w.heap.size + 1,0,none⟩)] #[]] 160))
   clear hst hrow HS
   go_wp2_with fail
   obtain ⟨wo,rfl⟩:∃ wo,wo = wr:=⟨_,rfl⟩
   go_loopw [39] (fun y wi=>∃ k:Nat,k <= ms.length /\ y = .int .i64 (k:Int) /\ Hid (St w W0 wo.heap.size (.cells #[.int .i64 3,.func (.func 91) #[.pointer (some ⟨w.heap.size + 1,0,none⟩)] #[]] 160) am cm ms 1 k wi)) (fun y _=>ms.length - (intOf y).toNat)
   case atStart=>exact ⟨0,Nat.zero_le _,rfl,HA⟩
   case round=>
    clear HA q0 q1
    obtain ⟨k,hk,rfl,HK⟩:=hrel
    by_cases hlt:k < ms.length
    ·have hltI:(k:Int) < (ms.length:Int):=by omega
     have b0:wr.cell? ⟨wo.heap.size,0,none⟩ = some (.int .i64 3):=za (zA HK).ldk.box rfl
     have b1:wr.cell? ⟨wo.heap.size,1,none⟩ = some (.func (.func 91) #[.pointer (some ⟨w.heap.size + 1,0,none⟩)] #[]):=za (zA HK).ldk.box rfl
     have HX:=zB (zPT (zA HG) hlt (zA HK))
     clear HK
     go_wp2_with fail
     (with_reducible refine (zA HX).mono ?_)
     rintro e w1 ⟨b,rfl,ht,hf⟩
     cases b
     ·obtain ⟨hfl,hK1⟩:=hf rfl
      have d0:w1.cell? ⟨wo.heap.size,0,none⟩ = some (.int .i64 3):=za hK1.box rfl
      have HR:=zB (show zE1 w am cm ms (.returned (.tuple #[.pointer none,.int .i64 3,.int .i64 (k:Int)])) w1.drew from Or.inl ⟨1,k,3,by omega,hlt,rfl,rfl,hfl,hK1.bel.drew⟩)
      clear ht hf hfl hK1 b0 b1
      go_wp2_with fail
      go_region
      go_wp2_with fail
      go_ret3
      exact zA HR
     ·have HN:=zB (ht rfl)
      clear ht hf b0 b1
      go_wp2_with fail
      exact ⟨⟨k + 1,by omega,by go_num,HN⟩,by simp [intOf]; omega⟩
    ·have hltI:¬ (k:Int) < (ms.length:Int):=by omega
     obtain rfl:k = ms.length:=by omega
     have HN:=zB (show Sx w W0 am cm ms 2 wr from (by have h:=zA HK; exact Or.inl ⟨by omega,_,_,zN0 h⟩))
     clear HK
     go_wp2_with fail
     exact ⟨⟨2,by omega,by first | rfl | go_num,HN⟩,by simp [intOf]⟩
  ·have hx':_ = Value.int .i64 2:=hx
   subst hx'
   clear hx
   obtain ⟨X0,ob0,hst⟩:∃ X ob,St w W0 X ob am cm ms 2 0 wr:=by
    rcases zA HS with ⟨_,h⟩ | ⟨h,_⟩
    ·exact h
    ·omega
   have hrow:=hst.ldk.row.trans (zA HROW)
   have q0:wr.cell? ⟨w.heap.size + 1 + 1,4,none⟩ = some (.int .i64 4):=za hrow rfl
   have q1:wr.cell? ⟨w.heap.size + 1 + 1,5,none⟩ = some (.func (.func 92) #[.pointer (some ⟨w.heap.size + 1,0,none⟩)] #[]):=za hrow rfl
   have hql:w.heap.size + 1 + 1 < wr.heap.size:=hst.ldk.siz
   have HA:=zB (hst.alloc (.cells #[.int .i64 4,.func (.func 92) #[.pointer (some ⟨w.heap.size + 1,0,none⟩)] #[]] 160))
   clear hst hrow HS
   go_wp2_with fail
   obtain ⟨wo,rfl⟩:∃ wo,wo = wr:=⟨_,rfl⟩
   go_loopw [39] (fun y wi=>∃ k:Nat,k <= ms.length /\ y = .int .i64 (k:Int) /\ Hid (St w W0 wo.heap.size (.cells #[.int .i64 4,.func (.func 92) #[.pointer (some ⟨w.heap.size + 1,0,none⟩)] #[]] 160) am cm ms 2 k wi)) (fun y _=>ms.length - (intOf y).toNat)
   case atStart=>exact ⟨0,Nat.zero_le _,rfl,HA⟩
   case round=>
    clear HA q0 q1
    obtain ⟨k,hk,rfl,HK⟩:=hrel
    by_cases hlt:k < ms.length
    ·have hltI:(k:Int) < (ms.length:Int):=by omega
     have b0:wr.cell? ⟨wo.heap.size,0,none⟩ = some (.int .i64 4):=za (zA HK).ldk.box rfl
     have b1:wr.cell? ⟨wo.heap.size,1,none⟩ = some (.func (.func 92) #[.pointer (some ⟨w.heap.size + 1,0,none⟩)] #[]):=za (zA HK).ldk.box rfl
     have HX:=zB (zPU (zA HG) hlt (zA HK))
     clear HK
     go_wp2_with fail
     (with_reducible refine (zA HX).mono ?_)
     rintro e w1 ⟨b,rfl,ht,hf⟩
     cases b
     ·obtain ⟨hfl,hK1⟩:=hf rfl
      have d0:w1.cell? ⟨wo.heap.size,0,none⟩ = some (.int .i64 4):=za hK1.box rfl
      have HR:=zB (show zE1 w am cm ms (.returned (.tuple #[.pointer none,.int .i64 4,.int .i64 (k:Int)])) w1.drew from Or.inl ⟨2,k,4,by omega,hlt,rfl,rfl,hfl,hK1.bel.drew⟩)
      clear ht hf hfl hK1 b0 b1
      go_wp2_with fail
      go_region
      go_wp2_with fail
      go_ret3
      exact zA HR
     ·have HN:=zB (ht rfl)
      clear ht hf b0 b1
      go_wp2_with fail
      exact ⟨⟨k + 1,by omega,by go_num,HN⟩,by simp [intOf]; omega⟩
    ·have hltI:¬ (k:Int) < (ms.length:Int):=by omega
     obtain rfl:k = ms.length:=by omega
     have HN:=zB (show Sx w W0 am cm ms 3 wr from (by have h:=zA HK; exact Or.inl ⟨by omega,_,_,zN1 h⟩))
     clear HK
     go_wp2_with fail
     exact ⟨⟨3,by omega,by first | rfl | go_num,HN⟩,by simp [intOf]⟩
  ·have hx':_ = Value.int .i64 3:=hx
   subst hx'
   clear hx
   obtain ⟨X0,ob0,hst⟩:∃ X ob,St w W0 X ob am cm ms 3 0 wr:=by
    rcases zA HS with ⟨_,h⟩ | ⟨h,_⟩
    ·exact h
    ·omega
   have hrow:=hst.ldk.row.trans (zA HROW)
   have q0:wr.cell? ⟨w.heap.size + 1 + 1,6,none⟩ = some (.int .i64 5):=za hrow rfl
   have q1:wr.cell? ⟨w.heap.size + 1 + 1,7,none⟩ = some (.func (.func 93) #[.pointer (some ⟨w.heap.size + 1,0,none⟩)] #[]):=za hrow rfl
   have hql:w.heap.size + 1 + 1 < wr.heap.size:=hst.ldk.siz
   have HA:=zB (hst.alloc (.cells #[.int .i64 5,.func (.func 93) #[.pointer (some ⟨w.heap.size + 1,0,none⟩)] #[]] 160))
   clear hst hrow HS
   go_wp2_with fail
   obtain ⟨wo,rfl⟩:∃ wo,wo = wr:=⟨_,rfl⟩
   go_loopw [39] (fun y wi=>∃ k:Nat,k <= ms.length /\ y = .int .i64 (k:Int) /\ Hid (St w W0 wo.heap.size (.cells #[.int .i64 5,.func (.func 93) #[.pointer (some ⟨w.heap.size + 1,0,none⟩)] #[]] 160) am cm ms 3 k wi)) (fun y _=>ms.length - (intOf y).toNat)
   case atStart=>exact ⟨0,Nat.zero_le _,rfl,HA⟩
   case round=>
    clear HA q0 q1
    obtain ⟨k,hk,rfl,HK⟩:=hrel
    by_cases hlt:k < ms.length
    ·have hltI:(k:Int) < (ms.length:Int):=by omega
     have b0:wr.cell? ⟨wo.heap.size,0,none⟩ = some (.int .i64 5):=za (zA HK).ldk.box rfl
     have b1:wr.cell? ⟨wo.heap.size,1,none⟩ = some (.func (.func 93) #[.pointer (some ⟨w.heap.size + 1,0,none⟩)] #[]):=za (zA HK).ldk.box rfl
     have HX:=zB (zPV (zA HG) hlt (zA HK))
     clear HK
     go_wp2_with fail
     (with_reducible refine (zA HX).mono ?_)
     rintro e w1 ⟨b,rfl,ht,hf⟩
     cases b
     ·obtain ⟨hfl,hK1⟩:=hf rfl
      have d0:w1.cell? ⟨wo.heap.size,0,none⟩ = some (.int .i64 5):=za hK1.box rfl
      have HR:=zB (show zE1 w am cm ms (.returned (.tuple #[.pointer none,.int .i64 5,.int .i64 (k:Int)])) w1.drew from Or.inl ⟨3,k,5,by omega,hlt,rfl,rfl,hfl,hK1.bel.drew⟩)
      clear ht hf hfl hK1 b0 b1
      go_wp2_with fail
      go_region
      go_wp2_with fail
      go_ret3
      exact zA HR
     ·have HN:=zB (ht rfl)
      clear ht hf b0 b1
      go_wp2_with fail
      exact ⟨⟨k + 1,by omega,by go_num,HN⟩,by simp [intOf]; omega⟩
    ·have hltI:¬ (k:Int) < (ms.length:Int):=by omega
     obtain rfl:k = ms.length:=by omega
     have HN:=zB (show Sx w W0 am cm ms 4 wr from (by have h:=zA HK; exact Or.inl ⟨by omega,_,_,zN2 h⟩))
     clear HK
     go_wp2_with fail
     exact ⟨⟨4,by omega,by first | rfl | go_num,HN⟩,by simp [intOf]⟩
  ·have hx':_ = Value.int .i64 4:=hx
   subst hx'
   clear hx
   obtain ⟨X0,ob0,hst⟩:∃ X ob,St w W0 X ob am cm ms 4 0 wr:=by
    rcases zA HS with ⟨_,h⟩ | ⟨h,_⟩
    ·exact h
    ·omega
   have hrow:=hst.ldk.row.trans (zA HROW)
   have q0:wr.cell? ⟨w.heap.size + 1 + 1,8,none⟩ = some (.int .i64 6):=za hrow rfl
   have q1:wr.cell? ⟨w.heap.size + 1 + 1,9,none⟩ = some (.func (.func 94) #[.pointer (some ⟨w.heap.size + 1,0,none⟩)] #[]):=za hrow rfl
   have hql:w.heap.size + 1 + 1 < wr.heap.size:=hst.ldk.siz
   have HA:=zB (hst.alloc (.cells #[.int .i64 6,.func (.func 94) #[.pointer (some ⟨w.heap.size + 1,0,none⟩)] #[]] 160))
   clear hst hrow HS
   go_wp2_with fail
   obtain ⟨wo,rfl⟩:∃ wo,wo = wr:=⟨_,rfl⟩
   go_loopw [39] (fun y wi=>∃ k:Nat,k <= ms.length /\ y = .int .i64 (k:Int) /\ Hid (St w W0 wo.heap.size (.cells #[.int .i64 6,.func (.func 94) #[.pointer (some ⟨w.heap.size + 1,0,none⟩)] #[]] 160) am cm ms 4 k wi)) (fun y _=>ms.length - (intOf y).toNat)
   case atStart=>exact ⟨0,Nat.zero_le _,rfl,HA⟩
   case round=>
    clear HA q0 q1
    obtain ⟨k,hk,rfl,HK⟩:=hrel
    by_cases hlt:k < ms.length
    ·have hltI:(k:Int) < (ms.length:Int):=by omega
     have b0:wr.cell? ⟨wo.heap.size,0,none⟩ = some (.int .i64 6):=za (zA HK).ldk.box rfl
     have b1:wr.cell? ⟨wo.heap.size,1,none⟩ = some (.func (.func 94) #[.pointer (some ⟨w.heap.size + 1,0,none⟩)] #[]):=za (zA HK).ldk.box rfl
     have HX:=zB (zPW (zA HG) hlt (zA HK))
     clear HK
     go_wp2_with fail
     (with_reducible refine (zA HX).mono ?_)
     rintro e w1 ⟨b,rfl,ht,hf⟩
     cases b
     ·obtain ⟨hfl,hK1⟩:=hf rfl
      have d0:w1.cell? ⟨wo.heap.size,0,none⟩ = some (.int .i64 6):=za hK1.box rfl
      have HR:=zB (show zE1 w am cm ms (.returned (.tuple #[.pointer none,.int .i64 6,.int .i64 (k:Int)])) w1.drew from Or.inl ⟨4,k,6,by omega,hlt,rfl,rfl,hfl,hK1.bel.drew⟩)
      clear ht hf hfl hK1 b0 b1
      go_wp2_with fail
      go_region
      go_wp2_with fail
      go_ret3
      exact zA HR
     ·have HN:=zB (ht rfl)
      clear ht hf b0 b1
      go_wp2_with fail
      exact ⟨⟨k + 1,by omega,by go_num,HN⟩,by simp [intOf]; omega⟩
    ·have hltI:¬ (k:Int) < (ms.length:Int):=by omega
     obtain rfl:k = ms.length:=by omega
     have HN:=zB (show Sx w W0 am cm ms 5 wr from (by have h:=zA HK; exact Or.inr ⟨rfl,_,_,h⟩))
     clear HK
     go_wp2_with fail
     exact ⟨⟨5,by omega,by first | rfl | go_num,HN⟩,by simp [intOf]⟩
theorem ScM.grw {w w':World} {C bs:Nat} {ms:List zJ} {T:Nat -> List OpR} {G:ByteArray -> Option Value} {row:Option Nat} (h:ScM w C bs ms T G) (hg:w.grownBy w' row) (hb:row ≠ some bs) (hd:∀ j,j < ms.length -> ∀ x,G (atM ms j).n = some (.agg #[x]) -> ∀ g,x.ownBlock = some g -> row ≠ some g):ScM w' C bs ms T G:=by
 refine ⟨?_,fun j hj x hx=>?_,h.apt⟩
 ·obtain ⟨m,M,hm,hM⟩:=h.mp
  exact ⟨m,M,hm.kept hg (fun e=>hb e.symm),hM⟩
 ·obtain ⟨v,rfl,hv,hb'⟩:=h.at' j hj x hx
  have hz:=hg.size
  exact ⟨v,rfl,hv.grown hg (fun g e=>hd j hj v hx g e),fun g e=>⟨(hb' g e).1,by have:=(hb' g e).2; omega⟩⟩
theorem ScH.put {w w':World} {B0 C P bs B:Nat} {am:Option Addr} {cm:Nat} {ms:List zJ} {v1:Value} {vs:List UvR} {U:List UnR} {kv:Value} {pv:Option Nat} {ks:List ByteArray} (h:ScH w B0 C P bs am cm ms v1 vs U kv pv ks) (hz:w.heap.size <= w'.heap.size) (hCB:C <= B) (hBw:B <= w.heap.size) (kl:∀ g,kv.ownBlock = some g -> g < B) (pl:∀ g,pv = some g -> g < B)
  (hs:∀ q,q < B -> q ≠ P -> w'.heap[q]? = w.heap[q]?) (hc:∀ o,o ≠ 5 -> w'.cell? ⟨P,o,none⟩ = w.cell? ⟨P,o,none⟩ /\ w'.frozen? ⟨P,o,none⟩ = w.frozen? ⟨P,o,none⟩):ScH w' B0 C P bs am cm ms v1 vs U kv pv ks:=by
 have hP:=h.hP
 have hBC:=h.hBC
 have n:=h.nm
 refine ⟨h.pg.keep hz (fun i h1 h2=>hs i (by omega) (by omega)) (hc 0 (by decide)).1 (hc 1 (by decide)).1,⟨(hc 2 (by decide)).1.trans n.c0,(hc 3 (by decide)).1.trans n.c1,(hc 2 (by decide)).2.trans n.f0,(hc 3 (by decide)).2.trans n.f1,zBJ n.row (fun g e=>hs g (kl g e) (fun x=>by rw [x] at e; exact n.nk e)),?_,n.nk,n.np,n.nn⟩,(hc 4 (by decide)).1.trans h.c4,by have:=h.hC; omega,hP,h.hbs,hBC,h.hne⟩
 rcases n.mp with h' | ⟨bm,e,h1,h2⟩
 ·exact Or.inl h'
 ·exact Or.inr ⟨bm,e,h1,h2.same (hs bm (pl bm e) (fun x=>by rw [x] at e; exact n.np e))⟩
structure RpI (w wr:World) (B C:Nat) (am:Option Addr) (cm:Nat) (ms:List zJ) (v1:Value) (vs:List UvR) (U:List UnR) (kv:Value) (pv:Option Nat) (ks:List ByteArray) (T:Nat -> List OpR) (vv:Value) (tv:List Value) (ta:List (Option Addr)) (out:List (List zD)) (G':ByteArray -> Option Value):Prop where
 sh:ScH wr (w.heap.size + 3) C (w.heap.size + 1) w.heap.size am cm ms v1 vs U kv pv ks
 sc:ScM wr C w.heap.size ms T G'
 bel:Below w.heap.size w wr
 c5:wr.cell? ⟨w.heap.size + 1,5,none⟩ = some vv
 f5:wr.frozen? ⟨w.heap.size + 1,5,none⟩ = false
 tr:TrI wr B vv tv ta out
 hz:B <= wr.heap.size
 dj:∀ j,j < ms.length -> ∀ x,G' (atM ms j).n = some (.agg #[x]) -> ∀ g,x.ownBlock = some g -> vv.ownBlock ≠ some g
theorem RpI.step {w wr W w6 w8 w4:World} {B C cc q0:Nat} {am:Option Addr} {cm:Nat} {ms:List zJ} {v1:Value} {vs:List UvR} {U:List UnR} {kv:Value} {pv:Option Nat} {ks:List ByteArray} {T:Nat -> List OpR} {vv v4:Value} {tv:List Value} {ta:List (Option Addr)} {out:List (List zD)} {G' G'':ByteArray -> Option Value} {a:Option Addr} {us:List zD}
  (h:RpI w wr B C am cm ms v1 vs U kv pv ks T vv tv ta out G') (hCB:C <= B) (kl:∀ g,kv.ownBlock = some g -> g < B) (pl:∀ g,pv = some g -> g < B) (hW:Below wr.heap.size wr W)
  (g2:ScM w6 C w.heap.size ms T G'') (g3:W.grownBy w6 (some w.heap.size)) (g5:∀ j,j < ms.length -> ∀ x,G'' (atM ms j).n = some (.agg #[x]) -> G' (atM ms j).n = some (.agg #[x]) \/ ∀ g,x.ownBlock = some g -> W.heap.size <= g)
  (h8:w6.grownBy w8 (some q0)) (hq1:wr.heap.size <= q0) (hq2:q0 < W.heap.size \/ w6.heap.size <= q0) (ho:zv w8 wr.heap.size a us) (hg:w8.grownBy w4 vv.ownBlock) (hr:zCY w4 B v4 (tv ++ [.slice a us.length cc])) (hat:v4.ownBlock = vv.ownBlock \/ ∃ q,v4.ownBlock = some q /\ w8.heap.size <= q) :
  RpI w (w4.setCell ⟨w.heap.size + 1,5,none⟩ v4) B C am cm ms v1 vs U kv pv ks T v4 (tv ++ [.slice a us.length cc]) (ta ++ [a]) (out ++ [us]) G'':=by
 have hBC:=h.sh.hBC
 have hB:=h.hz
 have z1:=hW.size
 have z2:=g3.size
 have z3:=h8.size
 have z4:=hg.size
 have zb:=h.bel.size
 have vl:∀ g,vv.ownBlock = some g -> B <= g /\ g < wr.heap.size:=fun g e=>World.ownsRow.lt h.tr.row g e
 have s8:∀ q,q < wr.heap.size -> q ≠ w.heap.size -> w8.heap[q]? = wr.heap[q]?:=fun q h1 h2=>(h8.block q (by omega) (fun e=>by injection e with e; omega)).trans ((g3.block q (by omega) (fun e=>by injection e with e; exact h2 e)).trans (hW.block q h1))
 have s4:∀ q,q < w8.heap.size -> vv.ownBlock ≠ some q -> w4.heap[q]? = w8.heap[q]?:=fun q h1 h2=>hg.block q h1 (fun e=>h2 e.symm)
 have nv:∀ q,q < B -> vv.ownBlock ≠ some q:=fun q hq e=>by have:=(vl q e).1; omega
 have zs:(w4.setCell ⟨w.heap.size + 1,5,none⟩ v4).heap.size = w4.heap.size:=by simp [World.setCell]
 have ss:∀ q,q ≠ w.heap.size + 1 -> (w4.setCell ⟨w.heap.size + 1,5,none⟩ v4).heap[q]? = w4.heap[q]?:=fun q hq=>Below.heap_setCell _ _ _ _ (by simpa using hq)
 have c4:∀ o,w4.cell? ⟨w.heap.size + 1,o,none⟩ = wr.cell? ⟨w.heap.size + 1,o,none⟩:=fun o=>(World.cell?_of_block (w:=w8) (s4 (w.heap.size + 1) (by omega) (nv (w.heap.size + 1) (by omega)))).trans (World.cell?_of_block (w:=wr) (s8 (w.heap.size + 1) (by omega) (by omega)))
 have f4:∀ o,w4.frozen? ⟨w.heap.size + 1,o,none⟩ = wr.frozen? ⟨w.heap.size + 1,o,none⟩:=fun o=>(World.frozen?_of_block (w:=w8) (s4 (w.heap.size + 1) (by omega) (nv (w.heap.size + 1) (by omega)))).trans (World.frozen?_of_block (w:=wr) (s8 (w.heap.size + 1) (by omega) (by omega)))
 have d6:∀ j,j < ms.length -> ∀ x,G'' (atM ms j).n = some (.agg #[x]) -> ∀ g,x.ownBlock = some g -> vv.ownBlock ≠ some g:=fun j hj x hx g e e2=>by
  rcases g5 j hj x hx with h1 | h1
  ·exact h.dj j hj x h1 g e e2
  ·have:=h1 g e; have:=(vl g e2).2; omega
 have lo:∀ j,j < ms.length -> ∀ x,G'' (atM ms j).n = some (.agg #[x]) -> ∀ g,x.ownBlock = some g -> C <= g /\ g < w6.heap.size:=fun j hj x hx g e=>by
  obtain ⟨x',e1,_,hb'⟩:=g2.at' j hj _ hx
  have e2:x = x':=by simpa using e1
  subst e2
  exact hb' g e
 refine ⟨?_,?_,?_,?_,?_,?_,by omega,?_⟩
 ·have s6:∀ q,q < B -> w4.heap[q]? = w6.heap[q]?:=fun q hq=>(s4 q (by omega) (nv q hq)).trans (h8.block q (by omega) (fun e=>by injection e with e; omega))
  refine ((h.sh.below hW).keep g3).put (B:=B) (by omega) hCB (by omega) kl pl (fun q hq hne=>(ss q hne).trans (s6 q hq)) (fun o ho'=>⟨?_,?_⟩)
  ·exact (World.cell?_setCell_other _ _ _ _ (by intro x; injection x with _ x; omega)).trans (World.cell?_of_block (w:=w6) (s6 (w.heap.size + 1) (by omega)))
  ·exact (World.frozen?_setCell _ _ _ _).trans (World.frozen?_of_block (w:=w6) (s6 (w.heap.size + 1) (by omega)))
 ·have nq:∀ j,j < ms.length -> ∀ x,G'' (atM ms j).n = some (.agg #[x]) -> ∀ g,x.ownBlock = some g -> (some q0:Option Nat) ≠ some g:=fun j hj x hx g e e2=>by
   injection e2 with e2
   have h6:=(lo j hj x hx g e).2
   rcases g5 j hj x hx with h1 | h1
   ·obtain ⟨x',e1,_,hb'⟩:=h.sc.at' j hj _ h1
    have e3:x = x':=by simpa using e1
    subst e3
    have:=(hb' g e).2
    omega
   ·have:=h1 g e
    omega
  exact ((g2.grw h8 (fun e=>by injection e with e; omega) nq).grw hg (nv _ (by omega)) d6).grw (ze w4 (w.heap.size + 1) 5 v4) (fun e=>by injection e with e; omega) (fun j hj x hx g e e2=>by injection e2 with e2; have:=(lo j hj x hx g e).1; omega)
 ·exact ((((h.bel.trans (hW.mono zb)).grown g3 (by omega) (fun q e=>by injection e with e; omega)).grown h8 (by omega) (fun q e=>by injection e with e; omega)).grown hg (by omega) (fun q e=>by have:=(vl q e).1; omega)).setCell (p:=⟨w.heap.size + 1,5,none⟩) (by simp) _
 ·exact World.cell?_setCell_same _ _ _ ((c4 5).trans h.c5)
 ·exact (World.frozen?_setCell _ _ _ _).trans ((f4 5).trans h.f5)
 ·exact (h.tr.step hB (by omega) (fun q h1 h2=>s8 q h2 (by omega)) ho hg hr hat).keep (by omega) (fun q h1 _=>ss q (by omega))
 ·intro j hj x hx g e e2
  rcases hat with h3 | ⟨q,h3,h4⟩
  ·exact d6 j hj x hx g e (h3.symm.trans e2)
  ·rw [h3] at e2; injection e2 with e2; have:=(lo j hj x hx g e).2; omega
theorem zMO {w w':World} (hb:Below w.heap.size w w') (q o:Nat) (v:Value):w.grownBy (w'.setCell ⟨q,o,none⟩ v) (some q):=
 ⟨hb.os,hb.tape,hb.output,by simp [World.setCell]; exact hb.size,fun i hi hne=>(Below.heap_setCell _ _ _ _ (fun e=>hne (by rw [e]))).trans (hb.block i hi)⟩
theorem zKt {w w' w'':World} {row:Option Nat} (hg:w.grownBy w' row) (hb:Below w'.heap.size w' w''):w.grownBy w'' row:=
 ⟨hb.os.trans hg.os,hb.tape.trans hg.tape,hb.output.trans hg.output,Nat.le_trans hg.size hb.size,fun i hi hne=>(hb.block i (Nat.lt_of_lt_of_le hi hg.size)).trans (hg.block i hi hne)⟩
structure RpB (w wr W8:World) (B C cc:Nat) (am:Option Addr) (cm:Nat) (ms:List zJ) (v1:Value) (vs:List UvR) (U:List UnR) (kv:Value) (pv:Option Nat) (ks:List ByteArray) (T:Nat -> List OpR) (vv:Value) (tv:List Value) (ta:List (Option Addr)) (out:List (List zD)) (G'':ByteArray -> Option Value) (a:Option Addr) (us:List zD):Prop where
 c5:W8.cell? ⟨w.heap.size + 1,5,none⟩ = some vv
 f5:W8.frozen? ⟨w.heap.size + 1,5,none⟩ = false
 row:zCY W8 B vv tv
 bel:Below w.heap.size w W8
 siz:wr.heap.size <= W8.heap.size
 step:∀ (w8 w4:World) (v4:Value),Below W8.heap.size W8 w8 -> w8.grownBy w4 vv.ownBlock -> zCY w4 B v4 (tv ++ [.slice a us.length cc]) -> (v4.ownBlock = vv.ownBlock \/ ∃ q,v4.ownBlock = some q /\ w8.heap.size <= q) -> RpI w (w4.setCell ⟨w.heap.size + 1,5,none⟩ v4) B C am cm ms v1 vs U kv pv ks T v4 (tv ++ [.slice a us.length cc]) (ta ++ [a]) (out ++ [us]) G''
theorem RpI.read {w wr W w6 W8:World} {B C cc q0:Nat} {am:Option Addr} {cm:Nat} {ms:List zJ} {v1:Value} {vs:List UvR} {U:List UnR} {kv:Value} {pv:Option Nat} {ks:List ByteArray} {T:Nat -> List OpR} {vv:Value} {tv:List Value} {ta:List (Option Addr)} {out:List (List zD)} {G' G'':ByteArray -> Option Value} {a:Option Addr} {us:List zD}
  (h:RpI w wr B C am cm ms v1 vs U kv pv ks T vv tv ta out G') (hCB:C <= B) (kl:(∀ g,kv.ownBlock = some g -> g < B) /\ ∀ g,pv = some g -> g < B) (hW:Below wr.heap.size wr W)
  (hg:ScM w6 C w.heap.size ms T G'' /\ W.grownBy w6 (some w.heap.size) /\ ∀ j,j < ms.length -> ∀ x,G'' (atM ms j).n = some (.agg #[x]) -> G' (atM ms j).n = some (.agg #[x]) \/ ∀ g,x.ownBlock = some g -> W.heap.size <= g)
  (h8:w6.grownBy W8 (some q0)) (hq1:wr.heap.size <= q0) (hq2:q0 < W.heap.size \/ w6.heap.size <= q0) (ho:zv W8 wr.heap.size a us):RpB w wr W8 B C cc am cm ms v1 vs U kv pv ks T vv tv ta out G'' a us:=by
 have hBC:=h.sh.hBC
 have hB:=h.hz
 have z1:=hW.size
 have z2:=hg.2.1.size
 have z3:=h8.size
 have zb:=h.bel.size
 have s8:∀ q,q < wr.heap.size -> q ≠ w.heap.size -> W8.heap[q]? = wr.heap[q]?:=fun q h1 h2=>(h8.block q (by omega) (fun e=>by injection e with e; omega)).trans ((hg.2.1.block q (by omega) (fun e=>by injection e with e; exact h2 e)).trans (hW.block q h1))
 refine ⟨(World.cell?_of_block (w:=wr) (s8 (w.heap.size + 1) (by omega) (by omega))).trans h.c5,(World.frozen?_of_block (w:=wr) (s8 (w.heap.size + 1) (by omega) (by omega))).trans h.f5,zBb h.tr.row (fun g e=>s8 g (World.ownsRow.lt h.tr.row g e).2 (by have:=(World.ownsRow.lt h.tr.row g e).1; omega)),?_,by omega,fun w8 w4 v4 hb hg4 hr hat=>?_⟩
 ·exact ((h.bel.trans (hW.mono zb)).grown hg.2.1 (by omega) (fun q e=>by injection e with e; omega)).grown h8 (by omega) (fun q e=>by injection e with e; omega)
 ·exact h.step hCB kl.1 kl.2 hW hg.1 hg.2.1 hg.2.2 (zKt h8 hb) hq1 hq2 (ho.step hb) hg4 hr hat
end Go.Proofs.YtokabkhnidlcnacGreatDoor
