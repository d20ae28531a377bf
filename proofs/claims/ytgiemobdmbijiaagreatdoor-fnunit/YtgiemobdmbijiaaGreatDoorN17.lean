import Derived.Deep.DeepCutAuto
import Derived.Deep.RegionHeld
import Derived.Test.YtgiemobdmbijiaaGreatDoorN15
namespace Go.Proofs.YtgiemobdmbijiaaGreatDoor
set_option linter.unusedSimpArgs false
set_option linter.unusedVariables false
set_option maxHeartbeats 16000000
set_option maxRecDepth 100000
open Go.RowKit
def plc (ls:List LnR):List (Nat × Nat):=ls.map fun l=>(l.f,l.t)
theorem zJy (a b:List LnR):plc (a ++ b) = plc a ++ plc b:=by simp [plc]
def zFD (s:ByteArray) (k f:Nat) (ps:List (Nat × Nat)):Prop:=
 (k <= s.size /\ f <= k /\ (∀ j,f <= j -> j < k -> bt s j ≠ 10) /\ ps ++ pcs 10 s f = pcs 10 s 0) \/ (k = s.size + 1 /\ ps = pcs 10 s 0)
theorem zFD.start (s:ByteArray):zFD s 0 0 []:=Or.inl ⟨Nat.zero_le _,Nat.le_refl _,fun j h1 h2=>by omega,rfl⟩
theorem zFD.skip {s:ByteArray} {k f:Nat} {us:List (Nat × Nat)} (h:zFD s k f us) (hk:k < s.size) (hb:bt s k ≠ 10):zFD s (k + 1) f us:=by
 rcases h with ⟨h1,h2,h3,h4⟩ | ⟨h1,_⟩
 ·refine Or.inl ⟨by omega,by omega,fun j j1 j2=>?_,h4⟩
  by_cases e:j = k
  ·subst e; exact hb
  ·exact h3 j j1 (by omega)
 ·omega
theorem zFD.put {s:ByteArray} {k f:Nat} {us:List (Nat × Nat)} (h:zFD s k f us) (hk:k <= s.size) (hb:k = s.size \/ bt s k = 10):f <= k /\ zFD s (k + 1) (k + 1) (us ++ [(f,k)]):=by
 rcases h with ⟨h1,h2,h3,h4⟩ | ⟨h1,_⟩
 ·refine ⟨h2,?_⟩
  have hx:nx 10 s f = k:=zFX (by omega) h2 h1 h3 (fun hl=>hb.elim (fun e=>by omega) (fun e=>e))
  rw [zAY 10 s f (by omega),hx] at h4
  by_cases hl:k < s.size
  ·rw [if_pos hl] at h4
   exact Or.inl ⟨by omega,Nat.le_refl _,fun j j1 j2=>by omega,by simpa using h4⟩
  ·rw [if_neg hl] at h4
   exact Or.inr ⟨by omega,h4⟩
 ·omega
theorem zFD.fin {s:ByteArray} {k f:Nat} {us:List (Nat × Nat)} (h:zFD s k f us) (hk:¬ k <= s.size):us = pcs 10 s 0:=by
 rcases h with ⟨h1,_⟩ | ⟨_,h⟩
 ·omega
 ·exact h
theorem zJz (w:World):zFC (w.alloc (.cells #[] 44)) w.heap.size (.slice (some ⟨w.heap.size,0,none⟩) 0 0) []:=by
 have:=World.ownsRow_lit (base:=w.heap.size) (e:=44) (size:=3) w #[] 0 (Nat.le_refl _) (Nat.zero_le _) rfl
 simpa [zFC,Zo] using this
def zNw (w:World) (s:ByteArray) (e:Ending) (w':World):Prop:=∃ (g c:Nat) (ls:List LnR),e = .returned (.slice (some ⟨g,0,none⟩) ls.length c) /\ w.heap.size <= g /\ g < w'.heap.size /\ Hid (zLM w' g ls) /\ Hid (∀ l ∈ ls,zz w' l.wv (wds (s.extract l.f l.t))) /\ Hid (plc ls = pcs 10 s 0) /\ ls.length <= s.size + 1 /\ Below w.heap.size w w'
theorem zE2 (s:ByteArray) (w:World) (hs:s.size <= 1000000) :
  Calls Tryz.prog 12 #[.string s] w (zNw w s):=by
 obtain ⟨i0,hi0,hz0,hz1,hz2⟩:=zQ zOz
 have HI:=zB hi0
 have HZ:=zB (And.intro hz0 (And.intro hz1 hz2))
 clear hi0 hz0 hz1 hz2
 have HE:=zB (zJz w)
 go_enter Tryz.func12,Tryz.ntmps12
 go_wp2
 go_loopw [3,4,5] (fun out fr i wr=>∃ (k f g c:Nat) (ls:List LnR),k <= s.size + 1 /\ f <= k /\ i = .int .i64 (k:Int) /\ fr = .int .i64 (f:Int) /\ out = .slice (some ⟨g,0,none⟩) ls.length c /\ ls.length <= k /\ Hid (zFD s k f (plc ls)) /\ Hid (zFC wr w.heap.size (.slice (some ⟨g,0,none⟩) ls.length c) ls) /\ Hid (zIx wr s (.slice (some ⟨g,0,none⟩) ls.length c) ls) /\ Below w.heap.size w wr) (fun _ _ i _=>s.size + 1 - (intOf i).toNat)
 case atStart=>exact ⟨0,0,w.heap.size,0,[],Nat.zero_le _,Nat.le_refl _,rfl,rfl,rfl,Nat.zero_le _,zB (zFD.start s),HE,zB (fun l hl=>by cases hl),zC _ _⟩
 case round=>
  clear HE
  obtain ⟨k,f,g,c,ls,hk,hf,rfl,rfl,rfl,hul,HW,HR,HL,hbel⟩:=hrel
  by_cases hle:k <= s.size
  ·have hleI:(k:Int) <= (s.size:Int):=by omega
   by_cases hput:k = s.size \/ bt s k = 10
   ·obtain ⟨hfk,hp⟩:=(zA HW).put hle hput
    have HP:=zB hp
    have hcond:((k:Int) == (s.size:Int)) = true \/ (((k:Int) == (s.size:Int)) = false /\ ∃ (h:k < s.size),((s[k].toNat:Int) == 10) = true):=by
     by_cases e:k = s.size
     ·left; simp [e]
     ·right
      have hlt:k < s.size:=by omega
      refine ⟨by simp; omega,hlt,?_⟩
      have hb:bt s k = 10:=hput.elim (fun h=>absurd h e) (fun h=>h)
      rw [ZH hlt,hb]; rfl
    clear hput hp
    have hfs:(f:Int) <= (k:Int):=by omega
    have hsz:(s.extract f k).size <= 1000000:=by rw [ZO]; omega
    have hg:=((zA HR).lt g rfl).2
    rcases hcond with hc | ⟨hc,hlt,hc2⟩
    all_goals
     try have hltI:(k:Int) < (s.size:Int):=(by omega)
     go_wp2_with fail
     refine (zIw (s.extract f k) _ hsz).mono ?_
     rintro e w1 ⟨nv,rfl,hr1,hl1,hb1⟩
     obtain ⟨a1,c1,rfl⟩:=zV hr1
     have HN:=zB hr1.strs
     have HNB:=zB (fun q e=>hr1.lt q e)
     have HB1:=zB hb1
     have z1:=hb1.size
     clear hr1 hb1
     go_wp2_with (at_builtin; refine wpList_append_own_at _ rfl (.tmp 23) (.tmp 32) 40 rfl w.heap.size 44 i0 _ 3 40 Tryz.underlying40 (zA HI) (zA HZ).1 (zA HZ).2.1 (zA HZ).2.2 rfl (by decide) _ ls.length (Zo ls) rfl (((zA HR).below (zA HB1)).below (zC _ _)) ⟨w1.heap.size,0,none⟩ 1 1 (Zo [⟨.slice a1 (wds (s.extract f k)).length c1,f,k⟩]) rfl rfl (by simpa using zJu w1 ⟨.slice a1 (wds (s.extract f k)).length c1,f,k⟩) (fun u hu=>by simp [Zo] at hu; rcases hu with rfl | rfl | rfl <;> rfl) ?b1 ?b2 ?b3 ?next)
     case b1=>unfold maxLen; omega
     case b2=>omega
     case b3=>have:=hbel.size; simp; omega
     case next=>
      intro v4 w4 hown4 hgrow4 hnil4 hat4
      have HO:=zB (show zFC w4 w.heap.size v4 (ls ++ [⟨.slice a1 (wds (s.extract f k)).length c1,f,k⟩]) by
       unfold zFC
       rw [zF7,List.length_append]
       exact hown4)
      have HL4:=zB (zIx.step (zA HL) ((zA HB1).alloc z1 _) (fun q e=>by have e':g = q:=(by simpa [Value.ownBlock] using e); omega) ((zA HN).below (zC _ _)) (fun q e=>by have:=(zA HNB) q e; simp; omega) hgrow4 (hat4.imp id (fun h=>⟨_,h,by simp⟩)))
      have hbel4:Below w.heap.size w w4:=((hbel.trans ((zA HB1).mono hbel.size)).alloc (by have:=hbel.size; omega) _).grown hgrow4 (by have:=hbel.size; simp; omega) (fun q hq=>((zA HR).lt q hq).1)
      obtain ⟨g4,c4,rfl⟩:∃ g4 c4,v4 = .slice (some ⟨g4,0,none⟩) (ls ++ [(⟨.slice a1 (wds (s.extract f k)).length c1,f,k⟩:LnR)]).length c4:=by
       have h:=zA HO
       obtain ⟨_,⟨_,h2⟩ | ⟨g',cap,cur,h1,_⟩⟩:=h
       ·simp at h2
       ·exact ⟨g',cap,h1⟩
      obtain ⟨ls4,HLS⟩:∃ ls4,Hid (ls4 = ls ++ [(⟨.slice a1 (wds (s.extract f k)).length c1,f,k⟩:LnR)]):=⟨_,zB rfl⟩
      have e4:=zA HLS
      rw [<- e4] at HO HL4
      rw [<- e4]
      clear e4 hown4 hgrow4 hnil4 hat4 HN HNB HB1 HR HL
      go_wp2
      refine ⟨⟨k + 1,k + 1,g4,c4,ls4,by omega,Nat.le_refl _,by go_num,by go_num,rfl,?_,?_,HO,HL4,hbel4⟩,by simp [intOf]; omega⟩
      ·rw [zA HLS]; simp; omega
      ·have:=zA HP
       rw [zA HLS,zJy]
       exact zB this
   ·have hlt:k < s.size:=by omega
    have hltI:(k:Int) < (s.size:Int):=by omega
    have hb:bt s k ≠ 10:=fun e=>hput (Or.inr e)
    have HP:=zB ((zA HW).skip hlt hb)
    have hc:((k:Int) == (s.size:Int)) = false:=by simp; omega
    have hc2:((s[k].toNat:Int) == 10) = false:=by
     rw [ZH hlt]
     simp only [beq_eq_false_iff_ne,ne_eq]
     intro e
     exact hb (UInt8.toNat_inj.1 (by simpa using (by omega:(bt s k).toNat = 10)))
    clear hb hput
    go_wp2
    exact ⟨⟨k + 1,f,g,c,ls,by omega,by omega,by go_num,rfl,rfl,by omega,HP,HR,HL,hbel⟩,by simp [intOf]; omega⟩
  ·have hleI:¬ (k:Int) <= (s.size:Int):=by omega
   have HF:=zB ((zA HW).fin hle)
   go_wp2
   go_ret
   have hg:=(zA HR).lt g rfl
   exact ⟨g,c,ls,rfl,hg.1,hg.2,zB (zA HR).ops,zB (fun l hl=>((zA HL) l hl).1),HF,by omega,hbel⟩
def wsL (s:ByteArray) (ls:List LnR) (i:Nat):List ByteArray:=wds (s.extract (atL ls i).f (atL ls i).t)
theorem zBs {ls:List LnR} {i:Nat} (h:i < ls.length):atL ls i ∈ ls:=by
 unfold atL
 rw [List.getD_eq_getElem?_getD,List.getElem?_eq_getElem h]
 exact List.getElem_mem h
def zMS (s:ByteArray) (ls:List LnR) (r:Int):Prop:=
 (r = -1 /\ ∀ i,i < ls.length -> wsL s ls i ≠ [zh]) \/ ∃ i,i < ls.length /\ r = (i:Int) /\ wsL s ls i = [zh] /\ ∀ j,j < i -> wsL s ls j ≠ [zh]
theorem zE3 (s:ByteArray) (g c:Nat) (ls:List LnR) (w:World) (hl:ls.length <= 1000001) (ho:zLM w g ls) (hw:∀ l ∈ ls,zz w l.wv (wds (s.extract l.f l.t))) :
  Calls Tryz.prog 13 #[.slice (some ⟨g,0,none⟩) ls.length c] w fun e w'=>∃ r:Int,e = .returned (.int .i64 r) /\ zMS s ls r /\ w' = w:=by
 have HO:=zB ho
 have HW:=zB hw
 clear ho hw
 go_enter Tryz.func13,Tryz.ntmps13
 go_wp2
 go_loop [3] (fun i=>∃ k:Nat,k <= ls.length /\ i = .int .i64 (k:Int) /\ Hid (∀ j,j < k -> wsL s ls j ≠ [zh])) (fun i=>ls.length - (intOf i).toNat)
 case atStart=>exact ⟨0,Nat.zero_le _,rfl,zB (fun j h=>by omega)⟩
 case round=>
  obtain ⟨k,hk,rfl,hn⟩:=hrel
  by_cases hlt:k < ls.length
  ·have hltI:(k:Int) < (ls.length:Int):=by omega
   obtain ⟨o0,_,_⟩:=(zA HO) k hlt
   have hst:=(zA HW) _ (zBs hlt)
   obtain ⟨ws,hws⟩:∃ ws,ws = wsL s ls k:=⟨_,rfl⟩
   have hst2:zz w (atL ls k).wv ws:=by rw [hws]; exact hst
   have HWS:=zB hws
   clear hst hws
   by_cases hbeg:ws = [zh]
   ·obtain ⟨gw,cw,hv,hgw,hc⟩:=hst2.lt (by rw [hbeg]; simp)
    have k0:w.cell? ⟨gw,0,none⟩ = some (.string ⟨#[98,101,103,105,110]⟩):=hc 0 _ (by rw [hbeg]; rfl)
    have hl1:ws.length = 1:=by rw [hbeg]; rfl
    rw [hl1] at hv
    rw [hv] at o0
    have HB:=zB (show wsL s ls k = [zh] by rw [<- zA HWS]; exact hbeg)
    clear hc hbeg hst2 hl1 hv
    go_wp2
    go_ret
    exact ⟨_,rfl,Or.inr ⟨k,hlt,rfl,zA HB,zA hn⟩,rfl⟩
   ·have HB:=zB (show wsL s ls k ≠ [zh] by rw [<- zA HWS]; exact hbeg)
    have HX:=zB (show ∀ j,j < k + 1 -> wsL s ls j ≠ [zh] from fun j hj=>by
     by_cases e:j = k
     ·subst e; exact zA HB
     ·exact (zA hn) j (by omega))
    have hcond:(((ws.length:Int) == 1) = false /\ ∃ a c,(atL ls k).wv = .slice a ws.length c) \/ (((ws.length:Int) == 1) = true /\ ∃ gw c q,(atL ls k).wv = .slice (some ⟨gw,0,none⟩) ws.length c /\ w.cell? ⟨gw,0,none⟩ = some (.string q) /\ (q.toList == [98,101,103,105,110]) = false):=by
     by_cases e:ws.length = 1
     ·right
      obtain ⟨gw,cw,hv,hgw,hc⟩:=hst2.lt (by omega)
      match ws,e with
      | [q],_=>exact ⟨rfl,gw,cw,q,hv,hc 0 q rfl,zCt (fun ek=>hbeg (by rw [ek]; rfl))⟩
     ·left
      obtain ⟨a,cw,hv,_⟩:=hst2
      exact ⟨by simp; omega,a,cw,hv⟩
    clear hbeg hst2
    rcases hcond with ⟨hc1,a,cw,hv⟩ | ⟨hc1,gw,cw,q,hv,k0,hq⟩
    all_goals
     rw [hv] at o0
     clear hv
     try have h00:(0:Int) < (ws.length:Int):=(by have:=beq_iff_eq.1 hc1; omega)
     go_wp2
     exact ⟨⟨k + 1,by omega,by go_num,HX⟩,by simp [intOf]; omega⟩
  ·have HE:=zB (show zMS s ls (-1) from Or.inl ⟨rfl,fun i hi=>(zA hn) i (by omega)⟩)
   go_wp2
   go_ret
   exact ⟨_,rfl,zA HE,rfl⟩
theorem zJ0 (a:Option Addr) (c n:Nat) (w:World) (hn:n < 3) :
  Calls Tryz.prog 14 #[.slice a n c] w fun e w'=>(∃ o:OpR,e = .returned (.tuple #[.agg #[.string o.s,.int .i64 o.k,.int .i64 o.l,.int .i64 o.sd],.bool false])) /\ Below w.heap.size w w':=by
 have hnI:(n:Int) < 3:=by omega
 go_enter Tryz.func14,Tryz.ntmps14
 go_wp2
 refine bodyPost_ret (v:=.tuple #[.agg #[.string ⟨#[]⟩,.int .i64 0,.int .i64 0,.int .i64 0],.bool false]) ?res rfl ⟨⟨OpR.zero,rfl⟩,?_⟩
 case res=>simp [results,Tryz.results14,go_sem]
 exact zC _ _
theorem zI3 (g c n:Nat) (k t l sd:ByteArray) (w:World) (hn:3 <= n) (hsl:l.size <= maxLen) (c0:w.cell? ⟨g,0,none⟩ = some (.string k)) (c1:w.cell? ⟨g,1,none⟩ = some (.string t)) (c2:w.cell? ⟨g,2,none⟩ = some (.string l)) (c3:4 <= n -> w.cell? ⟨g,3,none⟩ = some (.string sd)) :
  Calls Tryz.prog 14 #[.slice (some ⟨g,0,none⟩) n c] w (zHv w n k t l sd):=by
 have hg:g < w.heap.size:=World.block_lt_of_cell? _ _ c0
 have hg2:g ≠ w.heap.size:=by omega
 have hnI:¬ (n:Int) < 3:=by omega
 have hnI0:(0:Int) < (n:Int):=by omega
 have hnI1:(1:Int) < (n:Int):=by omega
 have hnI2:(2:Int) < (n:Int):=by omega
 have HC3:=zB c3
 clear c3
 cases hl:zCu l
 ·have HL:=zB (show zF6 l = -1 by unfold zF6; rw [hl]; rfl)
  have HA:=zB (zIz (n:=n) (k:=k) (t:=t) (sd:=sd) hl)
  clear hl
  go_enter Tryz.func14,Tryz.ntmps14
  go_wp2_with (go_at_call 23; refine (zCv l _ hsl).mono ?_; rw [zA HL]; rintro e w1 ⟨rfl,hx⟩; obtain rfl:=hx.symm; clear hx)
  refine bodyPost_ret (v:=.tuple #[.agg #[.string ⟨#[]⟩,.int .i64 0,.int .i64 0,.int .i64 0],.bool false]) ?res rfl ⟨OpR.zero,false,rfl,Or.inr ⟨rfl,zA HA⟩,?_⟩
  case res=>simp [results,Tryz.results14,go_sem]
  exact zC _ _
 obtain ⟨V,hV⟩:∃ V:Nat,V = zx l l.size:=⟨_,rfl⟩
 have HL:=zB (show zF6 l = (V:Int) by unfold zF6; rw [hl,hV]; rfl)
 have HLB:=zB hl
 have HX:=zB (show ∀ W:World,Calls Tryz.prog 23 #[.string l] W fun e w'=>e = .returned (.int .i64 (V:Int)) /\ w' = W from fun W=>by have h:=zCv l W hsl; rw [zA HL] at h; exact h)
 have HV:=zB hV
 clear hl hV
 go_enter Tryz.func14,Tryz.ntmps14
 go_wp2_with (go_at_call 23; refine (zCv l _ hsl).mono ?_; rw [zA HL]; rintro e w1 ⟨rfl,hx⟩; obtain rfl:=hx.symm; clear hx)
 go_cut [4] (fun s4 wc=>∃ b4:Nat,s4 = .pointer (some ⟨b4,0,none⟩) /\ w.heap.size < b4 /\ b4 < wc.heap.size /\ Hid (zCR wc b4 ⟨t,0,(V:Int),0⟩) /\ Hid (zCR wc w.heap.size OpR.zero) /\ Hid (Below w.heap.size w wc))
 case first=>
  go_region_held (fun w'=>w'.cell? ⟨g,1,none⟩ = some (.string t) /\ w'.cell? ⟨g,2,none⟩ = some (.string l)) (go_keep)
   (first | (go_at_call 23; have HX1:=(zA HX); (with_reducible refine (HX1 _).mono ?_); rintro e w1 ⟨rfl,hx⟩; obtain rfl:=hx.symm; clear hx HX1))
  all_goals
   go_wp2_with fail
   go_meet
   case rel=>
    go_light
    exact ⟨w.heap.size + 1,rfl,by omega,by simp,zB ⟨⟨by simp [go_sem],by simp [go_sem],by simp [go_sem],by simp [go_sem]⟩,by simp [go_sem],by simp [go_sem],by simp [go_sem],by simp [go_sem]⟩,zB ⟨⟨by simp [go_sem,OpR.zero],by simp [go_sem,OpR.zero],by simp [go_sem,OpR.zero],by simp [go_sem,OpR.zero]⟩,by simp [go_sem],by simp [go_sem],by simp [go_sem],by simp [go_sem]⟩,zB (((zC _ _).alloc (by simp) _).drew)⟩
 case rest=>
  obtain ⟨b4,rfl,hb4,hb4l,HB4,HB0,HBW⟩:=hcut
  have HS:=zB (fun W:World=>zJs sd W)
  obtain ⟨⟨p0,p1,p2,p3⟩,f0,f1,f2,f3⟩:=zA HB4
  obtain ⟨⟨r0,r1,r2,r3⟩,z0,z1,z2,z3⟩:=zA HB0
  simp only [OpR.zero] at p0 p1 p2 p3 r0 r1 r2 r3
  have k0:wc.cell? ⟨g,0,none⟩ = some (.string k):=((zA HBW).cell (p:=⟨g,0,none⟩) hg).trans c0
  have e1:b4 ≠ w.heap.size:=by omega
  have e2:w.heap.size ≠ b4:=by omega
  have e3:b4 ≠ g:=by omega
  have e4:g ≠ b4:=by omega
  have HK3:=zB (show 4 <= n -> wc.cell? ⟨g,3,none⟩ = some (.string sd) from fun h=>((zA HBW).cell (p:=⟨g,3,none⟩) hg).trans ((zA HC3) h))
  clear HB4 HB0 HC3 c0 c1 c2 HX HL
  cases q1:(k.toList == [112,114,101,102,105,120])
  case true=>
   have q2:(k.toList == [112,111,115,116,102,105,120]) = false:=zCt (by rw [ZW q1]; decide)
   have q3:(k.toList == [105,110,102,105,120]) = false:=zCt (by rw [ZW q1]; decide)
   have HA0:=zB (zGA (n:=n) (t:=t) (sd:=sd) (zA HLB) (ZW q1))
   by_cases h3:n = 3
   ·have HA:=zB (show Zm n k t l sd = some ⟨t,1,(V:Int),0⟩ by rw [zA HA0,if_pos h3,zA HV])
    have h3I:((n:Int) == 3) = true:=by simp; omega
    clear h3 HA0
    go_wp2
    refine bodyPost_ret (v:=.tuple #[.agg #[.string t,.int .i64 1,.int .i64 (V:Int),.int .i64 0],.bool true]) ?res rfl ⟨⟨t,1,(V:Int),0⟩,true,rfl,Or.inl ⟨rfl,zA HA⟩,?_⟩
    case res=>simp [results,Tryz.results14,go_sem,r0,r1,r2,r3,e1,e2,e3,e4]
    first
     | exact zJ (Nat.le_refl _) [.string t,.int .i64 1,.int .i64 (V:Int),.int .i64 0] 0 _ ((zA HBW).setCell (p:=⟨b4,1,none⟩) (by show w.heap.size <= b4; omega) _)
     | exact zJ (Nat.le_refl _) [.string t,.int .i64 1,.int .i64 (V:Int),.int .i64 0] 0 _ (((zA HBW).setCell (p:=⟨b4,1,none⟩) (by show w.heap.size <= b4; omega) _).setCell (p:=⟨b4,3,none⟩) (by show w.heap.size <= b4; omega) _)
   ·have HA:=zB (show Zm n k t l sd = none by rw [zA HA0,if_neg h3])
    have h3I:((n:Int) == 3) = false:=by simp; omega
    clear h3 HA0
    go_wp2_with (first | (go_at_call 24; (with_reducible refine ((zA HS) _).mono ?_); rintro e w1 ⟨rfl,hx⟩; obtain rfl:=hx.symm; clear hx))
    refine bodyPost_ret (v:=.tuple #[.agg #[.string ⟨#[]⟩,.int .i64 0,.int .i64 0,.int .i64 0],.bool false]) ?res rfl ⟨OpR.zero,false,rfl,Or.inr ⟨rfl,zA HA⟩,?_⟩
    case res=>simp [results,Tryz.results14,go_sem,r0,r1,r2,r3]
    first
     | exact zA HBW
     | exact zJ (Nat.le_refl _) [.string ⟨#[]⟩,.int .i64 0,.int .i64 0,.int .i64 0] 0 _ (zA HBW)
  cases q2:(k.toList == [112,111,115,116,102,105,120])
  case true=>
   have q3:(k.toList == [105,110,102,105,120]) = false:=zCt (by rw [ZW q2]; decide)
   have HA0:=zB (zE1 (n:=n) (t:=t) (sd:=sd) (zA HLB) (ZW q2))
   by_cases h3:n = 3
   ·have HA:=zB (show Zm n k t l sd = some ⟨t,3,(V:Int),0⟩ by rw [zA HA0,if_pos h3,zA HV])
    have h3I:((n:Int) == 3) = true:=by simp; omega
    clear h3 HA0
    go_wp2
    refine bodyPost_ret (v:=.tuple #[.agg #[.string t,.int .i64 3,.int .i64 (V:Int),.int .i64 0],.bool true]) ?res rfl ⟨⟨t,3,(V:Int),0⟩,true,rfl,Or.inl ⟨rfl,zA HA⟩,?_⟩
    case res=>simp [results,Tryz.results14,go_sem,r0,r1,r2,r3,e1,e2,e3,e4]
    first
     | exact zJ (Nat.le_refl _) [.string t,.int .i64 3,.int .i64 (V:Int),.int .i64 0] 0 _ ((zA HBW).setCell (p:=⟨b4,1,none⟩) (by show w.heap.size <= b4; omega) _)
     | exact zJ (Nat.le_refl _) [.string t,.int .i64 3,.int .i64 (V:Int),.int .i64 0] 0 _ (((zA HBW).setCell (p:=⟨b4,1,none⟩) (by show w.heap.size <= b4; omega) _).setCell (p:=⟨b4,3,none⟩) (by show w.heap.size <= b4; omega) _)
   ·have HA:=zB (show Zm n k t l sd = none by rw [zA HA0,if_neg h3])
    have h3I:((n:Int) == 3) = false:=by simp; omega
    clear h3 HA0
    go_wp2_with (first | (go_at_call 24; (with_reducible refine ((zA HS) _).mono ?_); rintro e w1 ⟨rfl,hx⟩; obtain rfl:=hx.symm; clear hx))
    refine bodyPost_ret (v:=.tuple #[.agg #[.string ⟨#[]⟩,.int .i64 0,.int .i64 0,.int .i64 0],.bool false]) ?res rfl ⟨OpR.zero,false,rfl,Or.inr ⟨rfl,zA HA⟩,?_⟩
    case res=>simp [results,Tryz.results14,go_sem,r0,r1,r2,r3]
    first
     | exact zA HBW
     | exact zJ (Nat.le_refl _) [.string ⟨#[]⟩,.int .i64 0,.int .i64 0,.int .i64 0] 0 _ (zA HBW)
  cases q3:(k.toList == [105,110,102,105,120])
  case true=>
   have HA0:=zB (zHC (n:=n) (t:=t) (sd:=sd) (zA HLB) (ZW q3))
   by_cases h4:n = 4
   ·have h4I:((n:Int) == 4) = true:=by simp; omega
    have h4J:(3:Int) < (n:Int):=by omega
    have k3:=(zA HK3) (by omega)
    obtain ⟨S,hS⟩:∃ S:Int,S = ZM sd:=⟨_,rfl⟩
    have HSS:=zB hS
    have HSC:=zF9 sd
    rw [<- hS] at HSC HS
    by_cases hs0:S = 0
    ·have HA:=zB (show Zm n k t l sd = none by rw [zA HA0,if_neg (fun x=>x.2 (hS.symm.trans hs0))])
     have hsI:¬ (0:Int) < S:=by omega
     clear hs0 HA0 hS HSC h4
     go_wp2_with (first | (go_at_call 24; (with_reducible refine ((zA HS) _).mono ?_); rintro e w1 ⟨rfl,hx⟩; obtain rfl:=hx.symm; clear hx))
     refine bodyPost_ret (v:=.tuple #[.agg #[.string ⟨#[]⟩,.int .i64 0,.int .i64 0,.int .i64 0],.bool false]) ?res rfl ⟨OpR.zero,false,rfl,Or.inr ⟨rfl,zA HA⟩,?_⟩
     case res=>simp [results,Tryz.results14,go_sem,r0,r1,r2,r3]
     first
      | exact zA HBW
      | exact zJ (Nat.le_refl _) [.string ⟨#[]⟩,.int .i64 0,.int .i64 0,.int .i64 0] 0 _ (zA HBW)
    ·have HA:=zB (show Zm n k t l sd = some ⟨t,2,(V:Int),S⟩ by rw [zA HA0,if_pos ⟨h4,fun x=>hs0 (hS.trans x)⟩,zA HV,hS])
     have hsI:(0:Int) < S:=by omega
     clear hs0 HA0 hS HSC h4
     go_wp2_with (first | (go_at_call 24; (with_reducible refine ((zA HS) _).mono ?_); rintro e w1 ⟨rfl,hx⟩; obtain rfl:=hx.symm; clear hx))
     refine bodyPost_ret (v:=.tuple #[.agg #[.string t,.int .i64 2,.int .i64 (V:Int),.int .i64 S],.bool true]) ?res rfl ⟨⟨t,2,(V:Int),S⟩,true,rfl,Or.inl ⟨rfl,zA HA⟩,?_⟩
     case res=>simp [results,Tryz.results14,go_sem,r0,r1,r2,r3,e1,e2,e3,e4]
     exact zJ (Nat.le_refl _) [.string t,.int .i64 2,.int .i64 (V:Int),.int .i64 S] 0 _ (((zA HBW).setCell (p:=⟨b4,1,none⟩) (by show w.heap.size <= b4; omega) _).setCell (p:=⟨b4,3,none⟩) (by show w.heap.size <= b4; omega) _)
   ·have HA:=zB (show Zm n k t l sd = none by rw [zA HA0,if_neg (fun x=>h4 x.1)])
    have h4I:((n:Int) == 4) = false:=by simp; omega
    clear h4 HA0
    go_wp2_with (first | (go_at_call 24; (with_reducible refine ((zA HS) _).mono ?_); rintro e w1 ⟨rfl,hx⟩; obtain rfl:=hx.symm; clear hx))
    refine bodyPost_ret (v:=.tuple #[.agg #[.string ⟨#[]⟩,.int .i64 0,.int .i64 0,.int .i64 0],.bool false]) ?res rfl ⟨OpR.zero,false,rfl,Or.inr ⟨rfl,zA HA⟩,?_⟩
    case res=>simp [results,Tryz.results14,go_sem,r0,r1,r2,r3]
    first
     | exact zA HBW
     | exact zJ (Nat.le_refl _) [.string ⟨#[]⟩,.int .i64 0,.int .i64 0,.int .i64 0] 0 _ (zA HBW)
  have HA:=zB (zHD (n:=n) (t:=t) (l:=l) (sd:=sd) (zj q1) (zj q2) (zj q3))
  go_wp2_with (first | (go_at_call 24; (with_reducible refine ((zA HS) _).mono ?_); rintro e w1 ⟨rfl,hx⟩; obtain rfl:=hx.symm; clear hx))
  refine bodyPost_ret (v:=.tuple #[.agg #[.string ⟨#[]⟩,.int .i64 0,.int .i64 0,.int .i64 0],.bool false]) ?res rfl ⟨OpR.zero,false,rfl,Or.inr ⟨rfl,zA HA⟩,?_⟩
  case res=>simp [results,Tryz.results14,go_sem,r0,r1,r2,r3]
  first
   | exact zA HBW
   | exact zJ (Nat.le_refl _) [.string ⟨#[]⟩,.int .i64 0,.int .i64 0,.int .i64 0] 0 _ (zA HBW)
end Go.Proofs.YtgiemobdmbijiaaGreatDoor
