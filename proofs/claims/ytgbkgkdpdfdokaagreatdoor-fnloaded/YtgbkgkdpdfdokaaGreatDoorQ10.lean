import Derived.Deep.DeepCutAuto
import Derived.Test.YtgbkgkdpdfdokaaGreatDoorQ09
namespace Go.Proofs.YtgbkgkdpdfdokaaGreatDoor
set_option linter.all false
set_option maxHeartbeats 16000000
set_option maxRecDepth 100000
open Go.RowKit
variable {s:ByteArray} {us:List (Nat × Nat)}
def plc (ls:List LnR):List (Nat×Nat):=ls.map fun l=>(l.f,l.t)
theorem zLO (a b:List LnR):plc (a++b)=plc a++plc b:=by simp [plc]
def zF5 (s:JZ) (k f:Nat) (ps:List (Nat×Nat)):Prop:=
 (k<=s.size/\f<=k/\(∀ j,f<=j->j<k->bt s j≠10)/\ps++pcs 10 s f=pcs 10 s 0)\/(k=s.size+1/\ps=pcs 10 s 0)
theorem zF5.start (s:JZ):zF5 s 0 0 []:=yQ ⟨yj _,yh _,fun j h1 h2=>by omega,rfl⟩
theorem zF5.skip {k f:Nat} (h:zF5 s k f us) (hk:k<s.size) (hb:bt s k≠10):zF5 s (k+1) f us:=by
 rcases h with ⟨h1,h2,h3,h4⟩ | ⟨h1,_⟩
 ·refine yQ ⟨by omega,by omega,fun j j1 j2=>?_,h4⟩
  by_cases e:j=k
  ·subst e; exact hb
  ·exact h3 j j1 (by omega)
 ·omega
theorem zF5.put {k f:Nat} (h:zF5 s k f us) (hk:k<=s.size) (hb:k=s.size\/bt s k=10):f<=k/\zF5 s (k+1) (k+1) (us++[(f,k)]):=by
 rcases h with ⟨h1,h2,h3,h4⟩ | ⟨h1,_⟩
 ·refine ⟨h2,?_⟩
  have hx:nx 10 s f=k:=zK0 (by omega) h2 h1 h3 (fun hl=>hb.elim (fun e=>by omega) (fun e=>e))
  rw [zBa 10 s f (by omega),hx] at h4
  by_cases hl:k<s.size
  ·rw [yO hl] at h4
   exact yQ ⟨by omega,yh _,fun j j1 j2=>by omega,by simpa using h4⟩
  ·rw [yN hl] at h4
   exact yR ⟨by omega,h4⟩
 ·omega
theorem zF5.fin {k f:Nat} (h:zF5 s k f us) (hk:¬ k<=s.size):us=pcs 10 s 0:=by
 rcases h with ⟨h1,_⟩ | ⟨_,h⟩
 ·omega
 ·exact h
theorem zLP (w:JY):zF4 (w.alloc (.cells #[] 72)) w.heap.size (.slice (some ⟨w.heap.size,0,none⟩) 0 0) []:=by
 have:=yD (base:=w.heap.size) (e:=72) (size:=3) w #[] 0 (yh _) (yj _) rfl
 simpa [zF4,Z1] using this
def zPz (w:JY) (s:JZ) (e:Ending) (w':JY):Prop:=∃ (g c:Nat) (ls:List LnR),e = .returned (.slice (some ⟨g,0,none⟩) ls.length c)/\w.heap.size<=g/\g<w'.heap.size/\Hid (zMw w' g ls)/\Hid (∀ l∈ls,zq w' l.wv (wds (s.extract l.f l.t)))/\Hid (plc ls=pcs 10 s 0)/\ls.length<=s.size+1/\Below w.heap.size w w'
theorem zFr (s:JZ) (w:JY) (hs:s.size<=1000000) :
  Calls Tryz.prog 24 #[.string s] w (zPz w s):=by
 obtain ⟨i0,U,b,d,D⟩:=zN zRH
 have HI:=zB U
 have HZ:=zB (yH b (yH d D))
 clear U b d D
 have HE:=zB (zLP w)
 go_enter Tryz.func24,Tryz.ntmps24
 go_wp2
 go_loopw [3,4,5] (fun out fr i wr=>∃ (k f g c:Nat) (ls:List LnR),k<=s.size+1/\f<=k/\i = .int .i64 (k:Int)/\fr = .int .i64 (f:Int)/\out = .slice (some ⟨g,0,none⟩) ls.length c/\ls.length<=k/\Hid (zF5 s k f (plc ls))/\Hid (zF4 wr w.heap.size (.slice (some ⟨g,0,none⟩) ls.length c) ls)/\Hid (zKD wr s (.slice (some ⟨g,0,none⟩) ls.length c) ls)/\Below w.heap.size w wr) (fun _ _ i _=>s.size+1-(intOf i).toNat)
 case atStart=>exact ⟨0,0,w.heap.size,0,[],yj _,yh _,rfl,rfl,rfl,yj _,zB (zF5.start s),HE,zB (fun l hl=>by cases hl),zC _ _⟩
 case round=>
  clear HE
  obtain ⟨k,f,g,c,ls,hk,hf,rfl,rfl,rfl,m,HW,HR,HL,H⟩:=hrel
  by_cases V:k<=s.size
  ·have B:(k:Int)<=(s.size:Int):=by omega
   by_cases Q:k=s.size\/bt s k=10
   ·obtain ⟨G,hp⟩:=(zA HW).put V Q
    have HP:=zB hp
    have j:((k:Int)==(s.size:Int))=true\/(((k:Int)==(s.size:Int))=false/\∃ (h:k<s.size),((s[k].toNat:Int)==10)=true):=by
     by_cases e:k=s.size
     ·left; simp [e]
     ·right
      have x:k<s.size:=by omega
      refine ⟨by simp; omega,x,?_⟩
      have hb:bt s k=10:=Q.elim (fun h=>yP h e) (fun h=>h)
      rw [ZP x,hb]; rfl
    clear Q hp
    have I:(f:Int)<=(k:Int):=by omega
    have E:(s.extract f k).size<=1000000:=by rw [Zs]; omega
    have hg:=((zA HR).lt g rfl).2
    rcases j with hc | ⟨hc,x,F⟩
    all_goals
     try have A:(k:Int)<(s.size:Int):=(by omega)
     go_wp2_with fail
     refine (zKC (s.extract f k) _ E).mono ?_
     rintro e w1 ⟨nv,rfl,hr1,hl1,hb1⟩
     obtain ⟨a1,c1,rfl⟩:=zO hr1
     have HN:=zB hr1.strs
     have C:=zB (fun q e=>hr1.lt q e)
     have y:=zB hb1
     have z1:=hb1.size
     clear hr1 hb1
     go_wp2_with (at_builtin; refine yJ _ rfl (.tmp 23) (.tmp 32) 68 rfl w.heap.size 72 i0 _ 3 40 Tryz.underlying68 (zA HI) (zA HZ).1 (zA HZ).2.1 (zA HZ).2.2 rfl (by decide) _ ls.length (Z1 ls) rfl (((zA HR).below (zA y)).below (zC _ _)) ⟨w1.heap.size,0,none⟩ 1 1 (Z1 [⟨.slice a1 (wds (s.extract f k)).length c1,f,k⟩]) rfl rfl (by simpa using zLK w1 ⟨.slice a1 (wds (s.extract f k)).length c1,f,k⟩) (fun u hu=>by simp [Z1] at hu; rcases hu with rfl | rfl | rfl <;> rfl) ?b1 ?b2 ?b3 ?next)
     case b1=>unfold maxLen; omega
     case b2=>omega
     case b3=>have:=H.size; simp; omega
     case next=>
      intro v4 w4 X K P Y
      have HO:=zB (show zF4 w4 w.heap.size v4 (ls++[⟨.slice a1 (wds (s.extract f k)).length c1,f,k⟩]) by
       unfold zF4
       rw [zG6,ym]
       exact X)
      have a:=zB (zKD.step (zA HL) ((zA y).alloc z1 _) (fun q e=>by have e':g=q:=(by simpa [Value.ownBlock] using e); omega) ((zA HN).below (zC _ _)) (fun q e=>by have:=(zA C) q e; simp; omega) K (Y.imp id (fun h=>⟨_,h,by simp⟩)))
      have v:Below w.heap.size w w4:=((H.trans ((zA y).mono H.size)).alloc (by have:=H.size; omega) _).grown K (by have:=H.size; simp; omega) (fun q hq=>((zA HR).lt q hq).1)
      obtain ⟨g4,c4,rfl⟩:∃ g4 c4,v4 = .slice (some ⟨g4,0,none⟩) (ls++[(⟨.slice a1 (wds (s.extract f k)).length c1,f,k⟩:LnR)]).length c4:=by
       have h:=zA HO
       obtain ⟨_,⟨_,h2⟩ | ⟨g',cap,L,h1,_⟩⟩:=h
       ·simp at h2
       ·exact ⟨g',cap,h1⟩
      obtain ⟨J,p⟩:∃ J,Hid (J=ls++[(⟨.slice a1 (wds (s.extract f k)).length c1,f,k⟩:LnR)]):=⟨_,zB rfl⟩
      have e4:=zA p
      rw [<- e4] at HO a
      rw [<- e4]
      clear e4 X K P Y HN C y HR HL
      go_wp2
      refine ⟨⟨k+1,k+1,g4,c4,J,by omega,yh _,by go_num,by go_num,rfl,?_,?_,HO,a,v⟩,by simp [intOf]; omega⟩
      ·rw [zA p]; simp; omega
      ·have:=zA HP
       rw [zA p,zLO]
       exact zB this
   ·have x:k<s.size:=by omega
    have A:(k:Int)<(s.size:Int):=by omega
    have hb:bt s k≠10:=fun e=>Q (yR e)
    have HP:=zB ((zA HW).skip x hb)
    have hc:((k:Int)==(s.size:Int))=false:=by simp; omega
    have F:((s[k].toNat:Int)==10)=false:=by
     rw [ZP x]
     simp only [yU,ne_eq]
     intro e
     exact hb (UInt8.toNat_inj.1 (by simpa using (by omega:(bt s k).toNat=10)))
    clear hb Q
    go_wp2
    exact ⟨⟨k+1,f,g,c,ls,by omega,by omega,by go_num,rfl,rfl,by omega,HP,HR,HL,H⟩,by simp [intOf]; omega⟩
  ·have B:¬ (k:Int)<=(s.size:Int):=by omega
   have HF:=zB ((zA HW).fin V)
   go_wp2
   go_ret
   have hg:=(zA HR).lt g rfl
   exact ⟨g,c,ls,rfl,hg.1,hg.2,zB (zA HR).ops,zB (fun l hl=>((zA HL) l hl).1),HF,by omega,H⟩
def wsL (s:JZ) (ls:List LnR) (i:Nat):List ByteArray:=wds (s.extract (atL ls i).f (atL ls i).t)
theorem zCM {ls:List LnR} {i:Nat} (h:i<ls.length):atL ls i∈ls:=by
 unfold atL
 rw [yk,yn h]
 exact List.getElem_mem h
def zOH (s:JZ) (ls:List LnR) (r:Int):Prop:=
 (r = -1/\∀ i,i<ls.length->wsL s ls i≠[Zp])\/∃ i,i<ls.length/\r=(i:Int)/\wsL s ls i=[Zp]/\∀ j,j<i->wsL s ls j≠[Zp]
theorem zFs (s:JZ) (g c:Nat) (ls:List LnR) (w:JY) (hl:ls.length<=1000001) (ho:zMw w g ls) (hw:∀ l∈ls,zq w l.wv (wds (s.extract l.f l.t))) :
  Calls Tryz.prog 25 #[.slice (some ⟨g,0,none⟩) ls.length c] w fun e w'=>∃ r:Int,e = .returned (.int .i64 r)/\zOH s ls r/\w'=w:=by
 have HO:=zB ho
 have HW:=zB hw
 clear ho hw
 go_enter Tryz.func25,Tryz.ntmps25
 go_wp2
 go_loop [3] (fun i=>∃ k:Nat,k<=ls.length/\i = .int .i64 (k:Int)/\Hid (∀ j,j<k->wsL s ls j≠[Zp])) (fun i=>ls.length-(intOf i).toNat)
 case atStart=>exact ⟨0,yj _,rfl,zB (fun j h=>by omega)⟩
 case round=>
  obtain ⟨k,hk,rfl,hn⟩:=hrel
  by_cases Q:k<ls.length
  ·have v:(k:Int)<(ls.length:Int):=by omega
   obtain ⟨o0,_,_⟩:=(zA HO) k Q
   have p:=(zA HW) _ (zCM Q)
   obtain ⟨ws,x⟩:∃ ws,ws=wsL s ls k:=⟨_,rfl⟩
   have K:zq w (atL ls k).wv ws:=by rw [x]; exact p
   have y:=zB x
   clear p x
   by_cases H:ws=[Zp]
   ·obtain ⟨gw,cw,hv,P,hc⟩:=K.lt (by rw [H]; simp)
    have k0:w.cell? ⟨gw,0,none⟩=some (.string ⟨#[98,101,103,105,110]⟩):=hc 0 _ (by rw [H]; rfl)
    have Y:ws.length=1:=by rw [H]; rfl
    rw [Y] at hv
    rw [hv] at o0
    have HB:=zB (show wsL s ls k=[Zp] by rw [<- zA y]; exact H)
    clear hc H K Y hv
    go_wp2
    go_ret
    exact ⟨_,rfl,yR ⟨k,Q,rfl,zA HB,zA hn⟩,rfl⟩
   ·have HB:=zB (show wsL s ls k≠[Zp] by rw [<- zA y]; exact H)
    have HX:=zB (show ∀ j,j<k+1->wsL s ls j≠[Zp] from fun j hj=>by
     by_cases e:j=k
     ·subst e; exact zA HB
     ·exact (zA hn) j (by omega))
    have X:(((ws.length:Int)==1)=false/\∃ a c,(atL ls k).wv = .slice a ws.length c)\/(((ws.length:Int)==1)=true/\∃ gw c q,(atL ls k).wv = .slice (some ⟨gw,0,none⟩) ws.length c/\w.cell? ⟨gw,0,none⟩=some (.string q)/\(q.toList==[98,101,103,105,110])=false):=by
     by_cases e:ws.length=1
     ·right
      obtain ⟨gw,cw,hv,P,hc⟩:=K.lt (by omega)
      match ws,e with
      | [q],_=>exact ⟨rfl,gw,cw,q,hv,hc 0 q rfl,zDW (fun ek=>H (by rw [ek]; rfl))⟩
     ·left
      obtain ⟨a,cw,hv,_⟩:=K
      exact ⟨by simp; omega,a,cw,hv⟩
    clear H K
    rcases X with ⟨J,a,cw,hv⟩ | ⟨J,gw,cw,q,hv,k0,hq⟩
    all_goals
     rw [hv] at o0
     clear hv
     try have V:(0:Int)<(ws.length:Int):=(by have:=beq_iff_eq.1 J; omega)
     go_wp2
     exact ⟨⟨k+1,by omega,by go_num,HX⟩,by simp [intOf]; omega⟩
  ·have HE:=zB (show zOH s ls (-1) from yQ ⟨rfl,fun i hi=>(zA hn) i (by omega)⟩)
   go_wp2
   go_ret
   exact ⟨_,rfl,zA HE,rfl⟩
theorem zLQ (a:Option Addr) (c n:Nat) (w:JY) (hn:n<3) :
  Calls Tryz.prog 26 #[.slice a n c] w fun e w'=>(∃ o:OpR,e = .returned (.tuple #[.agg #[.string o.s,.int .i64 o.k,.int .i64 o.l,.int .i64 o.sd],.bool false]))/\Below w.heap.size w w':=by
 have h:(n:Int)<3:=by omega
 go_enter Tryz.func26,Tryz.ntmps26
 go_wp2
 refine yK (v:=.tuple #[.agg #[.string ⟨#[]⟩,.int .i64 0,.int .i64 0,.int .i64 0],.bool false]) ?res rfl ⟨⟨OpR.zero,rfl⟩,?_⟩
 case res=>simp [results,Tryz.results26,go_sem]
 exact zC _ _
theorem zKJ (g c n:Nat) (k t l sd:JZ) (w:JY) (hn:3<=n) (Q:l.size<=maxLen) (c0:w.cell? ⟨g,0,none⟩=some (.string k)) (c1:w.cell? ⟨g,1,none⟩=some (.string t)) (c2:w.cell? ⟨g,2,none⟩=some (.string l)) (c3:4<=n->w.cell? ⟨g,3,none⟩=some (.string sd)) :
  Calls Tryz.prog 26 #[.slice (some ⟨g,0,none⟩) n c] w (zI9 w n k t l sd):=by
 have hg:g<w.heap.size:=World.block_lt_of_cell? _ _ c0
 have f:g≠w.heap.size:=by omega
 have E:¬ (n:Int)<3:=by omega
 have C:(0:Int)<(n:Int):=by omega
 have b:(1:Int)<(n:Int):=by omega
 have d:(2:Int)<(n:Int):=by omega
 have j:=zB c3
 clear c3
 cases hl:zDX l
 ·have HL:=zB (show zG5 l = -1 by unfold zG5; rw [hl]; rfl)
  have HA:=zB (zKF (n:=n) (k:=k) (t:=t) (sd:=sd) hl)
  clear hl
  go_enter Tryz.func26,Tryz.ntmps26
  go_wp2_with (go_at_call 55; refine (zDY l _ Q).mono ?_; rw [zA HL]; rintro e w1 ⟨rfl,hx⟩; obtain rfl:=hx.symm; clear hx)
  refine yK (v:=.tuple #[.agg #[.string ⟨#[]⟩,.int .i64 0,.int .i64 0,.int .i64 0],.bool false]) ?res rfl ⟨OpR.zero,false,rfl,yR ⟨rfl,zA HA⟩,?_⟩
  case res=>simp [results,Tryz.results26,go_sem]
  exact zC _ _
 obtain ⟨V,hV⟩:∃ V:Nat,V=Zy l l.size:=⟨_,rfl⟩
 have HL:=zB (show zG5 l=(V:Int) by unfold zG5; rw [hl,hV]; rfl)
 have X:=zB hl
 have HX:=zB (show ∀ W:JY,Calls Tryz.prog 55 #[.string l] W fun e w'=>e = .returned (.int .i64 (V:Int))/\w'=W from fun W=>by have h:=zDY l W Q; rw [zA HL] at h; exact h)
 have HV:=zB hV
 clear hl hV
 go_enter Tryz.func26,Tryz.ntmps26
 go_wp2_with (go_at_call 55; refine (zDY l _ Q).mono ?_; rw [zA HL]; rintro e w1 ⟨rfl,hx⟩; obtain rfl:=hx.symm; clear hx)
 go_cut [4] (fun s4 wc=>∃ b4:Nat,s4 = .pointer (some ⟨b4,0,none⟩)/\w.heap.size<b4/\b4<wc.heap.size/\Hid (zC2 wc b4 ⟨t,0,(V:Int),0⟩)/\Hid (zC2 wc w.heap.size OpR.zero)/\Hid (Below w.heap.size w wc))
 case first=>
  go_region_held (fun w'=>w'.cell? ⟨g,1,none⟩=some (.string t)/\w'.cell? ⟨g,2,none⟩=some (.string l)) (go_keep)
   (first | (go_at_call 55; have J:=(zA HX); (with_reducible refine (J _).mono ?_); rintro e w1 ⟨rfl,hx⟩; obtain rfl:=hx.symm; clear hx J))
  all_goals
   go_wp2_with fail
   go_meet
   case rel=>
    go_light
    exact ⟨w.heap.size+1,rfl,by omega,by simp,zB ⟨⟨by simp [go_sem],by simp [go_sem],by simp [go_sem],by simp [go_sem]⟩,by simp [go_sem],by simp [go_sem],by simp [go_sem],by simp [go_sem]⟩,zB ⟨⟨by simp [go_sem,OpR.zero],by simp [go_sem,OpR.zero],by simp [go_sem,OpR.zero],by simp [go_sem,OpR.zero]⟩,by simp [go_sem],by simp [go_sem],by simp [go_sem],by simp [go_sem]⟩,zB (((zC _ _).alloc (by simp) _).drew)⟩
 case rest=>
  obtain ⟨b4,rfl,F,B,u,P,H⟩:=hcut
  have HS:=zB (fun W:World=>zLI sd W)
  obtain ⟨⟨p0,p1,p2,p3⟩,f0,f1,f2,f3⟩:=zA u
  obtain ⟨⟨r0,r1,r2,r3⟩,z0,z1,z2,z3⟩:=zA P
  simp only [OpR.zero] at p0 p1 p2 p3 r0 r1 r2 r3
  have k0:wc.cell? ⟨g,0,none⟩=some (.string k):=((zA H).cell (p:=⟨g,0,none⟩) hg).trans c0
  have e1:b4≠w.heap.size:=by omega
  have e2:w.heap.size≠b4:=by omega
  have e3:b4≠g:=by omega
  have e4:g≠b4:=by omega
  have U:=zB (show 4<=n->wc.cell? ⟨g,3,none⟩=some (.string sd) from fun h=>((zA H).cell (p:=⟨g,3,none⟩) hg).trans ((zA j) h))
  clear u P j c0 c1 c2 HX HL
  cases q1:(k.toList==[112,114,101,102,105,120])
  case true=>
   have q2:(k.toList==[112,111,115,116,102,105,120])=false:=zDW (by rw [Zb q1]; decide)
   have q3:(k.toList==[105,110,102,105,120])=false:=zDW (by rw [Zb q1]; decide)
   have K:=zB (zG9 (n:=n) (t:=t) (sd:=sd) (zA X) (Zb q1))
   by_cases h3:n=3
   ·have HA:=zB (show Zv n k t l sd=some ⟨t,1,(V:Int),0⟩ by rw [zA K,yO h3,zA HV])
    have Y:((n:Int)==3)=true:=by simp; omega
    clear h3 K
    go_wp2
    refine yK (v:=.tuple #[.agg #[.string t,.int .i64 1,.int .i64 (V:Int),.int .i64 0],.bool true]) ?res rfl ⟨⟨t,1,(V:Int),0⟩,true,rfl,yQ ⟨rfl,zA HA⟩,?_⟩
    case res=>simp [results,Tryz.results26,go_sem,r0,r1,r2,r3,e1,e2,e3,e4]
    first
     | exact zK (yh _) [.string t,.int .i64 1,.int .i64 (V:Int),.int .i64 0] 0 _ ((zA H).setCell (p:=⟨b4,1,none⟩) (by show w.heap.size<=b4; omega) _)
     | exact zK (yh _) [.string t,.int .i64 1,.int .i64 (V:Int),.int .i64 0] 0 _ (((zA H).setCell (p:=⟨b4,1,none⟩) (by show w.heap.size<=b4; omega) _).setCell (p:=⟨b4,3,none⟩) (by show w.heap.size<=b4; omega) _)
   ·have HA:=zB (show Zv n k t l sd=none by rw [zA K,yN h3])
    have Y:((n:Int)==3)=false:=by simp; omega
    clear h3 K
    go_wp2_with (first | (go_at_call 56; (with_reducible refine ((zA HS) _).mono ?_); rintro e w1 ⟨rfl,hx⟩; obtain rfl:=hx.symm; clear hx))
    refine yK (v:=.tuple #[.agg #[.string ⟨#[]⟩,.int .i64 0,.int .i64 0,.int .i64 0],.bool false]) ?res rfl ⟨OpR.zero,false,rfl,yR ⟨rfl,zA HA⟩,?_⟩
    case res=>simp [results,Tryz.results26,go_sem,r0,r1,r2,r3]
    first
     | exact zA H
     | exact zK (yh _) [.string ⟨#[]⟩,.int .i64 0,.int .i64 0,.int .i64 0] 0 _ (zA H)
  cases q2:(k.toList==[112,111,115,116,102,105,120])
  case true=>
   have q3:(k.toList==[105,110,102,105,120])=false:=zDW (by rw [Zb q2]; decide)
   have K:=zB (zFp (n:=n) (t:=t) (sd:=sd) (zA X) (Zb q2))
   by_cases h3:n=3
   ·have HA:=zB (show Zv n k t l sd=some ⟨t,3,(V:Int),0⟩ by rw [zA K,yO h3,zA HV])
    have Y:((n:Int)==3)=true:=by simp; omega
    clear h3 K
    go_wp2
    refine yK (v:=.tuple #[.agg #[.string t,.int .i64 3,.int .i64 (V:Int),.int .i64 0],.bool true]) ?res rfl ⟨⟨t,3,(V:Int),0⟩,true,rfl,yQ ⟨rfl,zA HA⟩,?_⟩
    case res=>simp [results,Tryz.results26,go_sem,r0,r1,r2,r3,e1,e2,e3,e4]
    first
     | exact zK (yh _) [.string t,.int .i64 3,.int .i64 (V:Int),.int .i64 0] 0 _ ((zA H).setCell (p:=⟨b4,1,none⟩) (by show w.heap.size<=b4; omega) _)
     | exact zK (yh _) [.string t,.int .i64 3,.int .i64 (V:Int),.int .i64 0] 0 _ (((zA H).setCell (p:=⟨b4,1,none⟩) (by show w.heap.size<=b4; omega) _).setCell (p:=⟨b4,3,none⟩) (by show w.heap.size<=b4; omega) _)
   ·have HA:=zB (show Zv n k t l sd=none by rw [zA K,yN h3])
    have Y:((n:Int)==3)=false:=by simp; omega
    clear h3 K
    go_wp2_with (first | (go_at_call 56; (with_reducible refine ((zA HS) _).mono ?_); rintro e w1 ⟨rfl,hx⟩; obtain rfl:=hx.symm; clear hx))
    refine yK (v:=.tuple #[.agg #[.string ⟨#[]⟩,.int .i64 0,.int .i64 0,.int .i64 0],.bool false]) ?res rfl ⟨OpR.zero,false,rfl,yR ⟨rfl,zA HA⟩,?_⟩
    case res=>simp [results,Tryz.results26,go_sem,r0,r1,r2,r3]
    first
     | exact zA H
     | exact zK (yh _) [.string ⟨#[]⟩,.int .i64 0,.int .i64 0,.int .i64 0] 0 _ (zA H)
  cases q3:(k.toList==[105,110,102,105,120])
  case true=>
   have K:=zB (zIQ (n:=n) (t:=t) (sd:=sd) (zA X) (Zb q3))
   by_cases h4:n=4
   ·have A:((n:Int)==4)=true:=by simp; omega
    have D:(3:Int)<(n:Int):=by omega
    have k3:=(zA U) (by omega)
    obtain ⟨S,hS⟩:∃ S:Int,S=Zh sd:=⟨_,rfl⟩
    have G:=zB hS
    have y:=zG8 sd
    rw [<- hS] at y HS
    by_cases q:S=0
    ·have HA:=zB (show Zv n k t l sd=none by rw [zA K,yN (fun x=>x.2 (hS.symm.trans q))])
     have a:¬ (0:Int)<S:=by omega
     clear q K hS y h4
     go_wp2_with (first | (go_at_call 56; (with_reducible refine ((zA HS) _).mono ?_); rintro e w1 ⟨rfl,hx⟩; obtain rfl:=hx.symm; clear hx))
     refine yK (v:=.tuple #[.agg #[.string ⟨#[]⟩,.int .i64 0,.int .i64 0,.int .i64 0],.bool false]) ?res rfl ⟨OpR.zero,false,rfl,yR ⟨rfl,zA HA⟩,?_⟩
     case res=>simp [results,Tryz.results26,go_sem,r0,r1,r2,r3]
     first
      | exact zA H
      | exact zK (yh _) [.string ⟨#[]⟩,.int .i64 0,.int .i64 0,.int .i64 0] 0 _ (zA H)
    ·have HA:=zB (show Zv n k t l sd=some ⟨t,2,(V:Int),S⟩ by rw [zA K,yO ⟨h4,fun x=>q (hS.trans x)⟩,zA HV,hS])
     have a:(0:Int)<S:=by omega
     clear q K hS y h4
     go_wp2_with (first | (go_at_call 56; (with_reducible refine ((zA HS) _).mono ?_); rintro e w1 ⟨rfl,hx⟩; obtain rfl:=hx.symm; clear hx))
     refine yK (v:=.tuple #[.agg #[.string t,.int .i64 2,.int .i64 (V:Int),.int .i64 S],.bool true]) ?res rfl ⟨⟨t,2,(V:Int),S⟩,true,rfl,yQ ⟨rfl,zA HA⟩,?_⟩
     case res=>simp [results,Tryz.results26,go_sem,r0,r1,r2,r3,e1,e2,e3,e4]
     exact zK (yh _) [.string t,.int .i64 2,.int .i64 (V:Int),.int .i64 S] 0 _ (((zA H).setCell (p:=⟨b4,1,none⟩) (by show w.heap.size<=b4; omega) _).setCell (p:=⟨b4,3,none⟩) (by show w.heap.size<=b4; omega) _)
   ·have HA:=zB (show Zv n k t l sd=none by rw [zA K,yN (fun x=>h4 x.1)])
    have A:((n:Int)==4)=false:=by simp; omega
    clear h4 K
    go_wp2_with (first | (go_at_call 56; (with_reducible refine ((zA HS) _).mono ?_); rintro e w1 ⟨rfl,hx⟩; obtain rfl:=hx.symm; clear hx))
    refine yK (v:=.tuple #[.agg #[.string ⟨#[]⟩,.int .i64 0,.int .i64 0,.int .i64 0],.bool false]) ?res rfl ⟨OpR.zero,false,rfl,yR ⟨rfl,zA HA⟩,?_⟩
    case res=>simp [results,Tryz.results26,go_sem,r0,r1,r2,r3]
    first
     | exact zA H
     | exact zK (yh _) [.string ⟨#[]⟩,.int .i64 0,.int .i64 0,.int .i64 0] 0 _ (zA H)
  have HA:=zB (zIR (n:=n) (t:=t) (l:=l) (sd:=sd) (zn q1) (zn q2) (zn q3))
  go_wp2_with (first | (go_at_call 56; (with_reducible refine ((zA HS) _).mono ?_); rintro e w1 ⟨rfl,hx⟩; obtain rfl:=hx.symm; clear hx))
  refine yK (v:=.tuple #[.agg #[.string ⟨#[]⟩,.int .i64 0,.int .i64 0,.int .i64 0],.bool false]) ?res rfl ⟨OpR.zero,false,rfl,yR ⟨rfl,zA HA⟩,?_⟩
  case res=>simp [results,Tryz.results26,go_sem,r0,r1,r2,r3]
  first
   | exact zA H
   | exact zK (yh _) [.string ⟨#[]⟩,.int .i64 0,.int .i64 0,.int .i64 0] 0 _ (zA H)
end Go.Proofs.YtgbkgkdpdfdokaaGreatDoor
