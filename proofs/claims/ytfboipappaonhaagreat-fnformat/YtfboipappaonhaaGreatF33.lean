import Derived.WalkMore
import Derived.Deep.LoopGhost
import Derived.Test.YtfboipappaonhaaGreatF31
import Derived.Test.YtfboipappaonhaaGreatF32
namespace Go.Proofs.YtfboipappaonhaaGreat
set_option maxHeartbeats 16000000
set_option maxRecDepth 100000
open Go.RowKit Go.Maps
theorem Z9 (c:UInt8) (k:Int) (w:World) (h:(cls c:Int)=k) :
  Calls Tryz.prog 125 #[.int .u8 (c.toNat:Int)] w fun e w'=>e = .returned (.int .i64 k)/\w'=w:=by
 subst h
 exact Zm c w
theorem Idx.of_blocks {w w':World} {bo bs n:Nat} {xs:List OpR} (h:Idx w bo bs xs n) (h1:w'.heap[bo]?=w.heap[bo]?) (h2:w'.heap[bs]?=w.heap[bs]?):Idx w' bo bs xs n:=by
 obtain ⟨⟨D,⟨es,clock,hb,F,hs,hD⟩,a2⟩,⟨E,⟨es',clock',hb',F',hs',hD'⟩,a4⟩,a5⟩:=h
 exact ⟨⟨D,⟨es,clock,h1.trans hb,F,hs,hD⟩,a2⟩,⟨E,⟨es',clock',h2.trans hb',F',hs',hD'⟩,a4⟩,a5⟩
structure zCM (w wr:World) (p bo bs L:Nat) (xs:List OpR) (s:ByteArray) (gap start:Nat) (acc:List zK) (v:Value):Prop where
 sc:Sc wr p bo bs L s gap start v
 own:wr.ownsRow p 97 3 v acc.length (zk acc)
 ne:v.ownBlock≠some p
 idx:Idx wr bo bs xs xs.length
 bel:Below p w wr
 rd:zG8 xs s gap acc
 bl:zDI s gap start
 le1:gap<=start
 le2:start<=s.size
 hbo:bo<p
 hbs:bs<p
theorem zCM.lt {w wr:World} {p bo bs L gap start:Nat} {xs:List OpR} {s:ByteArray} {acc:List zK} {v:Value} (h:zCM w wr p bo bs L xs s gap start acc v):p<wr.heap.size:=block_lt_of_cell h.sc.c0
theorem zCM.below {w wr w':World} {p bo bs L gap start:Nat} {xs:List OpR} {s:ByteArray} {acc:List zK} {v:Value} (h:zCM w wr p bo bs L xs s gap start acc v) (hb:Below wr.heap.size wr w'):zCM w w' p bo bs L xs s gap start acc v:=by
 have hp:=h.lt
 obtain ⟨⟨c0,c1,c2,c3,c4,c5,c6,fz⟩,own,ne,idx,bel,rd,bl,le1,le2,hbo,hbs⟩:=h
 have e:=fun o=>hb.cell (p:=⟨p,o,none⟩) hp
 exact ⟨⟨(e _).trans c0,(e _).trans c1,(e _).trans c2,(e _).trans c3,(e _).trans c4,(e _).trans c5,(e _).trans c6,fun o=>(hb.frozen (p:=⟨p,o,none⟩) hp).trans (fz o)⟩,
  own.kept (Zb hb none) (Classical.em _),ne,idx.kept hb,bel.trans (hb.mono (Nat.le_of_lt hp)),rd,bl,le1,le2,hbo,hbs⟩
theorem zCM.drew {w wr:World} {p bo bs L gap start:Nat} {xs:List OpR} {s:ByteArray} {acc:List zK} {v:Value} (h:zCM w wr p bo bs L xs s gap start acc v):zCM w wr.drew p bo bs L xs s gap start acc v:=
 h.below (Below.refl _ _).drew
theorem zCM.blank {w wr:World} {p bo bs L gap start:Nat} {xs:List OpR} {s:ByteArray} {acc:List zK} {v:Value} (h:zCM w wr p bo bs L xs s gap start acc v) (hlt:start<s.size) (hc:cls (bt s start)=1) (n:Int) (hn:n=((start+1:Nat):Int)) :
  zCM w (wr.setCell ⟨p,5,none⟩ (.int .i64 n)) p bo bs L xs s gap (start+1) acc v:=by
 subst hn
 obtain ⟨⟨c0,c1,c2,c3,c4,c5,c6,fz⟩,own,ne,idx,bel,rd,bl,le1,le2,hbo,hbs⟩:=h
 have e:∀ o,o≠5->(wr.setCell ⟨p,5,none⟩ (.int .i64 ((start+1:Nat):Int))).cell? ⟨p,o,none⟩=wr.cell? ⟨p,o,none⟩:=fun o ho=>World.cell?_setCell_other _ _ _ _ (by simp)
 refine ⟨⟨(e _ (by omega)).trans c0,(e _ (by omega)).trans c1,(e _ (by omega)).trans c2,(e _ (by omega)).trans c3,(e _ (by omega)).trans c4,World.cell?_setCell_same _ _ _ c5,(e _ (by omega)).trans c6,fun o=>by rw [World.frozen?_setCell]; exact fz o⟩,
  own.kept (zBZ _ p 5 _) (Or.inr ne),ne,idx.set (by omega) (by omega),bel.setCell (Nat.le_refl _) _,rd,fun q h1 h2=>?_,by omega,by omega,hbo,hbs⟩
 by_cases e:q=start
 ·subst e; exact hc
 ·exact bl q h1 (by omega)
theorem zCM.fin {w wr w':World} {p bo bs L gap start q kind g cap:Nat} {xs:List OpR} {s:ByteArray} {acc:List zK} {v:Value} (h:zCM w wr p bo bs L xs s gap start acc v)
  (hsc:Sc w' p bo bs L s q q (.slice (some ⟨g,0,none⟩) (acc.length+1) cap)) (hown:w'.ownsRow p 97 3 (.slice (some ⟨g,0,none⟩) (acc.length+1) cap) (acc.length+1) (zk (acc++[⟨(kind:Int),s.extract gap start,s.extract start q⟩])))
  (hg:g≠p) (hk:zAB wr w' p v.ownBlock) (hlt:start<s.size) (hnb:cls (bt s start)≠1) (htok:zBS xs s start (q-start) kind) (hq:start<=q) :
  zCM w w' p bo bs L xs s q q (acc++[⟨(kind:Int),s.extract gap start,s.extract start q⟩]) (.slice (some ⟨g,0,none⟩) (acc.length+1) cap):=by
 have hp:=h.lt
 have hrow:∀ b:Nat,b<p->some b≠v.ownBlock:=fun b hb e=>by
  have:=(h.own.lt b e.symm).1
  omega
 have hqe:start+(q-start)=q:=by omega
 have hrd:=h.rd.step h.le1 hlt h.bl hnb htok
 rw [hqe] at hrd
 refine ⟨hsc,?_,by simp [Value.ownBlock]; exact hg,h.idx.of_blocks (hk.block bo (by have:=h.hbo; omega) (by have:=h.hbo; omega) (hrow _ h.hbo)) (hk.block bs (by have:=h.hbs; omega) (by have:=h.hbs; omega) (hrow _ h.hbs)),?_,hrd,fun q' h1 h2=>by omega,Nat.le_refl _,?_,h.hbo,h.hbs⟩
 ·rw [List.length_append]
  exact hown
 ·exact h.bel.trans ⟨hk.os,hk.tape,hk.output,hk.size,fun i hi=>hk.block i (by omega) (by omega) (hrow i hi)⟩
 ·have:=htok.2.1
  omega
theorem zIb (p bo bs L:Nat) (xs:List OpR) (s:ByteArray) (gap start:Nat) (v:Value) (kind q:Nat) (kz qz:Int) (acc:List zK) (w W:World) (h:zCM w W p bo bs L xs s gap start acc v) (hs:s.size<=20000) (h2:start<=q) (hq:q<=s.size) (hkz:kz=(kind:Int)) (hqz:qz=(q:Int)) :
  Calls Tryz.prog 127 #[.pointer (some ⟨p,0,none⟩),.int .i64 kz,.int .i64 qz] W fun e w'=>e = .returned (.tuple #[])/\∃ g cap:Nat,Hid (Sc w' p bo bs L s q q (.slice (some ⟨g,0,none⟩) (acc.length+1) cap))/\Hid (w'.ownsRow p 97 3 (.slice (some ⟨g,0,none⟩) (acc.length+1) cap) (acc.length+1) (zk (acc++[⟨(kind:Int),s.extract gap start,s.extract start q⟩])))/\g≠p/\zAB W w' p v.ownBlock:=by
 subst hkz hqz
 have h1:=h.rd.1
 have h3:=h.le1
 have h4:=h.le2
 exact zLP p bo bs L s gap start v kind q p acc W h.sc h.le1 h2 hq h.own h.ne (by omega) (Nat.le_of_lt h.lt)
theorem zA5 (p bo bs L:Nat) (xs:List OpR) (s:ByteArray) (gap start:Nat) (v:Value) (kind q:Nat) (kz qz:Int) (acc:List zK) (w W:World) (h:zCM w W p bo bs L xs s gap start acc v) (hs:s.size<=20000) (h2:start<=q) (hq:q<=s.size) (hkz:kz=(kind:Int)) (hqz:qz=(q:Int)) (hlt:start<s.size) (hnb:cls (bt s start)≠1) (htok:zBS xs s start (q-start) kind) :
  Calls Tryz.prog 127 #[.pointer (some ⟨p,0,none⟩),.int .i64 kz,.int .i64 qz] W fun e w'=>e = .returned (.tuple #[])/\∃ (acc':List zK) (v':Value),Hid (zCM w w' p bo bs L xs s q q acc' v'):=by
 refine (zIb p bo bs L xs s gap start v kind q kz qz acc w W h hs h2 hq hkz hqz).mono ?_
 rintro e w' ⟨rfl,g,cap,a,b,c,d⟩
 exact ⟨rfl,_,_,zB (h.fin (zA a) (zA b) c d hlt hnb htok h2)⟩
theorem zJb (s:ByteArray) (i:Nat):s.extract i i=⟨#[]⟩:=by
 apply ByteArray.ext
 rw [ByteArray.data_extract]
 simp
 omega
theorem zQP {s:ByteArray} {i q:Nat} (h:i<=q):s.extract i q=sub s i (q-i):=by
 unfold sub
 rw [show i+(q-i)=q by omega]
theorem zLR (w:World):Calls Tryz.prog 128 #[.int .i64 2] w fun e w'=>e = .returned (.int .i64 1)/\w'=w:=by
 go_enter Tryz.func128,Tryz.ntmps128
 go_wp2
 go_ret
 exact ⟨rfl,rfl⟩
theorem zLS (w:World):Calls Tryz.prog 128 #[.int .i64 3] w fun e w'=>e = .returned (.int .i64 2)/\w'=w:=by
 go_enter Tryz.func128,Tryz.ntmps128
 go_wp2
 go_ret
 exact ⟨rfl,rfl⟩
theorem zKa (p bo bs L:Nat) (xs:List OpR) (s:ByteArray) (w:World) (h:zCM w w p bo bs L xs s 0 0 [] (.slice none 0 0)) (hs:s.size<=20000) (hL:L<=16) (hLx:∀ j,j<xs.length->(atO xs j).s.size<=L) (hv:ZA xs) (hk:zHX xs) :
  Calls Tryz.prog 79 #[.pointer (some ⟨p,0,none⟩)] w fun e w'=>e = .returned (.tuple #[])/\∃ (g cap:Nat) (us:List zK),Hid (w'.cell? ⟨p,6,none⟩=some (.slice (some ⟨g,0,none⟩) us.length cap))/\(p<=g/\us.length<=cap/\cap<=maxLen)/\Hid (zGR w' g us us.length)/\Hid (ZR xs s 0 us)/\Below p w w':=by
 have HS:=zB h
 have HLX:=zB hLx
 have HV:=zB hv
 have HK:=zB hk
 clear h hLx hv hk
 go_enter Tryz.func79,Tryz.ntmps79
 go_wp2_with fail
 go_step3
 go_wp2_with fail
 go_step3
 go_wp2_with fail
 go_loopg [2] (s.size) (fun k _ wr=>∃ (gap start:Nat) (acc:List zK) (v:Value),k=s.size-start/\Hid (zCM w wr p bo bs L xs s gap start acc v))
 case atStart=>exact ⟨0,0,[],_,by omega,HS⟩
 case round=>
  clear HS
  obtain ⟨gap,start,acc,v,hgk,hsn⟩:=hrel
  have c3:=(zA hsn).sc.c3
  have c5:=(zA hsn).sc.c5
  have le2:=(zA hsn).le2
  by_cases hlt:start<s.size
  ·have hltI:(start:Int)<(s.size:Int):=by omega
   go_wp2_with fail
   go_region_held (fun w'=>w'.cell? ⟨p,3,none⟩=some (.string s)/\w'.cell? ⟨p,5,none⟩=some (.int .i64 (start:Int))) (go_keep) (fail)
   go_wp2_with fail
   have hc7:=zM2 (bt s start)
   have hc:cls (bt s start)=1\/cls (bt s start)=2\/cls (bt s start)=3\/cls (bt s start)=6\/cls (bt s start)=4\/cls (bt s start)=5\/cls (bt s start)=0:=by omega
   have hfz:=(zA hsn).sc.fz 5
   have hst0:(0:Int)<=(start:Int):=by omega
   clear hc7
   rcases hc with hc | hc | hc | hc | hc | hc | hc
   ·have hkb:(cls s[start]:Int)=1:=by rw [ZS hlt,hc]; rfl
    have HC:=zB hc
    clear hc
    go_region_held (fun w'=>w'.cell? ⟨p,3,none⟩=some (.string s)/\w'.cell? ⟨p,5,none⟩=some (.int .i64 (start:Int))) (go_keep) (first | (go_at_call 125; refine (Z9 _ 1 _ hkb).mono ?_; rintro e w2 ⟨rfl,hx⟩; obtain rfl:=hx.symm))
    go_wp2_with fail
    go_roundg (s.size-(start+1))
    case measure=>omega
    case rel=>exact ⟨gap,start+1,acc,v,rfl,zB ((zA hsn).drew.drew.blank hlt (zA HC) _ (by omega))⟩
   ·have hkb:(cls s[start]:Int)=2:=by rw [ZS hlt,hc]; rfl
    have HC:=zB hc
    have HSN:=zB (zA hsn).drew.drew
    clear hc hsn
    go_region_held (fun w'=>w'.cell? ⟨p,3,none⟩=some (.string s)/\w'.cell? ⟨p,5,none⟩=some (.int .i64 (start:Int))) (go_keep) (first | (go_at_call 125; refine (Z9 _ 2 _ hkb).mono ?_; rintro e w2 ⟨rfl,hx⟩; obtain rfl:=hx.symm))
    go_wp2_with fail
    go_loop [4] (fun ev=>∃ q:Nat,start+1<=q/\q<=s.size/\ev = .int .i64 (q:Int)/\Hid (∀ j,start<=j->j<q->cls (bt s j)=2)) (fun ev=>s.size-(intOf ev).toNat)
    case atStart=>
     refine ⟨start+1,Nat.le_refl _,by omega,by go_num,zB (fun j h1 h2=>?_)⟩
     have:j=start:=by omega
     subst this
     exact zA HC
    case round=>
     obtain ⟨q,hq1,hq2,rfl,hn⟩:=hrel
     go_wp2_with fail
     refine (zHb p bo bs L s gap start v 2 q _ (zA HSN).sc hq2 (by omega)).mono ?_
     rintro e w3 ⟨⟨y,rfl,hy⟩,hx⟩
     obtain rfl:=hx.symm
     have HY:=zB hy
     clear hy
     cases y
     ·have HT:=zB (show zBS xs s start (q-start) 1 by
       have no:¬ (q<s.size/\(cls (bt s q)=2\/(cls (bt s q)=3/\2=3))):=fun hh=>Bool.false_ne_true ((zA HY).2 hh)
       have hqe:start+(q-start)=q:=by omega
       exact ⟨by omega,by omega,Or.inl ⟨zA HC,rfl,fun j hj=>(zA hn) (start+j) (by omega) (by omega),fun hx hd=>no ⟨by omega,Or.inl (by rw [hqe] at hd; exact hd)⟩⟩⟩)
      go_wp2_with (first | (go_at_call 128; refine (zLR _).mono ?_; rintro e w3 ⟨rfl,hx⟩; obtain rfl:=hx.symm))
      refine (zA5 p bo bs L xs s gap start v 1 q _ _ acc w _ (zA HSN) hs (by omega) hq2 rfl rfl hlt (by have:=zA HC; omega) (zA HT)).mono ?_
      rintro e w4 ⟨rfl,acc',v',hsn'⟩
      go_wp2_with fail
      go_roundg (s.size-q)
      case measure=>omega
      case rel=>exact ⟨q,q,acc',v',rfl,hsn'⟩
     ·have HY':=zB (show q<s.size/\∀ j,start<=j->j<q+1->cls (bt s j)=2 from by
       have hy:=(zA HY).1 rfl
       refine ⟨hy.1,fun j h1 h2=>?_⟩
       by_cases e:j=q
       ·subst e
        exact hy.2.elim (fun x=>x) (fun x=>absurd x.2 (by decide))
       ·exact (zA hn) j h1 (by omega))
      have hqlt:=(zA HY').1
      go_wp2_with fail
      exact ⟨⟨q+1,by omega,by omega,by go_num,zB (zA HY').2⟩,by simp [intOf]; omega⟩
   ·have hkb:(cls s[start]:Int)=3:=by rw [ZS hlt,hc]; rfl
    have HC:=zB hc
    have HSN:=zB (zA hsn).drew.drew
    clear hc hsn
    go_region_held (fun w'=>w'.cell? ⟨p,3,none⟩=some (.string s)/\w'.cell? ⟨p,5,none⟩=some (.int .i64 (start:Int))) (go_keep) (first | (go_at_call 125; refine (Z9 _ 3 _ hkb).mono ?_; rintro e w2 ⟨rfl,hx⟩; obtain rfl:=hx.symm))
    go_wp2_with fail
    go_loop [4] (fun ev=>∃ q:Nat,start+1<=q/\q<=s.size/\ev = .int .i64 (q:Int)/\Hid (∀ j,start<=j->j<q->(cls (bt s j)=2\/cls (bt s j)=3))) (fun ev=>s.size-(intOf ev).toNat)
    case atStart=>
     refine ⟨start+1,Nat.le_refl _,by omega,by go_num,zB (fun j h1 h2=>?_)⟩
     have:j=start:=by omega
     subst this
     exact Or.inr (zA HC)
    case round=>
     obtain ⟨q,hq1,hq2,rfl,hn⟩:=hrel
     go_wp2_with fail
     refine (zHb p bo bs L s gap start v 3 q _ (zA HSN).sc hq2 (by omega)).mono ?_
     rintro e w3 ⟨⟨y,rfl,hy⟩,hx⟩
     obtain rfl:=hx.symm
     have HY:=zB hy
     clear hy
     cases y
     ·have HT:=zB (show zBS xs s start (q-start) 2 by
       have no:¬ (q<s.size/\(cls (bt s q)=2\/(cls (bt s q)=3/\3=3))):=fun hh=>Bool.false_ne_true ((zA HY).2 hh)
       have hqe:start+(q-start)=q:=by omega
       exact ⟨by omega,by omega,Or.inr (Or.inl ⟨zA HC,rfl,fun j hj=>(zA hn) (start+j) (by omega) (by omega),fun hx hd=>no ⟨by omega,by rw [hqe] at hd; exact hd.elim Or.inl (fun x=>Or.inr ⟨x,rfl⟩)⟩⟩)⟩)
      go_wp2_with (first | (go_at_call 128; refine (zLS _).mono ?_; rintro e w3 ⟨rfl,hx⟩; obtain rfl:=hx.symm))
      refine (zA5 p bo bs L xs s gap start v 2 q _ _ acc w _ (zA HSN) hs (by omega) hq2 rfl rfl hlt (by have:=zA HC; omega) (zA HT)).mono ?_
      rintro e w4 ⟨rfl,acc',v',hsn'⟩
      go_wp2_with fail
      go_roundg (s.size-q)
      case measure=>omega
      case rel=>exact ⟨q,q,acc',v',rfl,hsn'⟩
     ·have HY':=zB (show q<s.size/\∀ j,start<=j->j<q+1->(cls (bt s j)=2\/cls (bt s j)=3) from by
       have hy:=(zA HY).1 rfl
       refine ⟨hy.1,fun j h1 h2=>?_⟩
       by_cases e:j=q
       ·subst e
        exact hy.2.elim (fun x=>Or.inl x) (fun x=>Or.inr x.1)
       ·exact (zA hn) j h1 (by omega))
      have hqlt:=(zA HY').1
      go_wp2_with fail
      exact ⟨⟨q+1,by omega,by omega,by go_num,zB (zA HY').2⟩,by simp [intOf]; omega⟩
   ·have hkb:(cls s[start]:Int)=6:=by rw [ZS hlt,hc]; rfl
    have HC:=zB hc
    have HSN:=zB (zA hsn).drew.drew
    have c2:=(zA hsn).sc.c2
    clear hc hsn
    go_region_held (fun w'=>w'.cell? ⟨p,3,none⟩=some (.string s)/\w'.cell? ⟨p,5,none⟩=some (.int .i64 (start:Int))) (go_keep) (first | (go_at_call 125; refine (Z9 _ 6 _ hkb).mono ?_; rintro e w2 ⟨rfl,hx⟩; obtain rfl:=hx.symm))
    have hwr:IntKind.i64.wrap ((start:Int)+(L:Int))=(start:Int)+(L:Int):=by rw [IntKind.wrap_i64]; omega
    have hmin:min ((start:Int)+(L:Int)) (s.size:Int)=((min (start+L) s.size:Nat):Int):=by omega
    go_wp2_with fail
    go_region_held (fun w'=>w'.cell? ⟨p,2,none⟩=some (.int .i64 (L:Int))/\w'.cell? ⟨p,3,none⟩=some (.string s)/\w'.cell? ⟨p,5,none⟩=some (.int .i64 (start:Int))) (go_keep) (fail)
    go_wp2_with fail
    have HS2:=zB (zA HSN).drew
    clear HSN c2
    go_loopw [5] (fun ev wq=>∃ q:Nat,start<=q/\q<=s.size/\ev = .int .i64 (q:Int)/\Hid (∀ m,q<start+m->start+m<=s.size->¬ opT xs (sub s start m))/\Hid (zCM w wq p bo bs L xs s gap start acc v)) (fun ev _=>(intOf ev).toNat)
    case atStart=>
     refine ⟨min (start+L) s.size,by omega,by omega,rfl,zB (fun m h1 h2 ho=>?_),HS2⟩
     obtain ⟨j,hj,e⟩:=ho
     have h3:=(zA HLX) j hj
     rw [e,zAU h2] at h3
     omega
    case round=>
     clear HS2
     obtain ⟨q,hq1,hq2,rfl,hn,hsn⟩:=hrel
     have d0:=(zA hsn).sc.c0
     have d1:=(zA hsn).sc.c1
     have d3:=(zA hsn).sc.c3
     have d5:=(zA hsn).sc.c5
     by_cases hqs:start<q
     ·have hqsI:(start:Int)<(q:Int):=by omega
      have hs1:(start:Int)<=(q:Int):=by omega
      have hs2:(q:Int)<=(s.size:Int):=by omega
      have hxe:=zB (zQP (s:=s) hq1)
      have hzp:=(zA hsn).lt
      go_wp2_with fail
      go_region_held (fun w'=>w'.cell? ⟨p,0,none⟩=some (.map (some bo))/\w'.cell? ⟨p,1,none⟩=some (.map (some bs))/\w'.cell? ⟨p,3,none⟩=some (.string s)/\w'.cell? ⟨p,5,none⟩=some (.int .i64 (start:Int))) (go_keep) (first | (go_at_call 129; refine (zKZ bo bs xs.length xs (s.extract start q) _ (zA hsn).drew.idx rfl (zA HK) (by rw [zA hxe,zAU (by omega)]; unfold maxLen; omega)).mono ?_; rintro e w5 ⟨⟨y,rfl,hy⟩,hb5⟩; have HY:=zB hy; have HS5:=zB ((zA hsn).drew.below hb5); have e0:=(zA HS5).sc.c0; have e1:=(zA HS5).sc.c1; have e3:=(zA HS5).sc.c3; have e5:=(zA HS5).sc.c5; clear hy hb5))
      cases y
      ·have HN:=zB (show ∀ m,q-1<start+m->start+m<=s.size->¬ opT xs (sub s start m) from fun m h1 h2 ho=>by
        by_cases e:q<start+m
        ·exact (zA hn) m e h2 ho
        ·have e2:m=q-start:=by omega
         subst e2
         rw [<- zA hxe] at ho
         exact Bool.false_ne_true ((zA HY).2 ho))
       go_wp2_with fail
       exact ⟨⟨q-1,by omega,by omega,by first | (go_num; done) | (congr 1; omega),HN,HS5⟩,by simp [intOf]; omega⟩
      ·have HT:=zB (show zBS xs s start (q-start) 3 by
        refine ⟨by omega,by omega,Or.inr (Or.inr (Or.inr (Or.inr (Or.inl ⟨zA HC,Or.inl ⟨rfl,?_,fun m h1 h2=>(zA hn) m (by omega) h2⟩⟩))))⟩
        rw [<- zA hxe]
        exact (zA HY).1 rfl)
       go_wp2_with fail
       refine (zA5 p bo bs L xs s gap start v 3 q _ _ acc w _ (zA HS5) hs (by omega) hq2 rfl rfl hlt (by have:=zA HC; omega) (zA HT)).mono ?_
       rintro e w6 ⟨rfl,acc',v',hsn'⟩
       go_wp2_with fail
       go_roundg (s.size-q)
       case measure=>omega
       case rel=>exact ⟨q,q,acc',v',rfl,hsn'⟩
     ·have HT:=zB (show zBS xs s start (start+1-start) 6 by
       rw [show start+1-start=1 by omega]
       exact ⟨Nat.le_refl _,by omega,Or.inr (Or.inr (Or.inr (Or.inr (Or.inl ⟨zA HC,Or.inr ⟨rfl,rfl,fun m h1 h2=>(zA hn) m (by omega) h2⟩⟩))))⟩)
      have hqsI:¬ (start:Int)<(q:Int):=by omega
      go_wp2_with fail
      refine (zA5 p bo bs L xs s gap start v 6 (start+1) _ _ acc w _ (zA hsn) hs (by omega) (by omega) rfl (by omega) hlt (by have:=zA HC; omega) (zA HT)).mono ?_
      rintro e w6 ⟨rfl,acc',v',hsn'⟩
      go_wp2_with fail
      go_roundg (s.size-(start+1))
      case measure=>omega
      case rel=>exact ⟨start+1,start+1,acc',v',rfl,hsn'⟩
   ·have hkb:(cls s[start]:Int)=4:=by rw [ZS hlt,hc]; rfl
    have HT:=zB (show zBS xs s start (start+1-start) 4 by rw [show start+1-start=1 by omega]; exact ⟨Nat.le_refl _,by omega,Or.inr (Or.inr (Or.inl ⟨hc,rfl,rfl⟩))⟩)
    have HC:=zB hc
    have HSN:=zB (zA hsn).drew.drew
    clear hc hsn
    go_region_held (fun w'=>w'.cell? ⟨p,3,none⟩=some (.string s)/\w'.cell? ⟨p,5,none⟩=some (.int .i64 (start:Int))) (go_keep) (first | (go_at_call 125; refine (Z9 _ 4 _ hkb).mono ?_; rintro e w2 ⟨rfl,hx⟩; obtain rfl:=hx.symm))
    go_wp2_with fail
    refine (zA5 p bo bs L xs s gap start v 4 (start+1) _ _ acc w _ (zA HSN) hs (by omega) (by omega) rfl (by omega) hlt (by have:=zA HC; omega) (zA HT)).mono ?_
    rintro e w4 ⟨rfl,acc',v',hsn'⟩
    go_wp2_with fail
    go_roundg (s.size-(start+1))
    case measure=>omega
    case rel=>exact ⟨start+1,start+1,acc',v',rfl,hsn'⟩
   ·have hkb:(cls s[start]:Int)=5:=by rw [ZS hlt,hc]; rfl
    have HT:=zB (show zBS xs s start (start+1-start) 5 by rw [show start+1-start=1 by omega]; exact ⟨Nat.le_refl _,by omega,Or.inr (Or.inr (Or.inr (Or.inl ⟨hc,rfl,rfl⟩)))⟩)
    have HC:=zB hc
    have HSN:=zB (zA hsn).drew.drew
    clear hc hsn
    go_region_held (fun w'=>w'.cell? ⟨p,3,none⟩=some (.string s)/\w'.cell? ⟨p,5,none⟩=some (.int .i64 (start:Int))) (go_keep) (first | (go_at_call 125; refine (Z9 _ 5 _ hkb).mono ?_; rintro e w2 ⟨rfl,hx⟩; obtain rfl:=hx.symm))
    go_wp2_with fail
    refine (zA5 p bo bs L xs s gap start v 5 (start+1) _ _ acc w _ (zA HSN) hs (by omega) (by omega) rfl (by omega) hlt (by have:=zA HC; omega) (zA HT)).mono ?_
    rintro e w4 ⟨rfl,acc',v',hsn'⟩
    go_wp2_with fail
    go_roundg (s.size-(start+1))
    case measure=>omega
    case rel=>exact ⟨start+1,start+1,acc',v',rfl,hsn'⟩
   ·have hkb:(cls s[start]:Int)=0:=by rw [ZS hlt,hc]; rfl
    have HT:=zB (show zBS xs s start (start+1-start) 6 by rw [show start+1-start=1 by omega]; exact ⟨Nat.le_refl _,by omega,Or.inr (Or.inr (Or.inr (Or.inr (Or.inr ⟨hc,rfl,rfl⟩))))⟩)
    have HC:=zB hc
    have HSN:=zB (zA hsn).drew.drew
    clear hc hsn
    go_region_held (fun w'=>w'.cell? ⟨p,3,none⟩=some (.string s)/\w'.cell? ⟨p,5,none⟩=some (.int .i64 (start:Int))) (go_keep) (first | (go_at_call 125; refine (Z9 _ 0 _ hkb).mono ?_; rintro e w2 ⟨rfl,hx⟩; obtain rfl:=hx.symm))
    go_wp2_with fail
    refine (zA5 p bo bs L xs s gap start v 6 (start+1) _ _ acc w _ (zA HSN) hs (by omega) (by omega) rfl (by omega) hlt (by have:=zA HC; omega) (zA HT)).mono ?_
    rintro e w4 ⟨rfl,acc',v',hsn'⟩
    go_wp2_with fail
    go_roundg (s.size-(start+1))
    case measure=>omega
    case rel=>exact ⟨start+1,start+1,acc',v',rfl,hsn'⟩
  ·go_wp2_with fail
   go_region_held (fun w'=>w'.cell? ⟨p,3,none⟩=some (.string s)/\w'.cell? ⟨p,5,none⟩=some (.int .i64 (start:Int))) (go_keep) (fail)
   go_wp2_with fail
   have HSN:=zB (zA hsn).drew
   have HE:=zB (show start=s.size by omega)
   clear hsn
   refine (zIb p bo bs L xs s gap start v 7 start _ _ acc w _ (zA HSN) hs (Nat.le_refl _) le2 rfl rfl).mono ?_
   rintro e w4 ⟨rfl,g,cap,hsc,hown,hgp,hkp⟩
   have HKP:=zB hkp
   clear hkp
   go_wp2_with fail
   rw [Exit.noGoto_normal]
   go_end0
   refine ⟨rfl,g,cap,acc++[⟨7,s.extract gap start,s.extract start start⟩],zB ?_,?_,zB ?_,zB ?_,?_⟩
   ·rw [List.length_append]; exact (zA hsc).c6
   ·refine ⟨((zA hown).lt g rfl).1,?_⟩
    rw [List.length_append]
    obtain ⟨_,⟨h,_⟩ | ⟨g',cap',cur,h,_,_,h1,h2,_⟩⟩:=zA hown
    ·cases h
    ·injection h with _ _ h
     subst h
     exact ⟨h1,h2⟩
   ·have ho:w4.ownsRow p 97 3 (.slice (some ⟨g,0,none⟩) (acc++[(⟨7,s.extract gap start,s.extract start start⟩:zK)]).length cap) (acc++[(⟨7,s.extract gap start,s.extract start start⟩:zK)]).length (zk (acc++[(⟨7,s.extract gap start,s.extract start start⟩:zK)])):=by
     rw [List.length_append]; exact zA hown
    exact (zB1 ho).2
   ·have h1:=(zA HSN)
    have h2:=h1.rd.done (by have:=h1.le1; have:=h1.le2; omega) (zA HE ▸ h1.bl)
    rw [zJb,zA HE]
    exact h2
   ·have h1:=(zA HSN)
    refine h1.bel.trans ⟨(zA HKP).os,(zA HKP).tape,(zA HKP).output,(zA HKP).size,fun i hi=>(zA HKP).block i (by have:=h1.lt; omega) (by omega) (fun e=>?_)⟩
    have:=(h1.own.lt i e.symm).1
    omega
end Go.Proofs.YtfboipappaonhaaGreat
namespace Go.Proofs.YtfboipappaonhaaGreat
set_option linter.unusedSimpArgs false
set_option maxHeartbeats 16000000
set_option maxRecDepth 100000
open Go.RowKit Go.Maps
theorem zJc:(Tryz.prog.info? 3).map (fun i=>(i.zero,i.size,i.bytes))=some (some (.int .i64 0),1,8):=by kernel_rfl
theorem zDD (w:World) (v:Int):∀ j u,(za [v])[j]?=some u->(w.alloc (.cells #[.int .i64 v] 3)).cell? ((⟨w.heap.size,0,none⟩:Addr).add j)=some u:=by
 intro j u hj
 rw [Addr.add_mid]
 have:=World.rangeAt_of_block (w:=w.alloc (.cells #[.int .i64 v] 3)) (b:=w.heap.size) (heap_alloc_new w _) 0 1
 exact this j u (by simpa [za] using hj)
theorem zL6 (ts:List zK):∀ k,zBG ts k<=k
 | 0=>Nat.le_refl _
 | k+1=>by
  have:=zL6 ts k
  simp only [zBG,zBz]
  split
  ·omega
  ·split <;> omega
theorem zLT (xs:List OpR) (ts:List zK) (k:Nat):zV xs ts k = -1\/0<=zV xs ts k:=by
 unfold zV zz
 (repeat' split) <;> omega
theorem zLU (bo bs b' off' cap':Nat) (xs:List OpR) (ts:List zK) (w:World) (hm:ts.length<=1048576) (hidx:Idx w bo bs xs xs.length) (hc:zM xs 0) (hw':zCS w b' off' ts) (hst:zM4 ts) (hB':b'<w.heap.size) :
  Calls Tryz.prog 81 #[.agg #[.map (some bo),.map (some bs)],.slice (some ⟨b',off',none⟩) ts.length cap'] w fun e w'=>(∃ (a:Option Addr) (c:Nat) (us:List Int) (v:Int),e = .returned (.tuple #[.slice a us.length c,.int .i64 v])/\zQN w' w.heap.size a us/\zLu xs (zM xs 0) ts us v)/\Below w.heap.size w w':=by
 have HT:=zB hw'
 have HST:=zB hst
 have HC:=zB hc
 have HID:=zB hidx
 clear hw' hst hc hidx
 have hmk:∀ W:World,(Instr.makeSlice 79 (.int .i64 0) (.int .i64 (ts.length:Int))).run Tryz.prog W = .ok (.slice (some ⟨W.heap.size,0,none⟩) 0 ts.length) (W.alloc (.cells (madeCells #[.int .i64 0] ts.length) 3)):=by
  obtain ⟨inf,hi,hz⟩:=Option.map_eq_some_iff.1 zJc
  simp only [Prod.mk.injEq] at hz
  obtain ⟨hz,hsz,hby⟩:=hz
  intro W
  have:=run_make (P:=Tryz.prog) W 79 3 inf _ Tryz.underlying79 hi hz .i64 .i64 0 ts.length (by omega) (by omega) (by rw [hby]; omega) (by omega)
  simpa [hsz,Value.cells] using this
 have hbo:bo<w.heap.size:=by obtain ⟨D,hD,_⟩:=(zA HID).ops; exact hD.lt
 have hbs:bs<w.heap.size:=by obtain ⟨D,hD,_⟩:=(zA HID).srts; exact hD.lt
 obtain ⟨i0,hi0,hz0,hz1,hz2⟩:=info_parts zJc
 have HI0:=zB hi0
 have HZ0:=zB (And.intro hz0 (And.intro hz1 hz2))
 clear hi0 hz0 hz1 hz2
 go_enter Tryz.func81,Tryz.ntmps81
 go_wp2_with fail
 clear hmk
 obtain ⟨W0,hW0⟩:∃ W0,W0=((w.alloc (.cells #[.map (some bo),.map (some bs)] 69)).alloc (.cells #[.map (some bo),.map (some bs),.bool false,.int .i64 0] 205)).alloc (.cells (madeCells #[.int .i64 0] ts.length) 3):=⟨_,rfl⟩
 have HF0:=zB (show Ft W0 (w.heap.size+1) bo bs false 0 by
  rw [hW0]
  refine ⟨?_,?_,?_,?_,fun o=>?_⟩ <;> simp [go_sem])
 have HX0:=zB (show Idx W0 bo bs xs xs.length by
  rw [hW0]
  exact (((zA HID).kept (zC _ _)).kept (zC _ _)).kept (zC _ _))
 have HO0:=zB (show W0.ownsRow (w.heap.size+2) 3 1 (.slice (some ⟨w.heap.size+1+1,0,none⟩) 0 ts.length) 0 (za []) by
  rw [hW0]
  have h0:=World.ownsRow_made (base:=w.heap.size+2) (e:=3) (size:=1) ((w.alloc (.cells #[.map (some bo),.map (some bs)] 69)).alloc (.cells #[.map (some bo),.map (some bs),.bool false,.int .i64 0] 205)) (madeCells #[.int .i64 0] ts.length) ts.length (by simp) (by unfold maxLen; omega) (by rw [size_madeCells]; omega)
  simpa [za] using h0)
 have HB0:=zB (show Below w.heap.size w W0 by
  rw [hW0]
  exact ((zC _ _).alloc (by simp) _).alloc (by simp; omega) _)
 rw [<- hW0]
 clear hW0 HID
 go_loopw [7,19] (fun rv iv wr=>∃ (k g c:Nat),k<=ts.length/\iv = .int .i64 (k:Int)/\rv = .slice (some ⟨g,0,none⟩) k c/\Hid (zBB xs ts k)/\Hid (Ft wr (w.heap.size+1) bo bs (zBL xs ts k) (zBG ts k))/\Hid (Idx wr bo bs xs xs.length)/\Hid (wr.ownsRow (w.heap.size+2) 3 1 (.slice (some ⟨g,0,none⟩) k c) k (za (Za xs ts k)))/\Hid (Below w.heap.size w wr)/\Hid (k=ts.length->¬ (0<ts.length/\(atT ts (ts.length-1)).k=7))) (fun _ iv _=>ts.length-(intOf iv).toNat)
 case atStart=>exact ⟨0,w.heap.size+1+1,ts.length,Nat.zero_le _,rfl,rfl,zB (fun i hi=>by omega),HF0,HX0,HO0,HB0,zB (fun h=>by omega)⟩
 case round=>
  clear HF0 HX0 HO0 HB0
  obtain ⟨k,g,c,hk,rfl,rfl,hfit,hft,hix,hown,hbl,hend⟩:=hrel
  by_cases hlt:k<ts.length
  ·obtain ⟨a0,a1,a2⟩:=((zA HT) k hlt).below (zA hbl) hB'
   have hzp:=block_lt_of_cell (zA hft).c0
   have HF1:=zB ((zA hft).kept (zC wr (.cells #[.int .i64 (atT ts k).k,.string (atT ts k).g,.string (atT ts k).t] 97)))
   have HX1:=zB ((zA hix).kept (zC wr (.cells #[.int .i64 (atT ts k).k,.string (atT ts k).g,.string (atT ts k).t] 97)))
   have hop:zBG ts k<=1048576:=by
    have:=zL6 ts k
    omega
   have hgl:=(zA hown).lt g rfl
   have hlast:(((k:Int)==(ts.length:Int)-1))=decide (k+1=ts.length):=by
    rw [Bool.eq_iff_iff]; simp; omega
   go_wp2_with fail
   refine (zON (w.heap.size+1) bo bs (zBG ts k) (zBL xs ts k) (decide (k+1=ts.length)) xs (atT ts k) _ (zA HF1) (zA HX1) ((zA HST) k hlt).2 hop).mono ?_
   rintro e w2 ⟨rfl,hs2,hk2⟩
   have HR:=zB (show zz xs (decide (k+1=ts.length)) (atT ts k) (zBL xs ts k) (zBG ts k)=zV xs ts k from rfl)
   rw [zA HR] at hs2 ⊢
   have hrng:=zLT xs ts k
   have zr:wr.heap.size<w2.heap.size:=by have:=hk2.size; simp at this; omega
   have q0:w2.cell? ⟨wr.heap.size,0,none⟩=some (.int .i64 (atT ts k).k):=by rw [hk2.cell (by simp) (by omega)]; simp [go_sem]
   have HX2:=zB ((zA HX1).of_blocks (hk2.block bo (by simp; omega) (by omega)) (hk2.block bs (by simp; omega) (by omega)))
   have HO2:=zB ((((zA hown).alloc (.cells #[.int .i64 (atT ts k).k,.string (atT ts k).g,.string (atT ts k).t] 97))).kept (ze hk2) (Or.inr (by simp [Value.ownBlock]; omega)))
   have HB2:=zB (((zA hbl).alloc (zA hbl).size (.cells #[.int .i64 (atT ts k).k,.string (atT ts k).g,.string (atT ts k).t] 97)).trans (hk2.below (by have:=(zA hbl).size; simp; omega) (by omega)))
   have HS2:=zB hs2
   have hz2:=(zA HB2).size
   clear hs2 hk2 hown hbl HX1 HF1 hix hft
   by_cases hr:zV xs ts k = -1
   ·have HRR:=zB hr
    have hr':(zV xs ts k == -1)=true:=by simpa using hr
    clear hr hrng
    go_wp2_with fail
    go_ret2
    exact ⟨⟨none,0,[],(k:Int),rfl,Or.inl ⟨rfl,rfl⟩,Or.inr ⟨zA HC,Or.inl ⟨k,hlt,zA hfit,by have:=zA HRR; omega,rfl,rfl⟩⟩⟩,zA HB2⟩
   have hr':(zV xs ts k == -1)=false:=by simpa using hr
   have hr0:0<=zV xs ts k:=by omega
   have HFT:=zB (show Ft w2 (w.heap.size+1) bo bs (zBL xs ts (k+1)) (zBG ts (k+1)) from (zA HS2) hr0)
   have HFI:=zB (show zBB xs ts (k+1) from fun i hi=>by
    by_cases e:i=k
    ·subst e; exact hr0
    ·exact (zA hfit) i (by omega))
   clear hr hrng HS2 hfit
   go_wp2_with (at_builtin; refine wpList_append_own _ rfl (.tmp 35) (.tmp 37) 79 rfl (w.heap.size+2) 3 i0 _ 1 8 Tryz.underlying79 (zA HI0) (zA HZ0).1 (zA HZ0).2.1 (zA HZ0).2.2 rfl (by decide) _ k (za (Za xs ts k)) rfl ((zA HO2).alloc _) ⟨w2.heap.size,0,none⟩ 1 1 (za [zV xs ts k]) rfl rfl (zDD w2 (zV xs ts k)) (zAn _) ?b1 ?b2 ?b3 ?next)
   case b1=>unfold maxLen; omega
   case b2=>omega
   case b3=>simp; omega
   case next=>
    intro v4 w4 hown4 hgrow4 hnil4
    have hbel4:Below w.heap.size w w4:=((zA HB2).alloc (by omega) _).grown hgrow4 (by simp; omega) (fun q hq=>by simp [Value.ownBlock] at hq; omega)
    have hfar:∀ bb,bb<w2.heap.size->bb≠g->w4.heap[bb]?=w2.heap[bb]?:=fun bb h1 h2=>(hgrow4.block bb (by simp; omega) (by simp [Value.ownBlock]; omega)).trans ((zC w2 _).block bb h1)
    have q4:w4.cell? ⟨wr.heap.size,0,none⟩=some (.int .i64 (atT ts k).k):=(World.cell?_of_block (hfar wr.heap.size zr (by omega))).trans q0
    have HX4:=zB ((zA HX2).of_blocks (hfar bo (by omega) (by omega)) (hfar bs (by omega) (by omega)))
    have hp2:w.heap.size+1<w2.heap.size:=by omega
    have HF4:=zB (show Ft w4 (w.heap.size+1) bo bs (zBL xs ts (k+1)) (zBG ts (k+1)) from by
     have e:=fun o=>World.cell?_of_block (w:=w2) (a:=⟨w.heap.size+1,o,none⟩) (hfar (w.heap.size+1) hp2 (by omega))
     have f:=fun o=>World.frozen?_of_block (w:=w2) (a:=⟨w.heap.size+1,o,none⟩) (hfar (w.heap.size+1) hp2 (by omega))
     have h:=zA HFT
     exact ⟨(e _).trans h.c0,(e _).trans h.c1,(e _).trans h.c2,(e _).trans h.c3,fun o=>(f o).trans (h.fz o)⟩)
    obtain ⟨g4,c4,rfl⟩:=ZL hown4 (by simp [hnil4])
    rw [<- Z8,<- zFC] at hown4
    have HO4:=zB hown4
    have HB4:=zB hbel4
    clear hown4 hgrow4 hnil4 hfar hbel4 HO2 HX2 HFT HB2
    by_cases hl:k+1=ts.length
    ·have hl':decide (k+1=ts.length)=true:=decide_eq_true hl
     by_cases h7:(atT ts k).k=7
     ·have h7':((atT ts k).k==7)=true:=by simpa using h7
      have H7:=zB h7
      have HL:=zB hl
      clear h7 hl
      go_wp2_with fail
      go_ret2
      have hl:=zA HL
      have ho:=zA HO4
      have hlen:(Za xs ts (k+1)).length=k+1:=Z4 _ _ _
      rw [<- hlen] at ho
      obtain ⟨hg,hf⟩:=zDi (by rw [hlen] at ho ⊢; exact ho)
      refine ⟨⟨some ⟨g4,0,none⟩,c4,Za xs ts (k+1),-1,by rw [hlen]; first | rfl | (rw [hl]; rfl),Or.inr ⟨g4,rfl,by omega,hf⟩,Or.inr ⟨zA HC,Or.inr ⟨hl ▸ zA HFI,Or.inl ⟨⟨by omega,?_⟩,by rw [hl],rfl⟩⟩⟩⟩,zA HB4⟩
      rw [<- hl]
      exact zA H7
     ·have h7':((atT ts k).k==7)=false:=by simpa using h7
      have HE:=zB (show k+1=ts.length->¬ (0<ts.length/\(atT ts (ts.length-1)).k=7) from fun e=>by
       rw [<- e]
       exact fun h=>h7 h.2)
      have HL:=zB hl
      clear hl
      go_wp2_with fail
      have hl:=zA HL
      exact ⟨⟨k+1,g4,c4,by omega,by go_num,by first | rfl | (rw [hl]),HFI,HF4,HX4,HO4,HB4,HE⟩,by simp [intOf]; omega⟩
    ·have hl':decide (k+1=ts.length)=false:=decide_eq_false hl
     have HE:=zB (show k+1=ts.length->¬ (0<ts.length/\(atT ts (ts.length-1)).k=7) from fun e=>absurd e hl)
     go_wp2_with fail
     exact ⟨⟨k+1,g4,c4,by omega,by go_num,rfl,HFI,HF4,HX4,HO4,HB4,HE⟩,by simp [intOf]; omega⟩
  ·have HX:=zB (show k=ts.length by omega)
   go_wp2_with fail
   go_ret2
   have e:=zA HX
   subst e
   exact ⟨⟨none,0,[],(ts.length:Int),rfl,Or.inl ⟨rfl,rfl⟩,Or.inr ⟨zA HC,Or.inr ⟨zA hfit,Or.inr ⟨(zA hend) rfl,rfl,rfl⟩⟩⟩⟩,zA hbl⟩
end Go.Proofs.YtfboipappaonhaaGreat
