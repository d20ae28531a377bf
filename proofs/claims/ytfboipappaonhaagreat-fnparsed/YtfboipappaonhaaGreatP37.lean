import Derived.WalkMore
import Derived.Deep.LoopGhost
import Derived.Test.YtfboipappaonhaaGreatP36
namespace Go.Proofs.YtfboipappaonhaaGreat
set_option maxHeartbeats 16000000
set_option maxRecDepth 100000
open Go.RowKit Go.Maps
theorem Z0 (c:UInt8) (k:Int) (w:World) (h:(cls c:Int) = k) :
  Calls Tryz.prog 125 #[.int .u8 (c.toNat:Int)] w fun e w'=>e = .returned (.int .i64 k) /\ w' = w:=by
 subst h
 exact Zf c w
theorem Idx.of_blocks {w w':World} {bo bs n:Nat} {xs:List OpR} (h:Idx w bo bs xs n) (h1:w'.heap[bo]? = w.heap[bo]?) (h2:w'.heap[bs]? = w.heap[bs]?):Idx w' bo bs xs n:=by
 obtain ⟨⟨D,⟨es,clock,hb,F,hs,hD⟩,a2⟩,⟨E,⟨es',clock',hb',F',hs',hD'⟩,a4⟩,a5⟩:=h
 exact ⟨⟨D,⟨es,clock,h1.trans hb,F,hs,hD⟩,a2⟩,⟨E,⟨es',clock',h2.trans hb',F',hs',hD'⟩,a4⟩,a5⟩
structure zB9 (w wr:World) (p bo bs L:Nat) (xs:List OpR) (s:ByteArray) (gap start:Nat) (acc:List zI) (v:Value):Prop where
 sc:Sc wr p bo bs L s gap start v
 own:wr.ownsRow p 97 3 v acc.length (zY acc)
 ne:v.ownBlock ≠ some p
 idx:Idx wr bo bs xs xs.length
 bel:Below p w wr
 rd:zF4 xs s gap acc
 bl:zCl s gap start
 le1:gap <= start
 le2:start <= s.size
 hbo:bo < p
 hbs:bs < p
theorem zB9.lt {w wr:World} {p bo bs L gap start:Nat} {xs:List OpR} {s:ByteArray} {acc:List zI} {v:Value} (h:zB9 w wr p bo bs L xs s gap start acc v):p < wr.heap.size:=block_lt_of_cell h.sc.c0
theorem zB9.below {w wr w':World} {p bo bs L gap start:Nat} {xs:List OpR} {s:ByteArray} {acc:List zI} {v:Value} (h:zB9 w wr p bo bs L xs s gap start acc v) (hb:Below wr.heap.size wr w'):zB9 w w' p bo bs L xs s gap start acc v:=by
 have hp:=h.lt
 obtain ⟨⟨c0,c1,c2,c3,c4,c5,c6,fz⟩,own,ne,idx,bel,rd,bl,le1,le2,hbo,hbs⟩:=h
 have e:=fun o=>hb.cell (p:=⟨p,o,none⟩) hp
 exact ⟨⟨(e _).trans c0,(e _).trans c1,(e _).trans c2,(e _).trans c3,(e _).trans c4,(e _).trans c5,(e _).trans c6,fun o=>(hb.frozen (p:=⟨p,o,none⟩) hp).trans (fz o)⟩,
  own.kept (zAH hb none) (Classical.em _),ne,idx.kept hb,bel.trans (hb.mono (Nat.le_of_lt hp)),rd,bl,le1,le2,hbo,hbs⟩
theorem zB9.drew {w wr:World} {p bo bs L gap start:Nat} {xs:List OpR} {s:ByteArray} {acc:List zI} {v:Value} (h:zB9 w wr p bo bs L xs s gap start acc v):zB9 w wr.drew p bo bs L xs s gap start acc v:=
 h.below (Below.refl _ _).drew
theorem zB9.blank {w wr:World} {p bo bs L gap start:Nat} {xs:List OpR} {s:ByteArray} {acc:List zI} {v:Value} (h:zB9 w wr p bo bs L xs s gap start acc v) (hlt:start < s.size) (hc:cls (bt s start) = 1) (n:Int) (hn:n = ((start + 1:Nat):Int)) :
  zB9 w (wr.setCell ⟨p,5,none⟩ (.int .i64 n)) p bo bs L xs s gap (start + 1) acc v:=by
 subst hn
 obtain ⟨⟨c0,c1,c2,c3,c4,c5,c6,fz⟩,own,ne,idx,bel,rd,bl,le1,le2,hbo,hbs⟩:=h
 have e:∀ o,o ≠ 5 -> (wr.setCell ⟨p,5,none⟩ (.int .i64 ((start + 1:Nat):Int))).cell? ⟨p,o,none⟩ = wr.cell? ⟨p,o,none⟩:=fun o ho=>World.cell?_setCell_other _ _ _ _ (by simp)
 refine ⟨⟨(e _ (by omega)).trans c0,(e _ (by omega)).trans c1,(e _ (by omega)).trans c2,(e _ (by omega)).trans c3,(e _ (by omega)).trans c4,World.cell?_setCell_same _ _ _ c5,(e _ (by omega)).trans c6,fun o=>by rw [World.frozen?_setCell]; exact fz o⟩,
  own.kept (zC7 _ p 5 _) (Or.inr ne),ne,idx.set (by omega) (by omega),bel.setCell (Nat.le_refl _) _,rd,fun q h1 h2=>?_,by omega,by omega,hbo,hbs⟩
 by_cases e:q = start
 ·subst e; exact hc
 ·exact bl q h1 (by omega)
theorem zB9.fin {w wr w':World} {p bo bs L gap start q kind g cap:Nat} {xs:List OpR} {s:ByteArray} {acc:List zI} {v:Value} (h:zB9 w wr p bo bs L xs s gap start acc v)
  (hsc:Sc w' p bo bs L s q q (.slice (some ⟨g,0,none⟩) (acc.length + 1) cap)) (hown:w'.ownsRow p 97 3 (.slice (some ⟨g,0,none⟩) (acc.length + 1) cap) (acc.length + 1) (zY (acc ++ [⟨(kind:Int),s.extract gap start,s.extract start q⟩])))
  (hg:g ≠ p) (hk:zKi wr w' p v.ownBlock) (hlt:start < s.size) (hnb:cls (bt s start) ≠ 1) (htok:zBI xs s start (q - start) kind) (hq:start <= q) :
  zB9 w w' p bo bs L xs s q q (acc ++ [⟨(kind:Int),s.extract gap start,s.extract start q⟩]) (.slice (some ⟨g,0,none⟩) (acc.length + 1) cap):=by
 have hp:=h.lt
 have hrow:∀ b:Nat,b < p -> some b ≠ v.ownBlock:=fun b hb e=>by
  have:=(h.own.lt b e.symm).1
  omega
 have hqe:start + (q - start) = q:=by omega
 have hrd:=h.rd.step h.le1 hlt h.bl hnb htok
 rw [hqe] at hrd
 refine ⟨hsc,?_,by simp [Value.ownBlock]; exact hg,h.idx.of_blocks (hk.block bo (by have:=h.hbo; omega) (by have:=h.hbo; omega) (hrow _ h.hbo)) (hk.block bs (by have:=h.hbs; omega) (by have:=h.hbs; omega) (hrow _ h.hbs)),?_,hrd,fun q' h1 h2=>by omega,Nat.le_refl _,?_,h.hbo,h.hbs⟩
 ·rw [List.length_append]
  exact hown
 ·exact h.bel.trans ⟨hk.os,hk.tape,hk.output,hk.size,fun i hi=>hk.block i (by omega) (by omega) (hrow i hi)⟩
 ·have:=htok.2.1
  omega
theorem zHS (p bo bs L:Nat) (xs:List OpR) (s:ByteArray) (gap start:Nat) (v:Value) (kind q:Nat) (kz qz:Int) (acc:List zI) (w W:World) (h:zB9 w W p bo bs L xs s gap start acc v) (hs:s.size <= 20000) (h2:start <= q) (hq:q <= s.size) (hkz:kz = (kind:Int)) (hqz:qz = (q:Int)) :
  Calls Tryz.prog 127 #[.pointer (some ⟨p,0,none⟩),.int .i64 kz,.int .i64 qz] W fun e w'=>e = .returned (.tuple #[]) /\ ∃ g cap:Nat,Hid (Sc w' p bo bs L s q q (.slice (some ⟨g,0,none⟩) (acc.length + 1) cap)) /\ Hid (w'.ownsRow p 97 3 (.slice (some ⟨g,0,none⟩) (acc.length + 1) cap) (acc.length + 1) (zY (acc ++ [⟨(kind:Int),s.extract gap start,s.extract start q⟩]))) /\ g ≠ p /\ zKi W w' p v.ownBlock:=by
 subst hkz hqz
 have h1:=h.rd.1
 have h3:=h.le1
 have h4:=h.le2
 exact zJ5 p bo bs L s gap start v kind q p acc W h.sc h.le1 h2 hq h.own h.ne (by omega) (Nat.le_of_lt h.lt)
theorem zAo (p bo bs L:Nat) (xs:List OpR) (s:ByteArray) (gap start:Nat) (v:Value) (kind q:Nat) (kz qz:Int) (acc:List zI) (w W:World) (h:zB9 w W p bo bs L xs s gap start acc v) (hs:s.size <= 20000) (h2:start <= q) (hq:q <= s.size) (hkz:kz = (kind:Int)) (hqz:qz = (q:Int)) (hlt:start < s.size) (hnb:cls (bt s start) ≠ 1) (htok:zBI xs s start (q - start) kind) :
  Calls Tryz.prog 127 #[.pointer (some ⟨p,0,none⟩),.int .i64 kz,.int .i64 qz] W fun e w'=>e = .returned (.tuple #[]) /\ ∃ (acc':List zI) (v':Value),Hid (zB9 w w' p bo bs L xs s q q acc' v'):=by
 refine (zHS p bo bs L xs s gap start v kind q kz qz acc w W h hs h2 hq hkz hqz).mono ?_
 rintro e w' ⟨rfl,g,cap,a,b,c,d⟩
 exact ⟨rfl,_,_,zB (h.fin (zA a) (zA b) c d hlt hnb htok h2)⟩
theorem zIK (s:ByteArray) (i:Nat):s.extract i i = ⟨#[]⟩:=by
 apply ByteArray.ext
 rw [ByteArray.data_extract]
 simp
 omega
theorem zOd {s:ByteArray} {i q:Nat} (h:i <= q):s.extract i q = sub s i (q - i):=by
 unfold sub
 rw [show i + (q - i) = q by omega]
theorem zJ7 (w:World):Calls Tryz.prog 128 #[.int .i64 2] w fun e w'=>e = .returned (.int .i64 1) /\ w' = w:=by
 go_enter Tryz.func128,Tryz.ntmps128
 go_wp2
 go_ret
 exact ⟨rfl,rfl⟩
theorem zJ8 (w:World):Calls Tryz.prog 128 #[.int .i64 3] w fun e w'=>e = .returned (.int .i64 2) /\ w' = w:=by
 go_enter Tryz.func128,Tryz.ntmps128
 go_wp2
 go_ret
 exact ⟨rfl,rfl⟩
theorem zJK (p bo bs L:Nat) (xs:List OpR) (s:ByteArray) (w:World) (h:zB9 w w p bo bs L xs s 0 0 [] (.slice none 0 0)) (hs:s.size <= 20000) (hL:L <= 16) (hLx:∀ j,j < xs.length -> (atO xs j).s.size <= L) (hv:zi xs) (hk:zGN xs) :
  Calls Tryz.prog 79 #[.pointer (some ⟨p,0,none⟩)] w fun e w'=>e = .returned (.tuple #[]) /\ ∃ (g cap:Nat) (us:List zI),Hid (w'.cell? ⟨p,6,none⟩ = some (.slice (some ⟨g,0,none⟩) us.length cap)) /\ (p <= g /\ us.length <= cap /\ cap <= maxLen) /\ Hid (zFQ w' g us us.length) /\ Hid (ZK xs s 0 us) /\ Below p w w':=by
 have HS:=zB h
 have HLX:=zB hLx
 have HV:=zB hv
 have HK:=zB hk
 clear h hLx hv hk
 go_enter Tryz.func79,Tryz.ntmps79
 go_wp2_with fail
 go_step3
 go_wp2_with fail
 go_step3
 go_wp2_with fail
 go_loopg [2] (s.size) (fun k _ wr=>∃ (gap start:Nat) (acc:List zI) (v:Value),k = s.size - start /\ Hid (zB9 w wr p bo bs L xs s gap start acc v))
 case atStart=>exact ⟨0,0,[],_,by omega,HS⟩
 case round=>
  clear HS
  obtain ⟨gap,start,acc,v,hgk,hsn⟩:=hrel
  have c3:=(zA hsn).sc.c3
  have c5:=(zA hsn).sc.c5
  have le2:=(zA hsn).le2
  by_cases hlt:start < s.size
  ·have hltI:(start:Int) < (s.size:Int):=by omega
   go_wp2_with fail
   go_region_held (fun w'=>w'.cell? ⟨p,3,none⟩ = some (.string s) /\ w'.cell? ⟨p,5,none⟩ = some (.int .i64 (start:Int))) (go_keep) (fail)
   go_wp2_with fail
   have hc7:=zLf (bt s start)
   have hc:cls (bt s start) = 1 \/ cls (bt s start) = 2 \/ cls (bt s start) = 3 \/ cls (bt s start) = 6 \/ cls (bt s start) = 4 \/ cls (bt s start) = 5 \/ cls (bt s start) = 0:=by omega
   have hfz:=(zA hsn).sc.fz 5
   have hst0:(0:Int) <= (start:Int):=by omega
   clear hc7
   rcases hc with hc | hc | hc | hc | hc | hc | hc
   ·have hkb:(cls s[start]:Int) = 1:=by rw [ZM hlt,hc]; rfl
    have HC:=zB hc
    clear hc
    go_region_held (fun w'=>w'.cell? ⟨p,3,none⟩ = some (.string s) /\ w'.cell? ⟨p,5,none⟩ = some (.int .i64 (start:Int))) (go_keep) (first | (go_at_call 125; refine (Z0 _ 1 _ hkb).mono ?_; rintro e w2 ⟨rfl,hx⟩; obtain rfl:=hx.symm))
    go_wp2_with fail
    go_roundg (s.size - (start + 1))
    case measure=>omega
    case rel=>exact ⟨gap,start + 1,acc,v,rfl,zB ((zA hsn).drew.drew.blank hlt (zA HC) _ (by omega))⟩
   ·have hkb:(cls s[start]:Int) = 2:=by rw [ZM hlt,hc]; rfl
    have HC:=zB hc
    have HSN:=zB (zA hsn).drew.drew
    clear hc hsn
    go_region_held (fun w'=>w'.cell? ⟨p,3,none⟩ = some (.string s) /\ w'.cell? ⟨p,5,none⟩ = some (.int .i64 (start:Int))) (go_keep) (first | (go_at_call 125; refine (Z0 _ 2 _ hkb).mono ?_; rintro e w2 ⟨rfl,hx⟩; obtain rfl:=hx.symm))
    go_wp2_with fail
    go_loop [4] (fun ev=>∃ q:Nat,start + 1 <= q /\ q <= s.size /\ ev = .int .i64 (q:Int) /\ Hid (∀ j,start <= j -> j < q -> cls (bt s j) = 2)) (fun ev=>s.size - (intOf ev).toNat)
    case atStart=>
     refine ⟨start + 1,Nat.le_refl _,by omega,by go_num,zB (fun j h1 h2=>?_)⟩
     have:j = start:=by omega
     subst this
     exact zA HC
    case round=>
     obtain ⟨q,hq1,hq2,rfl,hn⟩:=hrel
     go_wp2_with fail
     refine (zGR p bo bs L s gap start v 2 q _ (zA HSN).sc hq2 (by omega)).mono ?_
     rintro e w3 ⟨⟨y,rfl,hy⟩,hx⟩
     obtain rfl:=hx.symm
     have HY:=zB hy
     clear hy
     cases y
     ·have HT:=zB (show zBI xs s start (q - start) 1 by
       have no:¬ (q < s.size /\ (cls (bt s q) = 2 \/ (cls (bt s q) = 3 /\ 2 = 3))):=fun hh=>Bool.false_ne_true ((zA HY).2 hh)
       have hqe:start + (q - start) = q:=by omega
       exact ⟨by omega,by omega,Or.inl ⟨zA HC,rfl,fun j hj=>(zA hn) (start + j) (by omega) (by omega),fun hx hd=>no ⟨by omega,Or.inl (by rw [hqe] at hd; exact hd)⟩⟩⟩)
      go_wp2_with (first | (go_at_call 128; refine (zJ7 _).mono ?_; rintro e w3 ⟨rfl,hx⟩; obtain rfl:=hx.symm))
      refine (zAo p bo bs L xs s gap start v 1 q _ _ acc w _ (zA HSN) hs (by omega) hq2 rfl rfl hlt (by have:=zA HC; omega) (zA HT)).mono ?_
      rintro e w4 ⟨rfl,acc',v',hsn'⟩
      go_wp2_with fail
      go_roundg (s.size - q)
      case measure=>omega
      case rel=>exact ⟨q,q,acc',v',rfl,hsn'⟩
     ·have HY':=zB (show q < s.size /\ ∀ j,start <= j -> j < q + 1 -> cls (bt s j) = 2 from by
       have hy:=(zA HY).1 rfl
       refine ⟨hy.1,fun j h1 h2=>?_⟩
       by_cases e:j = q
       ·subst e
        exact hy.2.elim (fun x=>x) (fun x=>absurd x.2 (by decide))
       ·exact (zA hn) j h1 (by omega))
      have hqlt:=(zA HY').1
      go_wp2_with fail
      exact ⟨⟨q + 1,by omega,by omega,by go_num,zB (zA HY').2⟩,by simp [intOf]; omega⟩
   ·have hkb:(cls s[start]:Int) = 3:=by rw [ZM hlt,hc]; rfl
    have HC:=zB hc
    have HSN:=zB (zA hsn).drew.drew
    clear hc hsn
    go_region_held (fun w'=>w'.cell? ⟨p,3,none⟩ = some (.string s) /\ w'.cell? ⟨p,5,none⟩ = some (.int .i64 (start:Int))) (go_keep) (first | (go_at_call 125; refine (Z0 _ 3 _ hkb).mono ?_; rintro e w2 ⟨rfl,hx⟩; obtain rfl:=hx.symm))
    go_wp2_with fail
    go_loop [4] (fun ev=>∃ q:Nat,start + 1 <= q /\ q <= s.size /\ ev = .int .i64 (q:Int) /\ Hid (∀ j,start <= j -> j < q -> (cls (bt s j) = 2 \/ cls (bt s j) = 3))) (fun ev=>s.size - (intOf ev).toNat)
    case atStart=>
     refine ⟨start + 1,Nat.le_refl _,by omega,by go_num,zB (fun j h1 h2=>?_)⟩
     have:j = start:=by omega
     subst this
     exact Or.inr (zA HC)
    case round=>
     obtain ⟨q,hq1,hq2,rfl,hn⟩:=hrel
     go_wp2_with fail
     refine (zGR p bo bs L s gap start v 3 q _ (zA HSN).sc hq2 (by omega)).mono ?_
     rintro e w3 ⟨⟨y,rfl,hy⟩,hx⟩
     obtain rfl:=hx.symm
     have HY:=zB hy
     clear hy
     cases y
     ·have HT:=zB (show zBI xs s start (q - start) 2 by
       have no:¬ (q < s.size /\ (cls (bt s q) = 2 \/ (cls (bt s q) = 3 /\ 3 = 3))):=fun hh=>Bool.false_ne_true ((zA HY).2 hh)
       have hqe:start + (q - start) = q:=by omega
       exact ⟨by omega,by omega,Or.inr (Or.inl ⟨zA HC,rfl,fun j hj=>(zA hn) (start + j) (by omega) (by omega),fun hx hd=>no ⟨by omega,by rw [hqe] at hd; exact hd.elim Or.inl (fun x=>Or.inr ⟨x,rfl⟩)⟩⟩)⟩)
      go_wp2_with (first | (go_at_call 128; refine (zJ8 _).mono ?_; rintro e w3 ⟨rfl,hx⟩; obtain rfl:=hx.symm))
      refine (zAo p bo bs L xs s gap start v 2 q _ _ acc w _ (zA HSN) hs (by omega) hq2 rfl rfl hlt (by have:=zA HC; omega) (zA HT)).mono ?_
      rintro e w4 ⟨rfl,acc',v',hsn'⟩
      go_wp2_with fail
      go_roundg (s.size - q)
      case measure=>omega
      case rel=>exact ⟨q,q,acc',v',rfl,hsn'⟩
     ·have HY':=zB (show q < s.size /\ ∀ j,start <= j -> j < q + 1 -> (cls (bt s j) = 2 \/ cls (bt s j) = 3) from by
       have hy:=(zA HY).1 rfl
       refine ⟨hy.1,fun j h1 h2=>?_⟩
       by_cases e:j = q
       ·subst e
        exact hy.2.elim (fun x=>Or.inl x) (fun x=>Or.inr x.1)
       ·exact (zA hn) j h1 (by omega))
      have hqlt:=(zA HY').1
      go_wp2_with fail
      exact ⟨⟨q + 1,by omega,by omega,by go_num,zB (zA HY').2⟩,by simp [intOf]; omega⟩
   ·have hkb:(cls s[start]:Int) = 6:=by rw [ZM hlt,hc]; rfl
    have HC:=zB hc
    have HSN:=zB (zA hsn).drew.drew
    have c2:=(zA hsn).sc.c2
    clear hc hsn
    go_region_held (fun w'=>w'.cell? ⟨p,3,none⟩ = some (.string s) /\ w'.cell? ⟨p,5,none⟩ = some (.int .i64 (start:Int))) (go_keep) (first | (go_at_call 125; refine (Z0 _ 6 _ hkb).mono ?_; rintro e w2 ⟨rfl,hx⟩; obtain rfl:=hx.symm))
    have hwr:IntKind.i64.wrap ((start:Int) + (L:Int)) = (start:Int) + (L:Int):=by rw [IntKind.wrap_i64]; omega
    have hmin:min ((start:Int) + (L:Int)) (s.size:Int) = ((min (start + L) s.size:Nat):Int):=by omega
    go_wp2_with fail
    go_region_held (fun w'=>w'.cell? ⟨p,2,none⟩ = some (.int .i64 (L:Int)) /\ w'.cell? ⟨p,3,none⟩ = some (.string s) /\ w'.cell? ⟨p,5,none⟩ = some (.int .i64 (start:Int))) (go_keep) (fail)
    go_wp2_with fail
    have HS2:=zB (zA HSN).drew
    clear HSN c2
    go_loopw [5] (fun ev wq=>∃ q:Nat,start <= q /\ q <= s.size /\ ev = .int .i64 (q:Int) /\ Hid (∀ m,q < start + m -> start + m <= s.size -> ¬ opT xs (sub s start m)) /\ Hid (zB9 w wq p bo bs L xs s gap start acc v)) (fun ev _=>(intOf ev).toNat)
    case atStart=>
     refine ⟨min (start + L) s.size,by omega,by omega,rfl,zB (fun m h1 h2 ho=>?_),HS2⟩
     obtain ⟨j,hj,e⟩:=ho
     have h3:=(zA HLX) j hj
     rw [e,zAF h2] at h3
     omega
    case round=>
     clear HS2
     obtain ⟨q,hq1,hq2,rfl,hn,hsn⟩:=hrel
     have d0:=(zA hsn).sc.c0
     have d1:=(zA hsn).sc.c1
     have d3:=(zA hsn).sc.c3
     have d5:=(zA hsn).sc.c5
     by_cases hqs:start < q
     ·have hqsI:(start:Int) < (q:Int):=by omega
      have hs1:(start:Int) <= (q:Int):=by omega
      have hs2:(q:Int) <= (s.size:Int):=by omega
      have hxe:=zB (zOd (s:=s) hq1)
      have hzp:=(zA hsn).lt
      go_wp2_with fail
      go_region_held (fun w'=>w'.cell? ⟨p,0,none⟩ = some (.map (some bo)) /\ w'.cell? ⟨p,1,none⟩ = some (.map (some bs)) /\ w'.cell? ⟨p,3,none⟩ = some (.string s) /\ w'.cell? ⟨p,5,none⟩ = some (.int .i64 (start:Int))) (go_keep) (first | (go_at_call 129; refine (zJJ bo bs xs.length xs (s.extract start q) _ (zA hsn).drew.idx rfl (zA HK) (by rw [zA hxe,zAF (by omega)]; unfold maxLen; omega)).mono ?_; rintro e w5 ⟨⟨y,rfl,hy⟩,hb5⟩; have HY:=zB hy; have HS5:=zB ((zA hsn).drew.below hb5); have e0:=(zA HS5).sc.c0; have e1:=(zA HS5).sc.c1; have e3:=(zA HS5).sc.c3; have e5:=(zA HS5).sc.c5; clear hy hb5))
      cases y
      ·have HN:=zB (show ∀ m,q - 1 < start + m -> start + m <= s.size -> ¬ opT xs (sub s start m) from fun m h1 h2 ho=>by
        by_cases e:q < start + m
        ·exact (zA hn) m e h2 ho
        ·have e2:m = q - start:=by omega
         subst e2
         rw [<- zA hxe] at ho
         exact Bool.false_ne_true ((zA HY).2 ho))
       go_wp2_with fail
       exact ⟨⟨q - 1,by omega,by omega,by first | (go_num; done) | (congr 1; omega),HN,HS5⟩,by simp [intOf]; omega⟩
      ·have HT:=zB (show zBI xs s start (q - start) 3 by
        refine ⟨by omega,by omega,Or.inr (Or.inr (Or.inr (Or.inr (Or.inl ⟨zA HC,Or.inl ⟨rfl,?_,fun m h1 h2=>(zA hn) m (by omega) h2⟩⟩))))⟩
        rw [<- zA hxe]
        exact (zA HY).1 rfl)
       go_wp2_with fail
       refine (zAo p bo bs L xs s gap start v 3 q _ _ acc w _ (zA HS5) hs (by omega) hq2 rfl rfl hlt (by have:=zA HC; omega) (zA HT)).mono ?_
       rintro e w6 ⟨rfl,acc',v',hsn'⟩
       go_wp2_with fail
       go_roundg (s.size - q)
       case measure=>omega
       case rel=>exact ⟨q,q,acc',v',rfl,hsn'⟩
     ·have HT:=zB (show zBI xs s start (start + 1 - start) 6 by
       rw [show start + 1 - start = 1 by omega]
       exact ⟨Nat.le_refl _,by omega,Or.inr (Or.inr (Or.inr (Or.inr (Or.inl ⟨zA HC,Or.inr ⟨rfl,rfl,fun m h1 h2=>(zA hn) m (by omega) h2⟩⟩))))⟩)
      have hqsI:¬ (start:Int) < (q:Int):=by omega
      go_wp2_with fail
      refine (zAo p bo bs L xs s gap start v 6 (start + 1) _ _ acc w _ (zA hsn) hs (by omega) (by omega) rfl (by omega) hlt (by have:=zA HC; omega) (zA HT)).mono ?_
      rintro e w6 ⟨rfl,acc',v',hsn'⟩
      go_wp2_with fail
      go_roundg (s.size - (start + 1))
      case measure=>omega
      case rel=>exact ⟨start + 1,start + 1,acc',v',rfl,hsn'⟩
   ·have hkb:(cls s[start]:Int) = 4:=by rw [ZM hlt,hc]; rfl
    have HT:=zB (show zBI xs s start (start + 1 - start) 4 by rw [show start + 1 - start = 1 by omega]; exact ⟨Nat.le_refl _,by omega,Or.inr (Or.inr (Or.inl ⟨hc,rfl,rfl⟩))⟩)
    have HC:=zB hc
    have HSN:=zB (zA hsn).drew.drew
    clear hc hsn
    go_region_held (fun w'=>w'.cell? ⟨p,3,none⟩ = some (.string s) /\ w'.cell? ⟨p,5,none⟩ = some (.int .i64 (start:Int))) (go_keep) (first | (go_at_call 125; refine (Z0 _ 4 _ hkb).mono ?_; rintro e w2 ⟨rfl,hx⟩; obtain rfl:=hx.symm))
    go_wp2_with fail
    refine (zAo p bo bs L xs s gap start v 4 (start + 1) _ _ acc w _ (zA HSN) hs (by omega) (by omega) rfl (by omega) hlt (by have:=zA HC; omega) (zA HT)).mono ?_
    rintro e w4 ⟨rfl,acc',v',hsn'⟩
    go_wp2_with fail
    go_roundg (s.size - (start + 1))
    case measure=>omega
    case rel=>exact ⟨start + 1,start + 1,acc',v',rfl,hsn'⟩
   ·have hkb:(cls s[start]:Int) = 5:=by rw [ZM hlt,hc]; rfl
    have HT:=zB (show zBI xs s start (start + 1 - start) 5 by rw [show start + 1 - start = 1 by omega]; exact ⟨Nat.le_refl _,by omega,Or.inr (Or.inr (Or.inr (Or.inl ⟨hc,rfl,rfl⟩)))⟩)
    have HC:=zB hc
    have HSN:=zB (zA hsn).drew.drew
    clear hc hsn
    go_region_held (fun w'=>w'.cell? ⟨p,3,none⟩ = some (.string s) /\ w'.cell? ⟨p,5,none⟩ = some (.int .i64 (start:Int))) (go_keep) (first | (go_at_call 125; refine (Z0 _ 5 _ hkb).mono ?_; rintro e w2 ⟨rfl,hx⟩; obtain rfl:=hx.symm))
    go_wp2_with fail
    refine (zAo p bo bs L xs s gap start v 5 (start + 1) _ _ acc w _ (zA HSN) hs (by omega) (by omega) rfl (by omega) hlt (by have:=zA HC; omega) (zA HT)).mono ?_
    rintro e w4 ⟨rfl,acc',v',hsn'⟩
    go_wp2_with fail
    go_roundg (s.size - (start + 1))
    case measure=>omega
    case rel=>exact ⟨start + 1,start + 1,acc',v',rfl,hsn'⟩
   ·have hkb:(cls s[start]:Int) = 0:=by rw [ZM hlt,hc]; rfl
    have HT:=zB (show zBI xs s start (start + 1 - start) 6 by rw [show start + 1 - start = 1 by omega]; exact ⟨Nat.le_refl _,by omega,Or.inr (Or.inr (Or.inr (Or.inr (Or.inr ⟨hc,rfl,rfl⟩))))⟩)
    have HC:=zB hc
    have HSN:=zB (zA hsn).drew.drew
    clear hc hsn
    go_region_held (fun w'=>w'.cell? ⟨p,3,none⟩ = some (.string s) /\ w'.cell? ⟨p,5,none⟩ = some (.int .i64 (start:Int))) (go_keep) (first | (go_at_call 125; refine (Z0 _ 0 _ hkb).mono ?_; rintro e w2 ⟨rfl,hx⟩; obtain rfl:=hx.symm))
    go_wp2_with fail
    refine (zAo p bo bs L xs s gap start v 6 (start + 1) _ _ acc w _ (zA HSN) hs (by omega) (by omega) rfl (by omega) hlt (by have:=zA HC; omega) (zA HT)).mono ?_
    rintro e w4 ⟨rfl,acc',v',hsn'⟩
    go_wp2_with fail
    go_roundg (s.size - (start + 1))
    case measure=>omega
    case rel=>exact ⟨start + 1,start + 1,acc',v',rfl,hsn'⟩
  ·go_wp2_with fail
   go_region_held (fun w'=>w'.cell? ⟨p,3,none⟩ = some (.string s) /\ w'.cell? ⟨p,5,none⟩ = some (.int .i64 (start:Int))) (go_keep) (fail)
   go_wp2_with fail
   have HSN:=zB (zA hsn).drew
   have HE:=zB (show start = s.size by omega)
   clear hsn
   refine (zHS p bo bs L xs s gap start v 7 start _ _ acc w _ (zA HSN) hs (Nat.le_refl _) le2 rfl rfl).mono ?_
   rintro e w4 ⟨rfl,g,cap,hsc,hown,hgp,hkp⟩
   have HKP:=zB hkp
   clear hkp
   go_wp2_with fail
   rw [Exit.noGoto_normal]
   go_end0
   refine ⟨rfl,g,cap,acc ++ [⟨7,s.extract gap start,s.extract start start⟩],zB ?_,?_,zB ?_,zB ?_,?_⟩
   ·rw [List.length_append]; exact (zA hsc).c6
   ·refine ⟨((zA hown).lt g rfl).1,?_⟩
    rw [List.length_append]
    obtain ⟨_,⟨h,_⟩ | ⟨g',cap',cur,h,_,_,h1,h2,_⟩⟩:=zA hown
    ·cases h
    ·injection h with _ _ h
     subst h
     exact ⟨h1,h2⟩
   ·have ho:w4.ownsRow p 97 3 (.slice (some ⟨g,0,none⟩) (acc ++ [(⟨7,s.extract gap start,s.extract start start⟩:zI)]).length cap) (acc ++ [(⟨7,s.extract gap start,s.extract start start⟩:zI)]).length (zY (acc ++ [(⟨7,s.extract gap start,s.extract start start⟩:zI)])):=by
     rw [List.length_append]; exact zA hown
    exact (zBm ho).2
   ·have h1:=(zA HSN)
    have h2:=h1.rd.done (by have:=h1.le1; have:=h1.le2; omega) (zA HE ▸ h1.bl)
    rw [zIK,zA HE]
    exact h2
   ·have h1:=(zA HSN)
    refine h1.bel.trans ⟨(zA HKP).os,(zA HKP).tape,(zA HKP).output,(zA HKP).size,fun i hi=>(zA HKP).block i (by have:=h1.lt; omega) (by omega) (fun e=>?_)⟩
    have:=(h1.own.lt i e.symm).1
    omega
end Go.Proofs.YtfboipappaonhaaGreat
